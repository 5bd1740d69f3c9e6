/- cell over lists: attributes, changed by numbers; a cell's bytes. It speaks of no program. Own work. api.Attr, api.Cell: as values and as elements that are read. Own work. Rows of api.Cell in memory, told by functions of a place; copy, stores. Own work. grid: within, fill, toFront, toBack; a cell that is stored. Own work. grid: toFront, toBack. Own work (rgn/XGridT.lean by rgn.py). grid.Grid: W, H, places, rows, rest, cellsOf. Own work. grid.Grid: rows, cellsOf, Fill, Up, Down, Right, Left. By program (rgn/XGridM.py). Own work. grid: New, At. Own work. grid: slices.Clone of cells, Cells, Copy, Size. Own work (rgn/XGridC.lean by rgn.py). -/
import Derived.WalkKit
import Derived.Test.YtnminmaklbhakaaGreatDoorBase
import Derived.Deep.Strs
import Derived.Deep.Cut
import Derived.IntWalk
import Derived.Laws.MakeOwn
set_option linter.unusedVariables false
set_option linter.unusedSimpArgs false
namespace Go.Proofs.YtnminmaklbhakaaGreatDoor
set_option linter.unusedVariables false
set_option linter.unusedSimpArgs false

/-- An attribute. -/
structure At where
  fg : Int
  bg : Int
  b : Bool
  u : Bool
  i : Bool

def At.z : At := ⟨0, 0, false, false, false⟩
def At.v (a : At) : Value := .agg #[.int .i64 a.fg, .int .i64 a.bg, .bool a.b, .bool a.u, .bool a.i]
def At.ok (a : At) : Prop := 0 ≤ a.fg ∧ a.fg ≤ 16 ∧ 0 ≤ a.bg ∧ a.bg ≤ 16
instance (a : At) : Decidable a.ok := by unfold At.ok; infer_instance

/-- The color that a number asks for in front. -/
def colorL (n : Int) : Int × Bool := if 30 ≤ n ∧ n ≤ 37 then (n - 29, true) else if 90 ≤ n ∧ n ≤ 97 then (n - 81, true) else if n = 39 then (0, true) else (0, false)

/-- A number that needs no other one. -/
def changeL (a : At) (n : Int) : At :=
  if n = 0 ∨ n = -1 then .z
  else if n = 1 ∨ n = 22 then { a with b := n == 1 }
  else if n = 4 ∨ n = 24 then { a with u := n == 4 }
  else if n = 7 ∨ n = 27 then { a with i := n == 7 }
  else if 30 ≤ n ∧ n ≤ 37 then { a with fg := n - 29 }
  else if 90 ≤ n ∧ n ≤ 97 then { a with fg := n - 81 }
  else if 40 ≤ n ∧ n ≤ 47 then { a with bg := n - 39 }
  else if 100 ≤ n ∧ n ≤ 107 then { a with bg := n - 91 }
  else if n = 39 then { a with fg := 0 }
  else if n = 49 then { a with bg := 0 }
  else a

/-- What becomes of a color by the numbers of which the first one chooses, and how many of them are done. -/
def chooseL (was : Int) (l : List Int) : Int × Nat :=
  if l.length < 2 then (was, 1)
  else if l.getD 1 0 = 5 then (if 2 < l.length ∧ 0 ≤ l.getD 2 0 ∧ l.getD 2 0 ≤ 15 then (l.getD 2 0 + 1, 3) else (was, 3))
  else if l.getD 1 0 = 2 then (was, 5) else (was, 1)

def stepL (a : At) (l : List Int) : At × Nat :=
  if l.getD 0 0 = 38 then ({ a with fg := (chooseL a.fg l).1 }, (chooseL a.fg l).2)
  else if l.getD 0 0 = 48 then ({ a with bg := (chooseL a.bg l).1 }, (chooseL a.bg l).2)
  else (changeL a (l.getD 0 0), 1)

theorem chooseL_pos (c : Int) (l : List Int) : 1 ≤ (chooseL c l).2 ∧ (chooseL c l).2 ≤ 5 := by
  unfold chooseL
  repeat' split
  all_goals simp
theorem stepL_pos (a : At) (l : List Int) : 1 ≤ (stepL a l).2 ∧ (stepL a l).2 ≤ 5 := by
  unfold stepL
  split
  · exact chooseL_pos _ _
  split
  · exact chooseL_pos _ _
  · simp

def goL : Nat → At → List Int → At
  | 0, a, _ => a
  | n + 1, a, l => if l = [] then a else goL n (stepL a l).1 (l.drop (stepL a l).2)

theorem goL_nil (n : Nat) (a : At) : goL n a [] = a := by cases n <;> simp [goL]
theorem goL_more (n : Nat) : ∀ (m : Nat) (a : At) (l : List Int), l.length ≤ n → l.length ≤ m → goL n a l = goL m a l := by
  induction n with
  | zero =>
    intro m a l h _
    have : l = [] := List.eq_nil_of_length_eq_zero (by omega)
    subst this
    rw [goL_nil, goL_nil]
  | succ n ih =>
    intro m a l h1 h2
    by_cases hl : l = []
    · subst hl; rw [goL_nil, goL_nil]
    · obtain ⟨m, rfl⟩ : ∃ k, m = k + 1 := ⟨m - 1, by have := List.length_pos_iff.2 hl; omega⟩
      have hp := (stepL_pos a l).1
      have := List.length_pos_iff.2 hl
      simp only [goL, if_neg hl]
      exact ih m _ _ (by rw [List.length_drop]; omega) (by rw [List.length_drop]; omega)

/-- What is left to be done, of numbers that may be none. -/
def sgrOn (a : At) (l : List Int) : At := goL l.length a l
def sgrL (a : At) (l : List Int) : At := if l = [] then .z else sgrOn a l

theorem sgrOn_nil (a : At) : sgrOn a [] = a := rfl
theorem sgrOn_step (a : At) (l : List Int) (h : l ≠ []) : sgrOn a l = sgrOn (stepL a l).1 (l.drop (stepL a l).2) := by
  have := List.length_pos_iff.2 h
  have hp := (stepL_pos a l).1
  unfold sgrOn
  obtain ⟨n, hn⟩ : ∃ n, l.length = n + 1 := ⟨l.length - 1, by omega⟩
  rw [hn]
  simp only [goL, if_neg h]
  exact goL_more _ _ _ _ (by rw [List.length_drop]; omega) (by rw [List.length_drop]; omega)
theorem sgrL_cons (a : At) (n : Int) (l : List Int) : sgrL a (n :: l) = sgrOn a (n :: l) := rfl

/-- A number that takes no others along. -/
theorem sgrOn_plain (a : At) (n : Int) (l : List Int) (h1 : n ≠ 38) (h2 : n ≠ 48) : sgrOn a (n :: l) = sgrOn (changeL a n) l := by
  rw [sgrOn_step a (n :: l) (by simp)]
  simp [stepL, h1, h2]
theorem changeL_zero (a : At) : changeL a 0 = .z := rfl

theorem changeL_ok (a : At) (n : Int) (h : a.ok) : (changeL a n).ok := by
  obtain ⟨h1, h2, h3, h4⟩ := h
  unfold changeL
  repeat' split
  all_goals first
    | exact ⟨by decide, by decide, by decide, by decide⟩
    | exact ⟨h1, h2, h3, h4⟩
    | exact ⟨by simp only; omega, by simp only; omega, h3, h4⟩
    | exact ⟨h1, h2, by simp only; omega, by simp only; omega⟩
theorem chooseL_ok (c : Int) (l : List Int) (h1 : 0 ≤ c) (h2 : c ≤ 16) : 0 ≤ (chooseL c l).1 ∧ (chooseL c l).1 ≤ 16 := by
  unfold chooseL
  repeat' split
  all_goals simp only
  all_goals omega
theorem stepL_ok (a : At) (l : List Int) (h : a.ok) : (stepL a l).1.ok := by
  unfold stepL
  split
  · have := chooseL_ok a.fg l h.1 h.2.1
    exact ⟨this.1, this.2, h.2.2⟩
  split
  · have := chooseL_ok a.bg l h.2.2.1 h.2.2.2
    exact ⟨h.1, h.2.1, this⟩
  · exact changeL_ok a _ h
theorem goL_ok (n : Nat) : ∀ (a : At) (l : List Int), a.ok → (goL n a l).ok := by
  induction n with
  | zero => intro a l h; exact h
  | succ n ih =>
    intro a l h
    unfold goL
    split
    · exact h
    · exact ih _ _ (stepL_ok a l h)
theorem sgrL_ok (a : At) (l : List Int) (h : a.ok) : (sgrL a l).ok := by
  unfold sgrL
  split
  · exact ⟨by decide, by decide, by decide, by decide⟩
  · exact goL_ok _ _ _ h

/-- A 0 ends all that was ahead of it. -/
theorem sgrL_zero (a : At) (m : List Int) (h : m ≠ []) : sgrL a (0 :: m) = sgrL .z m := by
  rw [sgrL_cons, sgrOn_plain a 0 m (by decide) (by decide), changeL_zero, sgrL, if_neg h]
/-- One by one, where none takes others along. -/
theorem sgrL_one (a : At) (n : Int) (h1 : n ≠ 38) (h2 : n ≠ 48) : sgrL a [n] = changeL a n := by
  rw [sgrL_cons, sgrOn_plain a n [] h1 h2, sgrOn_nil]
theorem sgrOn_all (l : List Int) : ∀ (a : At), (∀ n ∈ l, n ≠ 38 ∧ n ≠ 48) → sgrOn a l = l.foldl (fun a n => sgrL a [n]) a := by
  induction l with
  | nil => intro a _; rfl
  | cons n r ih =>
    intro a h
    obtain ⟨h1, h2⟩ := h n (by simp)
    rw [sgrOn_plain a n r h1 h2, List.foldl_cons, sgrL_one a n h1 h2]
    exact ih _ (fun x hx => h x (by simp [hx]))

/-- A cell. -/
structure CellM where
  r : Int
  a : At
def CellM.v (c : CellM) : Value := .agg #[.int .i32 c.r, .int .i64 c.a.fg, .int .i64 c.a.bg, .bool c.a.b, .bool c.a.u, .bool c.a.i]
def CellM.z : CellM := ⟨0, .z⟩
/-- The marks, together in a byte. -/
def At.marks (a : At) : Nat := (if a.b = true then 1 else 0) + (if a.u = true then 2 else 0) + (if a.i = true then 4 else 0)
theorem At.marks_le (a : At) : a.marks ≤ 7 := by
  unfold At.marks
  repeat' split
  all_goals omega

end Go.Proofs.YtnminmaklbhakaaGreatDoor
namespace Go.Proofs.YtnminmaklbhakaaGreatDoor
set_option linter.unusedVariables false
open Go.RowKit Go.ChangeShapes Go.WideShapes Go.Deep

section
variable {H : Type} {enc : TypeId × Value → H} {w : World}

def At.wf (a : At) : Prop := (-9223372036854775808 ≤ a.fg ∧ a.fg ≤ 9223372036854775807) ∧ -9223372036854775808 ≤ a.bg ∧ a.bg ≤ 9223372036854775807
def CellM.wf (c : CellM) : Prop := (-2147483648 ≤ c.r ∧ c.r ≤ 2147483647) ∧ c.a.wf
def attrCs (a : At) : List Value := [.int .i64 a.fg, .int .i64 a.bg, .bool a.b, .bool a.u, .bool a.i]
def cellCs (c : CellM) : List Value := .int .i32 c.r :: attrCs c.a

theorem cof_int : Tryz.prog.cellsOf 3 = 1 := by kernel_rfl
theorem cof_bool : Tryz.prog.cellsOf 4 = 1 := by kernel_rfl
theorem cof_rune : Tryz.prog.cellsOf 21 = 1 := by kernel_rfl
theorem cof_attr : Tryz.prog.cellsOf 43 = 5 := by kernel_rfl
theorem flat6_len (xs : List CellM) : (xs.flatMap cellCs).length = xs.length * 6 := by
  induction xs with
  | nil => rfl
  | cons c r ih => rw [List.flatMap_cons, List.length_append, ih, List.length_cons]; simp [cellCs, attrCs]; omega

set_option maxRecDepth 100000 in
theorem attr_read {n : Nat} {cs : List Value} {y : DataW H × List MemPlace} (h : DataW.trod enc Tryz.prog w 0 (fun _ => true) true n 43 cs = some y) : ∃ a : At, cs = attrCs a ∧ a.wf := by
  obtain ⟨xs, m, _, rfl, hl, hlen, hf⟩ := DataW.trod_struct Tryz.underlying43 h
  have hl' : cs.length = 5 := hl
  match cs, hl' with
  | [u0, u1, u2, u3, u4], _ =>
    match xs, hlen with
    | [y0, y1, y2, y3, y4], _ =>
      obtain ⟨a, e0, _, w0⟩ := DataW.trod_int Tryz.underlying3 (show DataW.trod enc Tryz.prog w 0 (fun _ => true) true m 3 [u0] = some y0 by simpa [cof_int, cof_bool, cof_rune, cof_attr] using hf 0 _ rfl)
      obtain ⟨b, e1, _, w1⟩ := DataW.trod_int Tryz.underlying3 (show DataW.trod enc Tryz.prog w 0 (fun _ => true) true m 3 [u1] = some y1 by simpa [cof_int, cof_bool, cof_rune, cof_attr] using hf 1 _ rfl)
      obtain ⟨c, e2, _⟩ := DataW.trod_bool Tryz.underlying4 (show DataW.trod enc Tryz.prog w 0 (fun _ => true) true m 4 [u2] = some y2 by simpa [cof_int, cof_bool, cof_rune, cof_attr] using hf 2 _ rfl)
      obtain ⟨d, e3, _⟩ := DataW.trod_bool Tryz.underlying4 (show DataW.trod enc Tryz.prog w 0 (fun _ => true) true m 4 [u3] = some y3 by simpa [cof_int, cof_bool, cof_rune, cof_attr] using hf 3 _ rfl)
      obtain ⟨e, e4, _⟩ := DataW.trod_bool Tryz.underlying4 (show DataW.trod enc Tryz.prog w 0 (fun _ => true) true m 4 [u4] = some y4 by simpa [cof_int, cof_bool, cof_rune, cof_attr] using hf 4 _ rfl)
      simp at e0 e1 e2 e3 e4
      exact ⟨⟨a, b, c, d, e⟩, by simp [attrCs, e0, e1, e2, e3, e4], wf_bounds w0, wf_bounds w1⟩

set_option maxRecDepth 100000 in
theorem cell_read {n : Nat} {cs : List Value} {y : DataW H × List MemPlace} (h : DataW.trod enc Tryz.prog w 0 (fun _ => true) true n 46 cs = some y) : ∃ c : CellM, cs = cellCs c ∧ c.wf := by
  obtain ⟨xs, m, _, rfl, hl, hlen, hf⟩ := DataW.trod_struct Tryz.underlying46 h
  have hl' : cs.length = 6 := hl
  match cs, hl' with
  | [u0, u1, u2, u3, u4, u5], _ =>
    match xs, hlen with
    | [y0, y1], _ =>
      obtain ⟨a, e0, _, w0⟩ := DataW.trod_int Tryz.underlying21 (show DataW.trod enc Tryz.prog w 0 (fun _ => true) true m 21 [u0] = some y0 by simpa [cof_int, cof_bool, cof_rune, cof_attr] using hf 0 _ rfl)
      obtain ⟨b, e1, w1⟩ := attr_read (show DataW.trod enc Tryz.prog w 0 (fun _ => true) true m 43 [u1, u2, u3, u4, u5] = some y1 by simpa [cof_int, cof_bool, cof_rune, cof_attr] using hf 1 _ rfl)
      simp at e0
      refine ⟨⟨a, b⟩, by simp [cellCs, e0, e1], ?_, w1⟩
      simpa [Lit.wf, IntKind.min, IntKind.max, IntKind.signed, IntKind.bits] using w0

/-- A cell that lies at b, off. -/
def CellAt (w : World) (b off : Nat) (c : CellM) : Prop := (∀ i v, (cellCs c)[i]? = some v → w.cell? ⟨b, off + i, none⟩ = some v) ∧ c.wf

theorem cell_at_read (b off n : Nat) (cs : List Value) (y : DataW H × List MemPlace) (hw : ∀ i, i < 6 → w.cell? ⟨b, off + i, none⟩ = cs[i]?) (hl : cs.length = 6)
    (h : DataW.trod enc Tryz.prog w 0 (fun _ => true) true n 46 cs = some y) : ∃ c, CellAt w b off c := by
  obtain ⟨c, rfl, hc⟩ := cell_read h
  refine ⟨c, fun i v hi => ?_, hc⟩
  have : i < 6 := by
    rcases Nat.lt_or_ge i 6 with e | e
    · exact e
    · rw [List.getElem?_eq_none (by rw [hl]; exact e)] at hi; cases hi
  rw [hw i this, hi]

/-- n cells that are read. -/
def CellsL (w : World) (A : Option Addr) (n : Nat) (xs : List CellM) : Prop := Src w A (n * 6) (xs.flatMap cellCs) ∧ xs.length = n ∧ n ≤ maxLen ∧ ∀ c ∈ xs, c.wf

theorem flat6_at (xs : List CellM) : ∀ i v, (xs.flatMap cellCs)[i]? = some v → ∃ c, xs[i / 6]? = some c ∧ (cellCs c)[i % 6]? = some v := by
  induction xs with
  | nil => intro i v h; simp at h
  | cons c r ih =>
    intro i v h
    rw [List.flatMap_cons] at h
    by_cases hi : i < 6
    · rw [List.getElem?_append_left (by simpa [cellCs, attrCs] using hi)] at h
      exact ⟨c, by rw [Nat.div_eq_of_lt hi]; rfl, by rw [Nat.mod_eq_of_lt hi]; exact h⟩
    · rw [List.getElem?_append_right (by simp [cellCs, attrCs]; omega)] at h
      obtain ⟨d, h1, h2⟩ := ih _ v h
      have e : (cellCs c).length = 6 := rfl
      rw [e] at h1 h2
      exact ⟨d, by rw [show i / 6 = (i - 6) / 6 + 1 from by omega, List.getElem?_cons_succ]; exact h1, by rw [show i % 6 = (i - 6) % 6 from by omega]; exact h2⟩

theorem cells_read {fuel : Nat} {A : Option Addr} {n c : Nat} {y : DataW H × List MemPlace}
    (h : DataW.trod enc Tryz.prog w 0 (fun _ => true) true fuel 32 [.slice A n c] = some y) : ∃ xs, CellsL w A n xs := by
  obtain ⟨xs, h1, h2, h3⟩ := structs_read (CellAt w) 6 (by omega) Tryz.underlying32 (by kernel_rfl) (fun b off n cs y hw hl h => cell_at_read b off n cs y hw hl h) h
  refine ⟨xs, ⟨by rw [flat6_len, h1], fun h0 => ?_⟩, h1, h2, fun c hc => ?_⟩
  · obtain ⟨b, off, e, hb, hq⟩ := h3 (by omega)
    refine ⟨b, off, e, hb, fun i v hi => ?_⟩
    obtain ⟨d, e1, e2⟩ := flat6_at xs i v hi
    have := (hq _ d e1).1 _ v e2
    rwa [show off + i / 6 * 6 + i % 6 = off + i from by omega] at this
  · obtain ⟨i, hi, e⟩ := List.getElem_of_mem hc
    have h0 : 0 < n := by omega
    obtain ⟨b, off, e', hb, hq⟩ := h3 h0
    exact (hq i c (by rw [List.getElem?_eq_getElem hi, e])).2

theorem ints_read_cap {P : Program} {t e : TypeId} (ht : P.underlying t = some (.slice e)) (he : P.underlying e = some (.int .i64)) (hc : P.cellsOf e = 1) {fuel : Nat} {v : Value} {y : DataW H × List MemPlace} (h : DataW.trod enc P w 0 (fun _ => true) true fuel t [v] = some y) :
    ∃ A len cap zs, v = .slice A len cap ∧ Ints w A len zs ∧ len ≤ cap := by
  rcases open_ints ht he hc h with ⟨hcs, _⟩ | ⟨x, l, c, zs, hcs, _, hl, hm, hz, _, hcell, hwz⟩
  · injection hcs with h1
    exact ⟨none, 0, 0, [], h1, ints_nil _ _, Nat.le_refl _⟩
  · injection hcs with h1
    have hz' : zs.length = c := by simpa using hz
    exact ⟨some x, l, c, _, h1, ints_of (by omega) hcell hwz (Nat.le_trans hl hm), hl⟩
end

end Go.Proofs.YtnminmaklbhakaaGreatDoor
namespace Go.Proofs.YtnminmaklbhakaaGreatDoor
set_option linter.unusedVariables false
set_option linter.unusedSimpArgs false
open Go.RowKit

theorem cellCs_len (c : CellM) : (cellCs c).length = 6 := rfl
theorem cellCs_lt {c : CellM} {i : Nat} {v : Value} (h : (cellCs c)[i]? = some v) : i < 6 := by
  rcases Nat.lt_or_ge i 6 with e | e
  · exact e
  · rw [List.getElem?_eq_none (by rw [cellCs_len]; exact e)] at h; cases h
theorem cellCs_one (c : CellM) : ∀ u ∈ cellCs c, u.oneCell' = true := by
  intro u hu
  simp [cellCs, attrCs] at hu
  rcases hu with rfl | rfl | rfl | rfl | rfl | rfl <;> rfl

def flatF (f : Nat → CellM) (n : Nat) : List Value := (List.range n).flatMap fun k => cellCs (f k)
theorem flatF_succ (f : Nat → CellM) (n : Nat) : flatF f (n + 1) = flatF f n ++ cellCs (f n) := by simp [flatF, List.range_succ]
theorem flatF_len (f : Nat → CellM) (n : Nat) : (flatF f n).length = n * 6 := by
  induction n with
  | zero => rfl
  | succ n ih => rw [flatF_succ, List.length_append, ih, cellCs_len]; omega
theorem flatF_at (f : Nat → CellM) : ∀ (n j : Nat) (v : Value), (flatF f n)[j]? = some v ↔ j < n * 6 ∧ (cellCs (f (j / 6)))[j % 6]? = some v := by
  intro n
  induction n with
  | zero => intro j v; simp [flatF]
  | succ n ih =>
    intro j v
    rw [flatF_succ]
    by_cases h : j < n * 6
    · rw [List.getElem?_append_left (by rw [flatF_len]; exact h), ih]
      constructor
      · rintro ⟨a, b⟩; exact ⟨by omega, b⟩
      · rintro ⟨a, b⟩; exact ⟨h, b⟩
    · rw [List.getElem?_append_right (by rw [flatF_len]; omega), flatF_len]
      constructor
      · intro e
        have := cellCs_lt e
        rw [show j / 6 = n from by omega, show j % 6 = j - n * 6 from by omega]
        exact ⟨by omega, e⟩
      · rintro ⟨a, b⟩
        rw [show j / 6 = n from by omega, show j % 6 = j - n * 6 from by omega] at b
        exact b
theorem flatF_one (f : Nat → CellM) (n : Nat) : ∀ u ∈ flatF f n, u.oneCell' = true := by
  intro u hu
  simp only [flatF, List.mem_flatMap] at hu
  obtain ⟨k, -, h⟩ := hu
  exact cellCs_one _ u h
theorem flatF_take (xs : List CellM) (f : Nat → CellM) (h : ∀ k c, xs[k]? = some c → f k = c) : ∀ n, n ≤ xs.length → flatF f n = (xs.take n).flatMap cellCs := by
  intro n
  induction n with
  | zero => intro _; simp [flatF]
  | succ n ih =>
    intro hn
    have e : xs[n]? = some xs[n] := List.getElem?_eq_getElem (by omega)
    rw [flatF_succ, ih (by omega), List.take_add_one, e, List.flatMap_append, h n _ e]
    simp
theorem flatF_list (xs : List CellM) (f : Nat → CellM) (h : ∀ k c, xs[k]? = some c → f k = c) : flatF f xs.length = xs.flatMap cellCs := by
  rw [flatF_take xs f h _ (Nat.le_refl _), List.take_length]

/-- n cells f lie in block g from o on; they may be written. -/
structure Lies (w : World) (g o n : Nat) (f : Nat → CellM) : Prop where
  val : ∀ k, k < n → ∀ i v, (cellCs (f k))[i]? = some v → w.cell? ⟨g, o + (k * 6 + i), none⟩ = some v
  can : ∀ j, j < n * 6 → w.frozen? ⟨g, o + j, none⟩ = false

/-- n cells f were written in block g from o on; else there are new blocks alone. -/
structure PutC (g o n : Nat) (f : Nat → CellM) (w w' : World) : Prop where
  keep : Keep (· = g) w w'
  fz : ∀ i, w'.frozen? ⟨g, i, none⟩ = w.frozen? ⟨g, i, none⟩
  val : ∀ k, k < n → ∀ i v, (cellCs (f k))[i]? = some v → w'.cell? ⟨g, o + (k * 6 + i), none⟩ = some v
  out : ∀ i, (i < o ∨ o + n * 6 ≤ i) → w'.cell? ⟨g, i, none⟩ = w.cell? ⟨g, i, none⟩

namespace Lies
variable {w w' : World} {g o n : Nat} {f : Nat → CellM}
theorem lt (h : Lies w g o n f) (h0 : 0 < n) : g < w.heap.size := World.block_lt_of_cell? w _ (h.val 0 h0 0 _ rfl)
theorem keep {S : Nat → Prop} (h : Lies w g o n f) (hg : g < w.heap.size) (k : Keep S w w') (hn : ¬ S g) : Lies w' g o n f :=
  ⟨fun j hj i v hv => (k.cell (p := ⟨g, _, none⟩) hg hn).trans (h.val j hj i v hv), fun j hj => (k.frozen (p := ⟨g, _, none⟩) hg hn).trans (h.can j hj)⟩
theorem sub (h : Lies w g o n f) (a m : Nat) (ha : a + m ≤ n) : Lies w g (o + a * 6) m (fun k => f (a + k)) :=
  ⟨fun k hk i v hv => by have := h.val (a + k) (by omega) i v hv; rwa [show o + ((a + k) * 6 + i) = o + a * 6 + (k * 6 + i) from by omega] at this,
   fun j hj => by have := h.can (a * 6 + j) (by omega); rwa [← Nat.add_assoc] at this⟩
theorem congr {f' : Nat → CellM} (h : Lies w g o n f) (e : ∀ k, k < n → f k = f' k) : Lies w g o n f' := ⟨fun k hk i v hv => h.val k hk i v (by rw [e k hk]; exact hv), h.can⟩
theorem cells (h : Lies w g o n f) : ∀ j v, (flatF f n)[j]? = some v → w.cell? ⟨g, o + j, none⟩ = some v := fun j v hj => by
  obtain ⟨h1, h2⟩ := (flatF_at f n j v).1 hj
  have := h.val (j / 6) (by omega) (j % 6) v h2
  rwa [show j / 6 * 6 + j % 6 = j from by omega] at this
theorem some' (h : Lies w g o n f) : ∀ j, j < n * 6 → (w.cell? ⟨g, o + j, none⟩).isSome = true := fun j hj => by
  have : j < (flatF f n).length := by rw [flatF_len]; exact hj
  rw [h.cells j _ (List.getElem?_eq_getElem this)]; rfl
theorem src (h : Lies w g o n f) (hg : g < w.heap.size) : Src w (some ⟨g, o, none⟩) (n * 6) (flatF f n) := ⟨flatF_len f n, fun _ => ⟨g, o, rfl, hg, h.cells⟩⟩
end Lies

namespace PutC
variable {w w1 w2 w' : World} {g o n m a : Nat} {f h f0 : Nat → CellM}
theorem refl (g o : Nat) (f : Nat → CellM) (w : World) : PutC g o 0 f w w := ⟨Keep.refl _ _, fun _ => rfl, fun k hk => by omega, fun _ _ => rfl⟩
theorem then_keep (p : PutC g o n f w w1) (hg : g < w1.heap.size) (k : Keep (fun _ => False) w1 w2) : PutC g o n f w w2 :=
  ⟨p.keep.trans k (fun _ _ x => x.elim), fun i => (k.frozen (p := ⟨g, i, none⟩) hg (fun x => x)).trans (p.fz i), fun j hj i v hv => (k.cell (p := ⟨g, _, none⟩) hg (fun x => x)).trans (p.val j hj i v hv),
   fun i hi => (k.cell (p := ⟨g, i, none⟩) hg (fun x => x)).trans (p.out i hi)⟩
theorem keep_then (k : Keep (fun _ => False) w w1) (hg : g < w.heap.size) (p : PutC g o n f w1 w2) : PutC g o n f w w2 :=
  ⟨(k.mono (fun _ _ x => x.elim) : Keep (· = g) w w1).trans p.keep (fun _ _ x => x), fun i => (p.fz i).trans (k.frozen (p := ⟨g, i, none⟩) hg (fun x => x)), p.val, fun i hi => (p.out i hi).trans (k.cell (p := ⟨g, i, none⟩) hg (fun x => x))⟩
theorem congr (p : PutC g o n f w w') (e : ∀ k, k < n → f k = h k) : PutC g o n h w w' := ⟨p.keep, p.fz, fun k hk i v hv => p.val k hk i v (by rw [e k hk]; exact hv), p.out⟩
/-- Behind it more. -/
theorem grow (p : PutC g o n f w w1) (q : PutC g (o + n * 6) m h w1 w2) : PutC g o (n + m) (fun k => if k < n then f k else h (k - n)) w w2 := by
  refine ⟨p.keep.trans q.keep (fun _ _ x => x), fun i => (q.fz i).trans (p.fz i), fun k hk i v hv => ?_, fun i hi => (q.out i (by omega)).trans (p.out i (by omega))⟩
  by_cases e : k < n
  · rw [if_pos e] at hv
    have hi := cellCs_lt hv
    exact (q.out _ (by omega)).trans (p.val k e i v hv)
  · rw [if_neg e] at hv
    have := q.val (k - n) (by omega) i v hv
    rwa [show o + n * 6 + ((k - n) * 6 + i) = o + (k * 6 + i) from by omega] at this
/-- Ahead of it more. -/
theorem pre (q : PutC g (o + a * 6) m h w w1) (p : PutC g o a f w1 w2) : PutC g o (a + m) (fun k => if k < a then f k else h (k - a)) w w2 := by
  refine ⟨q.keep.trans p.keep (fun _ _ x => x), fun i => (p.fz i).trans (q.fz i), fun k hk i v hv => ?_, fun i hi => (p.out i (by omega)).trans (q.out i (by omega))⟩
  by_cases e : k < a
  · rw [if_pos e] at hv
    exact p.val k e i v hv
  · rw [if_neg e] at hv
    have hi := cellCs_lt hv
    have := q.val (k - a) (by omega) i v hv
    rw [show o + a * 6 + ((k - a) * 6 + i) = o + (k * 6 + i) from by omega] at this
    exact (p.out _ (by omega)).trans this
/-- What lies there then. -/
theorem lies (l : Lies w g o n f0) (p : PutC g (o + a * 6) m h w w') (ha : a + m ≤ n) : Lies w' g o n (fun k => if a ≤ k ∧ k < a + m then h (k - a) else f0 k) := by
  refine ⟨fun k hk i v hv => ?_, fun j hj => (p.fz _).trans (l.can j hj)⟩
  have hi := cellCs_lt hv
  by_cases e : a ≤ k ∧ k < a + m
  · rw [if_pos e] at hv
    have := p.val (k - a) (by omega) i v hv
    rwa [show o + a * 6 + ((k - a) * 6 + i) = o + (k * 6 + i) from by omega] at this
  · rw [if_neg e] at hv
    exact (p.out _ (by omega)).trans (l.val k hk i v hv)
theorem whole (l : Lies w g o n f0) (p : PutC g o n h w w') : Lies w' g o n h := by
  have := lies (a := 0) l (by simpa using p) (by omega)
  exact this.congr (fun k hk => by rw [if_pos (by omega)]; rfl)
end PutC

theorem put_sets {w : World} {g o n : Nat} {f f0 : Nat → CellM} (l : Lies w g o n f0) : PutC g o n f w (w.setCells g o (flatF f n)) := by
  have hl := flatF_len f n
  refine ⟨keep_setCells (S := (· = g)) g (fun _ => rfl) _ _ _ (Keep.refl _ _), fun i => World.frozen?_setCells _ _ _ _ _, fun k hk i v hv => ?_, fun i hi => World.cell?_setCells_out _ _ _ _ _ (fun _ _ => by simp; omega)⟩
  have hi := cellCs_lt hv
  have hv' : (flatF f n)[k * 6 + i]? = some v := by rw [flatF_at, show (k * 6 + i) / 6 = k from by omega, show (k * 6 + i) % 6 = i from by omega]; exact ⟨by omega, hv⟩
  have := World.cell?_setCells_in g (flatF f n) o w (fun j hj => l.some' j (by omega)) (k * 6 + i) (by omega)
  rw [this]
  rw [List.getElem?_eq_getElem (by omega)] at hv'
  exact hv'

/-- copy of cells that lie somewhere onto cells that lie somewhere. -/
theorem run_copy_cellsz {P : Program} (w : World) (dT sT ty elem : TypeId) (b o dLen dCap : Nat) (a : Addr) (sLen sCap z : Nat) (cs : List Value)
    (hu : P.underlying dT = some (.slice elem)) (hs : (P.info? elem).map (·.size) = some z) (hn : cs.length = Nat.min sLen dLen * z)
    (hsrc : ∀ j v, cs[j]? = some v → w.cell? (a.add j) = some v) (hc : ∀ j, j < cs.length → (w.cell? ⟨b, o + j, none⟩).isSome = true) (hf : ∀ j, j < cs.length → w.frozen? ⟨b, o + j, none⟩ = false) (h1 : ∀ v ∈ cs, v.oneCell' = true) :
    (Builtin.copy_ #[dT, sT] ty #[.slice (some ⟨b, o, none⟩) dLen dCap, .slice (some a) sLen sCap]).run P w = .ok (goInt (Nat.min sLen dLen)) (w.setCells b o cs) := by
  have hl := run_loadCells_list (P := P) w a cs hsrc
  have hst := run_storeCells_cells (P := P) b o cs 0 w (by simpa using hc) (by simpa using hf) h1
  cases hq : P.info? elem with
  | none => simp [hq] at hs
  | some i =>
    have hi : i.size = z := by simpa [hq] using hs
    simp [Builtin.copy_, run_underlying hu, Builtin.lenOf, Builtin.firstCells, sizeOf, typeInfo, hq, hi, ← hn, hl, hst]

/-- copy where there is nothing to copy, or no room. -/
theorem run_copy_zero {P : Program} (w : World) (dT sT ty elem : TypeId) (dp sp : Option Addr) (dLen dCap sLen sCap z : Nat)
    (hu : P.underlying dT = some (.slice elem)) (hs : (P.info? elem).map (·.size) = some z) (hn : Nat.min sLen dLen = 0) :
    (Builtin.copy_ #[dT, sT] ty #[.slice dp dLen dCap, .slice sp sLen sCap]).run P w = .ok (goInt 0) w := by
  cases hq : P.info? elem with
  | none => simp [hq] at hs
  | some i =>
    have hl : ∀ a, Sem.run P (loadCells a 0) w = .ok #[] w := fun a => run_loadCells_list (P := P) (w := w) a [] (fun j v h => by simp at h)
    cases dp <;> cases sp <;> simp [hl, Builtin.copy_, run_underlying hu, Builtin.lenOf, Builtin.firstCells, sizeOf, typeInfo, hq, hn, storeCells]

/-- A slice of cells: what it says of itself. -/
def SlC (w : World) (A : Option Addr) (g o n : Nat) (f : Nat → CellM) : Prop := 0 < n → A = some ⟨g, o, none⟩ ∧ Lies w g o n f ∧ g < w.heap.size

theorem SlC.src {w : World} {A : Option Addr} {g o n : Nat} {f : Nat → CellM} (h : SlC w A g o n f) : Src w A (n * 6) (flatF f n) :=
  ⟨flatF_len f n, fun h0 => by obtain ⟨e, l, hg⟩ := h (by omega); exact ⟨g, o, e, hg, l.cells⟩⟩
theorem flatF_pre (f : Nat → CellM) (m n : Nat) (h : m ≤ n) : flatF f m = (flatF f n).take (m * 6) := by
  apply List.ext_getElem?
  intro j
  rw [List.getElem?_take]
  apply Option.ext
  intro v
  rw [flatF_at]
  split
  · rw [flatF_at]
    constructor
    · rintro ⟨a, b⟩; exact ⟨by omega, b⟩
    · rintro ⟨a, b⟩; exact ⟨by omega, b⟩
  · constructor
    · rintro ⟨a, b⟩; omega
    · intro e; cases e
theorem src_pre {w : World} {A : Option Addr} {n m : Nat} {f : Nat → CellM} (h : Src w A (n * 6) (flatF f n)) (hm : m ≤ n) : Src w A (m * 6) (flatF f m) :=
  ⟨flatF_len f m, fun h0 => by
    obtain ⟨b, off, e, hb, hc⟩ := h.2 (by omega)
    refine ⟨b, off, e, hb, fun i u hu => hc i u ?_⟩
    rw [flatF_pre f m n hm, List.getElem?_take] at hu
    split at hu
    · exact hu
    · cases hu⟩

/-- copy of cells that are read onto cells. -/
theorem wpList_copy_putR {P : Program} {w : World} {ops : Array Oper} {rest : List Oper} {op : Oper} {act : Act} {Q : Exit → Act → World → Prop} (hgd : op.guard = none) (d s : Operand) (dT sT : TypeId)
    (ho : op.op = .call { callee := .builtin .copy, args := #[d, s], argTypes := #[dT, sT] }) (elem : TypeId) (hu : P.underlying dT = some (.slice elem)) (hs : (P.info? elem).map (·.size) = some 6)
    (dp sp : Option Addr) (dLen dCap sLen sCap : Nat) (hd : act.eval d = .slice dp dLen dCap) (hsv : act.eval s = .slice sp sLen sCap)
    (g o m : Nat) (f f' : Nat → CellM) (hm : Nat.min sLen dLen = m) (hD : SlC w dp g o m f) (hS : Src w sp (m * 6) (flatF f' m))
    (h : ∀ w', PutC g o m f' w w' → wpList P ops Q rest (act.put op.dst (goInt m)) w') : wpList P ops Q (op :: rest) act w := by
  refine wpList_plain hgd fun K hK => ?_
  by_cases h0 : m = 0
  · subst h0
    have hrun := run_copy_zero (P := P) w dT sT op.type elem dp sp dLen dCap sLen sCap 6 hu hs hm
    unfold Oper.wp
    simp [execOp, ho, resolve, invoke, builtin, hd, hsv, hrun, Result.andThen]
    exact hK _ _ (h w (PutC.refl _ _ _ _))
  · obtain ⟨rfl, l, hg⟩ := hD (by omega)
    obtain ⟨g', o', rfl, -, l'⟩ := hS.2 (by omega)
    have hl := flatF_len f' m
    have hrun := run_copy_cellsz (P := P) w dT sT op.type elem g o dLen dCap ⟨g', o', none⟩ sLen sCap 6 (flatF f' m) hu hs (by rw [hl, hm]) (fun j v hj => by rw [add_mk]; exact l' j v hj) (fun j hj => l.some' j (by omega)) (fun j hj => l.can j (by omega)) (flatF_one _ _)
    rw [hm] at hrun
    unfold Oper.wp
    simp [execOp, ho, resolve, invoke, builtin, hd, hsv, hrun, Result.andThen]
    exact hK _ _ (h _ (put_sets l))

/-- copy of cells onto cells. -/
theorem wpList_copy_put {P : Program} {w : World} {ops : Array Oper} {rest : List Oper} {op : Oper} {act : Act} {Q : Exit → Act → World → Prop} (hgd : op.guard = none) (d s : Operand) (dT sT : TypeId)
    (ho : op.op = .call { callee := .builtin .copy, args := #[d, s], argTypes := #[dT, sT] }) (elem : TypeId) (hu : P.underlying dT = some (.slice elem)) (hs : (P.info? elem).map (·.size) = some 6)
    (dp sp : Option Addr) (dLen dCap sLen sCap : Nat) (hd : act.eval d = .slice dp dLen dCap) (hsv : act.eval s = .slice sp sLen sCap)
    (g o g' o' m : Nat) (f f' : Nat → CellM) (hm : Nat.min sLen dLen = m) (hD : SlC w dp g o m f) (hS : SlC w sp g' o' m f')
    (h : ∀ w', PutC g o m f' w w' → wpList P ops Q rest (act.put op.dst (goInt m)) w') : wpList P ops Q (op :: rest) act w := by
  exact wpList_copy_putR hgd d s dT sT ho elem hu hs dp sp dLen dCap sLen sCap hd hsv g o m f f' hm hD hS.src h

end Go.Proofs.YtnminmaklbhakaaGreatDoor
namespace Go.Proofs.YtnminmaklbhakaaGreatDoor
set_option linter.unusedVariables false
set_option linter.unusedSimpArgs false
open Go.RowKit

theorem run_storeVar_at {P : Program} (w : World) (b off : Nat) (ty : TypeId) (cells : Array Value) (hi : (P.info? ty).map (·.size) = some cells.size) (h1 : cells.all (·.oneCell') = true)
    (hc : ∀ j, j < cells.size → (w.cell? ⟨b, off + j, none⟩).isSome = true) (hf : ∀ j, j < cells.size → w.frozen? ⟨b, off + j, none⟩ = false) :
    (storeVar ty ⟨b, off, none⟩ (.agg cells)).run P w = .ok () (w.setCells b off cells.toList) := by
  have := run_storeCells_cells (P := P) b off cells.toList 0 w (by simpa using hc) (by simpa using hf) (fun v hv => (Array.all_eq_true_iff_forall_mem.1 h1) v (by simpa using hv))
  cases hq : P.info? ty with
  | none => simp [hq] at hi
  | some i =>
    have hs : cells.size = i.size := by simp [hq] at hi; omega
    simp [storeVar, sizeOf, typeInfo, hq, Value.cells, hs, this]

theorem wp_store_at {P : Program} {o : Oper} {a : Act} {w : World} {K : Act → World → Prop} {Q : Exit → Act → World → Prop} (ty : TypeId) (x y : Operand) (ho : o.op = .store ty x y)
    (b off : Nat) (cells : Array Value) (hx : a.eval x = .pointer (some ⟨b, off, none⟩)) (hy : a.eval y = .agg cells) (hi : (P.info? ty).map (·.size) = some cells.size) (h1 : cells.all (·.oneCell') = true)
    (hc : ∀ j, j < cells.size → (w.cell? ⟨b, off + j, none⟩).isSome = true) (hf : ∀ j, j < cells.size → w.frozen? ⟨b, off + j, none⟩ = false)
    (h : K (a.put o.dst undef) (w.setCells b off cells.toList)) : o.wp P a w K Q := by
  unfold Oper.wp execOp
  simp only [ho, hx, hy, Instr.storeAt, Instr.sureAddr, Sem.run_bind, Sem.run_pure, Result.andThen_ok, run_storeVar_at w b off ty cells hi h1 hc hf]
  exact h

theorem cell_info : (Tryz.prog.info? 46).map (·.size) = some 6 := by kernel_rfl
def vcells (c : CellM) : Array Value := #[.int .i32 c.r, .int .i64 c.a.fg, .int .i64 c.a.bg, .bool c.a.b, .bool c.a.u, .bool c.a.i]

/-- A cell is stored. -/
theorem wpList_store_cell {P : Program} {w : World} {ops : Array Oper} {rest : List Oper} {op : Oper} {act : Act} {Q : Exit → Act → World → Prop} (hgd : op.guard = none) (ty : TypeId) (x y : Operand) (ho : op.op = .store ty x y)
    (g o i n : Nat) (f0 : Nat → CellM) (l : Lies w g o n f0) (hi : i < n) (cx : CellM) (hx : act.eval x = .pointer (some ⟨g, o + i * 6, none⟩)) (hy : act.eval y = cx.v) (hinfo : (P.info? ty).map (·.size) = some 6)
    (h : ∀ w', PutC g (o + i * 6) 1 (fun _ => cx) w w' → wpList P ops Q rest (act.put op.dst undef) w') : wpList P ops Q (op :: rest) act w := by
  have ls := l.sub i 1 (by omega)
  refine wpList_plain hgd fun K hK => ?_
  refine wp_store_at ty x y ho g (o + i * 6) (vcells cx) hx hy hinfo (by simp [vcells, Value.oneCell']) (fun j hj => ls.some' j (by simpa [vcells] using hj)) (fun j hj => ls.can j (by simpa [vcells] using hj)) ?_
  have hp := put_sets (f := fun _ => cx) ls
  exact hK _ _ (h _ hp)

theorem within_any (n lo hi : Int) (w : World) :
    Calls Tryz.prog 46 #[.int .i64 n, .int .i64 lo, .int .i64 hi] w fun e w' => e = .returned (.int .i64 (min (max n lo) hi)) ∧ w' = w := by
  go_enter Tryz.func46, Tryz.ntmps46
  go_wp2_with fail
  go_ret
  exact ⟨rfl, rfl⟩

/-- Cells that were written, or nothing. -/
def Fills (g o n : Nat) (f : Nat → CellM) (w w' : World) : Prop := (0 < n → PutC g o n f w w') ∧ (n = 0 → Keep (fun _ => False) w w')
theorem Fills.put {g o n : Nat} {f : Nat → CellM} {w w' : World} (h : Fills g o n f w w') (hg : g < w.heap.size) : PutC g o n f w w' := by
  rcases Nat.eq_zero_or_pos n with e | e
  · subst e; exact (PutC.refl g o f w).then_keep hg (h.2 rfl)
  · exact h.1 e

set_option maxRecDepth 100000 in
set_option maxHeartbeats 1600000 in
theorem fill_any (A : Option Addr) (g o n c : Nat) (f0 : Nat → CellM) (x : CellM) (w : World) (h : SlC w A g o n f0) (hn : n ≤ 100000) :
    Calls Tryz.prog 47 #[.slice A n c, x.v] w fun e w' => e = .returned (.tuple #[]) ∧ Fills g o n (fun _ => x) w w' := by
  have hni : (n : Int) ≤ 100000 := by omega
  rcases Nat.eq_zero_or_pos n with h0 | h0
  · subst h0
    simp only [CellM.v]
    go_enter Tryz.func47, Tryz.ntmps47
    go_wp2_with fail
    go_loopw [7] (fun i wr => i = .int .i64 0 ∧ wr = w.alloc (.cells (vcells x) 46)) (fun i _ => 0)
    case atStart => exact ⟨rfl, rfl⟩
    case round =>
      obtain ⟨rfl, rfl⟩ := hrel
      go_wp2_with fail
      go_end0
      exact ⟨rfl, fun h => absurd h (by omega), fun _ => (Keep.refl _ w).alloc _⟩
  · obtain ⟨rfl, hL, hg⟩ := h h0
    obtain ⟨w1, hw1⟩ : ∃ w1, w1 = w.alloc (.cells (vcells x) 46) := ⟨_, rfl⟩
    have HK1 : Hid (Keep (fun _ => False) w w1) := Lib.hid (by rw [hw1]; exact (Keep.refl _ w).alloc _)
    have HL1 := Lib.hid (hL.keep hg HK1.out (fun x => x))
    have HQ1 : Hid (w1.heap[w.heap.size]? = some (.cells (vcells x) 46 (0, 0))) := Lib.hid (by rw [hw1]; exact heap_alloc_new w _)
    have hg1 : g < w1.heap.size := by have := HK1.out.size; omega
    have HG := Lib.hid hg
    have HP0 : Hid (PutC g o 0 (fun _ => x) w1 w1) := Lib.hid (PutC.refl _ _ _ _)
    clear h hL hg
    simp only [CellM.v]
    unfold vcells at hw1
    go_enter Tryz.func47, Tryz.ntmps47
    go_upto_region 1 with fail
    rw [← hw1]
    obtain ⟨q, hq⟩ : ∃ q, q = w.heap.size := ⟨_, rfl⟩
    rw [← hq] at HQ1
    rw [← hq]
    have hgq : g ≠ q := by have := HG.out; omega
    clear hw1 hq
    go_wp2_with fail
    go_loopw [4, 7] (fun _ i wr => ∃ k : Nat, i = .int .i64 k ∧ k ≤ n ∧ Hid (PutC g o k (fun _ => x) w1 wr)) (fun _ i _ => n - (intOf i).toNat)
    case atStart => exact ⟨0, rfl, Nat.zero_le _, HP0⟩
    case round =>
      obtain ⟨k, rfl, hk, HP⟩ := hrel
      by_cases hlt : k < n
      · have hq2 := HP.out.keep.heap HQ1.out (fun e => hgq e.symm)
        have c0 : wr.cell? ⟨q, 0, none⟩ = some (.int .i32 x.r) := cell_at hq2 0
        have c1 : wr.cell? ⟨q, 1, none⟩ = some (.int .i64 x.a.fg) := cell_at hq2 1
        have c2 : wr.cell? ⟨q, 2, none⟩ = some (.int .i64 x.a.bg) := cell_at hq2 2
        have c3 : wr.cell? ⟨q, 3, none⟩ = some (.bool x.a.b) := cell_at hq2 3
        have c4 : wr.cell? ⟨q, 4, none⟩ = some (.bool x.a.u) := cell_at hq2 4
        have c5 : wr.cell? ⟨q, 5, none⟩ = some (.bool x.a.i) := cell_at hq2 5
        have hki : ((k : Int) < (n : Int)) := by omega
        have hk0 : (0 : Int) ≤ (k : Int) := by omega
        have HLr := Lib.hid (PutC.lies (a := 0) HL1.out (by simpa using HP.out) (by omega))
        clear hq2
        go_wp2_with (with_reducible refine wpList_store_cell rfl _ _ _ rfl g o k n _ HLr.out hlt x ?hx ?hy cell_info ?_)
        case hx => first | rfl | (simp; done) | (congr 3; omega)
        case hy => rfl
        intro w2 hp2
        have HP2 : Hid (PutC g o (k + 1) (fun _ => x) w1 w2) := Lib.hid ((HP.out.grow hp2).congr (fun j hj => by simp))
        clear hp2
        go_wp2_with fail
        go_roundw
        case rel => exact ⟨k + 1, by go_num, by omega, HP2⟩
        case measure => simp [intOf]; omega
      · have hkn : k = n := by omega
        subst hkn
        go_wp2_with fail
        go_end0
        exact ⟨rfl, fun _ => PutC.keep_then HK1.out HG.out HP.out, fun e => absurd e (by omega)⟩

end Go.Proofs.YtnminmaklbhakaaGreatDoor
namespace Go.Proofs.YtnminmaklbhakaaGreatDoor
set_option linter.unusedVariables false
set_option linter.unusedSimpArgs false
open Go.RowKit

/-- A slice of cells: nil where it has none. -/
structure Sl (w : World) (A : Option Addr) (g o n c : Nat) (f : Nat → CellM) : Prop where
  pos : 0 < n → A = some ⟨g, o, none⟩ ∧ Lies w g o n f ∧ g < w.heap.size ∧ n ≤ c
  zero : n = 0 → A = none ∧ c = 0
theorem Sl.slc {w : World} {A : Option Addr} {g o n c : Nat} {f : Nat → CellM} (h : Sl w A g o n c f) : SlC w A g o n f := fun h0 => ⟨(h.pos h0).1, (h.pos h0).2.1, (h.pos h0).2.2.1⟩
theorem Sl.nil (w : World) (g o : Nat) (f : Nat → CellM) : Sl w none g o 0 0 f := ⟨fun h => absurd h (by omega), fun _ => ⟨rfl, rfl⟩⟩
theorem Sl.drewN {w : World} {A : Option Addr} {g o n c : Nat} {f : Nat → CellM} (h : Sl w A g o n c f) (k : Nat) : Sl (w.drewN k) A g o n c f :=
  ⟨fun h0 => ⟨(h.pos h0).1, ⟨(h.pos h0).2.1.val, (h.pos h0).2.1.can⟩, (h.pos h0).2.2⟩, h.zero⟩
theorem Sl.keep {S : Nat → Prop} {w w' : World} {A : Option Addr} {g o n c : Nat} {f : Nat → CellM} (h : Sl w A g o n c f) (k : Keep S w w') (hn : ¬ S g) : Sl w' A g o n c f :=
  ⟨fun h0 => ⟨(h.pos h0).1, (h.pos h0).2.1.keep (h.pos h0).2.2.1 k hn, Nat.lt_of_lt_of_le (h.pos h0).2.2.1 k.size, (h.pos h0).2.2.2⟩, h.zero⟩

def frontF (f : Nat → CellM) (n m : Nat) (x : CellM) (j : Nat) : CellM := if j + m < n then f (j + m) else x
def backF (f : Nat → CellM) (m : Nat) (x : CellM) (j : Nat) : CellM := if j < m then x else f (j - m)

theorem cells_six {w : World} {q : Nat} {x : CellM} (h : w.heap[q]? = some (.cells (vcells x) 46 (0, 0))) :
    w.cell? ⟨q, 0, none⟩ = some (.int .i32 x.r) ∧ w.cell? ⟨q, 1, none⟩ = some (.int .i64 x.a.fg) ∧ w.cell? ⟨q, 2, none⟩ = some (.int .i64 x.a.bg) ∧ w.cell? ⟨q, 3, none⟩ = some (.bool x.a.b) ∧ w.cell? ⟨q, 4, none⟩ = some (.bool x.a.u) ∧ w.cell? ⟨q, 5, none⟩ = some (.bool x.a.i) :=
  ⟨cell_at h 0, cell_at h 1, cell_at h 2, cell_at h 3, cell_at h 4, cell_at h 5⟩

theorem PutC.drew {g o n : Nat} {f : Nat → CellM} {w w' : World} (p : PutC g o n f w w') : PutC g o n f w w'.drew := ⟨p.keep.drew, p.fz, p.val, p.out⟩
theorem Fills.keep {g o n : Nat} {f : Nat → CellM} {w w' : World} (h : Fills g o n f w w') : Keep (· = g) w w' := by
  rcases Nat.eq_zero_or_pos n with e | e
  · exact (h.2 e).mono (fun _ _ x => x.elim)
  · exact (h.1 e).keep
theorem front_fills {g o n m : Nat} {f : Nat → CellM} {x : CellM} {w w1 w2 w4 : World} (hg : g < w.heap.size) (hn : 0 < n) (hm : m ≤ n) (k : Keep (fun _ => False) w w1) (p : PutC g o (n - m) (fun j => f (m + j)) w1 w2) (q : Fills g (o + (n - m) * 6) m (fun _ => x) w2 w4) : Fills g o n (frontF f n m x) w w4 := by
  refine ⟨fun _ => ?_, fun e => by omega⟩
  have hg2 : g < w2.heap.size := by have := k.size; have := p.keep.size; omega
  have r := (PutC.keep_then k hg p).grow (q.put hg2)
  rw [show n - m + m = n from by omega] at r
  exact r.congr (fun j hj => by
    unfold frontF
    by_cases e : j < n - m
    · rw [if_pos e, if_pos (by omega), Nat.add_comm]
    · rw [if_neg e, if_neg (by omega)])
theorem back_fills {g o n m : Nat} {f : Nat → CellM} {x : CellM} {w w1 w2 w4 : World} (hg : g < w.heap.size) (hn : 0 < n) (hm : m ≤ n) (k : Keep (fun _ => False) w w1) (p : PutC g (o + m * 6) (n - m) f w1 w2) (q : Fills g o m (fun _ => x) w2 w4) : Fills g o n (backF f m x) w w4 := by
  refine ⟨fun _ => ?_, fun e => by omega⟩
  have hg2 : g < w2.heap.size := by have := k.size; have := p.keep.size; omega
  have r := (PutC.keep_then k hg p).pre (q.put hg2)
  rw [show m + (n - m) = n from by omega] at r
  exact r.congr (fun j hj => rfl)

set_option maxRecDepth 100000 in
set_option maxHeartbeats 3200000 in
theorem toFront_any (A : Option Addr) (g o n c : Nat) (f : Nat → CellM) (x : CellM) (k : Int) (m : Nat) (w : World) (h : Sl w A g o n c f) (hn : n ≤ 100000) (hcm : c ≤ 9223372036854775807) (hm : min (max k 0) (n : Int) = (m : Int)) :
    Calls Tryz.prog 117 #[.slice A n c, .int .i64 k, x.v] w fun e w' => e = .returned (.tuple #[]) ∧ Fills g o n (frontF f n m x) w w' := by
  have hmn : m ≤ n := by omega
  have HW : Hid (∀ W, Calls Tryz.prog 46 #[.int .i64 k, .int .i64 0, .int .i64 n] W fun e w' => e = .returned (.int .i64 m) ∧ w' = W) := Lib.hid (fun W => by have := within_any k 0 n W; rwa [hm] at this)
  have hni : (n : Int) ≤ 100000 := by omega
  have hmi : (m : Int) ≤ (n : Int) := by omega
  have hm0 : (0 : Int) ≤ (m : Int) := by omega
  have hci : (c : Int) ≤ 9223372036854775807 := by omega
  clear hm
  rcases Nat.eq_zero_or_pos n with h0 | h0
  · have hmz : m = 0 := by omega
    subst hmz h0
    obtain ⟨rfl, rfl⟩ := h.zero rfl
    obtain ⟨w1, hw1⟩ : ∃ w1, w1 = w.alloc (.cells (vcells x) 46) := ⟨_, rfl⟩
    have HK1 : Hid (Keep (fun _ => False) w w1) := Lib.hid (by rw [hw1]; exact (Keep.refl _ w).alloc _)
    have HQ2 : Hid (w1.heap[w.heap.size]? = some (.cells (vcells x) 46 (0, 0))) := Lib.hid (by rw [hw1]; exact heap_alloc_new w _)
    have hcz := fun (W : World) => run_copy_zero (P := Tryz.prog) W 32 32 3 46 none none 0 0 0 0 6 Tryz.underlying32 cell_info rfl
    have hw0 : IntKind.i64.wrap 0 = 0 := by decide
    clear h hmi hni
    simp only [CellM.v]
    unfold vcells at hw1
    go_enter Tryz.func117, Tryz.ntmps117
    go_upto_region 1 with fail
    rw [← hw1]
    obtain ⟨q, hq⟩ : ∃ q, q = w.heap.size := ⟨_, rfl⟩
    rw [← hq] at HQ2
    rw [← hq]
    clear hw1 hq
    go_wp2_with fail
    refine (HW.out _).mono ?_
    rintro e w2 ⟨rfl, rfl⟩
    go_wp2_with fail
    refine wp_region_noPanic ?_
    refine wp_region_held_drew (S := fun w' => w'.cell? ⟨q, 0, none⟩ = some (.int .i32 x.r) ∧ w'.cell? ⟨q, 1, none⟩ = some (.int .i64 x.a.fg) ∧ w'.cell? ⟨q, 2, none⟩ = some (.int .i64 x.a.bg) ∧ w'.cell? ⟨q, 3, none⟩ = some (.bool x.a.b) ∧ w'.cell? ⟨q, 4, none⟩ = some (.bool x.a.u) ∧ w'.cell? ⟨q, 5, none⟩ = some (.bool x.a.i)) (by kernel_rfl) (cells_six HQ2.out) (fun hHeld => ?_)
    refine wpAnyH_take (i := 0) (oi := _) (v := ?vz0) rfl (by kernel_rfl) (by kernel_rfl) (by kernel_rfl) (fun _ _ _ h => h) (Or.inl ⟨by rfl, ?hyz0⟩) (by assumption) ?restz0
    case hyz0 => (intro w hSw; (try dsimp only at hSw); (try simp only [List.getElem_toArray, List.getElem_cons_zero, List.getElem_cons_succ]); go_simp; (try with_reducible rfl))
    (try simp only [Act.put, List.setIfInBounds_toArray, List.set_cons_zero, List.set_cons_succ, List.getElem_toArray, List.getElem_cons_zero, List.getElem_cons_succ])
    refine wpAnyH_take (i := 1) (oi := _) (v := ?vz1) rfl (by kernel_rfl) (by kernel_rfl) (by kernel_rfl) (fun _ _ _ h => h) (Or.inl ⟨by rfl, ?hyz1⟩) (by assumption) ?restz1
    case hyz1 => (intro w hSw; (try dsimp only at hSw); (try simp only [List.getElem_toArray, List.getElem_cons_zero, List.getElem_cons_succ]); go_simp; (try with_reducible rfl))
    (try simp only [Act.put, List.setIfInBounds_toArray, List.set_cons_zero, List.set_cons_succ, List.getElem_toArray, List.getElem_cons_zero, List.getElem_cons_succ])
    refine wpAnyH_take (i := 2) (oi := _) (v := ?vz2) rfl (by kernel_rfl) (by kernel_rfl) (by kernel_rfl) (fun _ _ _ h => h) (Or.inl ⟨by rfl, ?hyz2⟩) (by assumption) ?restz2
    case hyz2 => (intro w hSw; (try dsimp only at hSw); (try simp only [List.getElem_toArray, List.getElem_cons_zero, List.getElem_cons_succ]); go_simp; (try with_reducible rfl))
    (try simp only [Act.put, List.setIfInBounds_toArray, List.set_cons_zero, List.set_cons_succ, List.getElem_toArray, List.getElem_cons_zero, List.getElem_cons_succ])
    refine wpAnyH_take (i := 3) (oi := _) (v := ?vz3) rfl (by kernel_rfl) (by kernel_rfl) (by kernel_rfl) (fun _ _ _ h => h) (Or.inl ⟨by rfl, ?hyz3⟩) (by assumption) ?restz3
    case hyz3 => (intro w hSw; (try dsimp only at hSw); (try simp only [List.getElem_toArray, List.getElem_cons_zero, List.getElem_cons_succ]); go_simp; (try with_reducible rfl))
    (try simp only [Act.put, List.setIfInBounds_toArray, List.set_cons_zero, List.set_cons_succ, List.getElem_toArray, List.getElem_cons_zero, List.getElem_cons_succ])
    refine wpAnyH_take (i := 4) (oi := _) (v := ?vz4) rfl (by kernel_rfl) (by kernel_rfl) (by kernel_rfl) (fun _ _ _ h => h) (Or.inl ⟨by rfl, ?hyz4⟩) (by assumption) ?restz4
    case hyz4 => (intro w hSw; (try dsimp only at hSw); (try simp only [List.getElem_toArray, List.getElem_cons_zero, List.getElem_cons_succ]); go_simp; (try with_reducible rfl))
    (try simp only [Act.put, List.setIfInBounds_toArray, List.set_cons_zero, List.set_cons_succ, List.getElem_toArray, List.getElem_cons_zero, List.getElem_cons_succ])
    refine wpAnyH_take (i := 5) (oi := _) (v := ?vz5) rfl (by kernel_rfl) (by kernel_rfl) (by kernel_rfl) (fun _ _ _ h => h) (Or.inl ⟨by rfl, ?hyz5⟩) (by assumption) ?restz5
    case hyz5 => (intro w hSw; (try dsimp only at hSw); (try simp only [List.getElem_toArray, List.getElem_cons_zero, List.getElem_cons_succ]); go_simp; (try with_reducible rfl))
    (try simp only [Act.put, List.setIfInBounds_toArray, List.set_cons_zero, List.set_cons_succ, List.getElem_toArray, List.getElem_cons_zero, List.getElem_cons_succ])
    refine wpAnyH_take (i := 6) (oi := _) (v := ?vz6) rfl (by kernel_rfl) (by kernel_rfl) (by kernel_rfl) (fun _ _ _ h => h) (Or.inl ⟨by rfl, ?hyz6⟩) (by assumption) ?restz6
    case hyz6 => (intro w hSw; (try dsimp only at hSw); (try simp only [List.getElem_toArray, List.getElem_cons_zero, List.getElem_cons_succ]); go_simp; (try with_reducible rfl))
    (try simp only [Act.put, List.setIfInBounds_toArray, List.set_cons_zero, List.set_cons_succ, List.getElem_toArray, List.getElem_cons_zero, List.getElem_cons_succ])
    refine wpAnyH_ready (rs := [7]) (by kernel_rfl) (by simp) ?_
    refine AllReadyH.cons (o := _) rfl (fun K hK => ?_) AllReadyH.nil
    (try simp only [List.getElem_toArray, List.getElem_cons_zero, List.getElem_cons_succ])
    go_simp
    (refine (fill_any none g o 0 0 f x _ (fun h => absurd h (by omega)) (by omega)).mono ?_); rintro e w4 ⟨rfl, hf⟩; have HF4 := Lib.hid ((HK1.out.drew).trans (hf.2 rfl) (fun _ _ x => x)); have HQ4 := Lib.hid ((hf.2 rfl).heap (show w2.drew.heap[q]? = _ from HQ2.out) (fun x => x)); clear hf
    refine hK.out _ _ ?_ (fun hHeld => ?_)
    · exact cells_six HQ4.out
    clear hK K
    (try simp only [Act.put, List.setIfInBounds_toArray, List.set_cons_zero, List.set_cons_succ, List.getElem_toArray, List.getElem_cons_zero, List.getElem_cons_succ])
    refine wpAnyH_done (by kernel_rfl) ?_ _
    refine NoPanic.normal ?_
    go_end0
    exact ⟨rfl, fun h => absurd h (by omega), fun _ => HF4.out⟩
  · obtain ⟨rfl, hL, hg, hnc⟩ := h.pos h0
    obtain ⟨w1, hw1⟩ : ∃ w1, w1 = w.alloc (.cells (vcells x) 46) := ⟨_, rfl⟩
    have HK1 : Hid (Keep (fun _ => False) w w1) := Lib.hid (by rw [hw1]; exact (Keep.refl _ w).alloc _)
    have HL1 := Lib.hid (hL.keep hg HK1.out (fun x => x))
    have HQ1 : Hid (w1.heap[w.heap.size]? = some (.cells (vcells x) 46 (0, 0))) := Lib.hid (by rw [hw1]; exact heap_alloc_new w _)
    have hg1 : g < w1.heap.size := by have := HK1.out.size; omega
    have HG := Lib.hid hg
    have HNC := Lib.hid hnc
    have hnci : (n : Int) ≤ (c : Int) := by omega
    clear h hL hg hnc
    simp only [CellM.v]
    unfold vcells at hw1
    obtain ⟨d, hd⟩ : ∃ d, d = n - m := ⟨_, rfl⟩
    have hsub : (n : Int) - (m : Int) = (d : Int) := by omega
    have hdi : (d : Int) ≤ (n : Int) := by omega
    have hwd : IntKind.i64.wrap (d : Int) = (d : Int) := IntWalk.i64_in _ (by omega)
    have hwm : IntKind.i64.wrap (m : Int) = (m : Int) := IntWalk.i64_in _ (by omega)
    have hd0 : (0 : Int) ≤ (d : Int) := by omega
    have hdc : (d : Int) ≤ (c : Int) := by omega
    have hmc : (m : Int) ≤ (c : Int) := by omega
    have HD := Lib.hid hd
    have HM : Hid (n - d = m) := Lib.hid (by omega)
    clear hd
    by_cases hc1 : c = m
    · have hmn2 : m = n := by have := HNC.out; omega
      have hd00 : d = 0 := by have := HD.out; omega
      subst hc1 hd00
      subst hmn2
      have hcz0 : ¬ (c = 0) := by omega
      have hw0 : IntKind.i64.wrap 0 = 0 := by decide
      have hs0 : (c : Int) - (c : Int) = 0 := by omega
      clear hsub hwd hd0 hdc hdi hmc
      have hcz := fun (W : World) => run_copy_zero (P := Tryz.prog) W 32 32 3 46 (some ⟨g, o, none⟩) (some ⟨g, o, none⟩) c c 0 0 6 Tryz.underlying32 cell_info (by simp)
      go_enter Tryz.func117, Tryz.ntmps117
      go_upto_region 1 with fail
      rw [← hw1]
      obtain ⟨q, hq⟩ : ∃ q, q = w.heap.size := ⟨_, rfl⟩
      rw [← hq] at HQ1
      rw [← hq]
      have hgq : g ≠ q := by have := HG.out; omega
      clear hw1 hq
      go_wp2_with fail
      refine (HW.out _).mono ?_
      rintro e w2 ⟨rfl, rfl⟩
      go_wp2_with fail
      refine wp_region_noPanic ?_
      refine wp_region_held_drew (S := fun w' => w'.cell? ⟨q, 0, none⟩ = some (.int .i32 x.r) ∧ w'.cell? ⟨q, 1, none⟩ = some (.int .i64 x.a.fg) ∧ w'.cell? ⟨q, 2, none⟩ = some (.int .i64 x.a.bg) ∧ w'.cell? ⟨q, 3, none⟩ = some (.bool x.a.b) ∧ w'.cell? ⟨q, 4, none⟩ = some (.bool x.a.u) ∧ w'.cell? ⟨q, 5, none⟩ = some (.bool x.a.i)) (by kernel_rfl) (cells_six HQ1.out) (fun hHeld => ?_)
      refine wpAnyH_take (i := 0) (oi := _) (v := ?va0) rfl (by kernel_rfl) (by kernel_rfl) (by kernel_rfl) (fun _ _ _ h => h) (Or.inl ⟨by rfl, ?hya0⟩) (by assumption) ?resta0
      case hya0 => (intro w hSw; (try dsimp only at hSw); (try simp only [List.getElem_toArray, List.getElem_cons_zero, List.getElem_cons_succ]); go_simp; (try with_reducible rfl))
      (try simp only [Act.put, List.setIfInBounds_toArray, List.set_cons_zero, List.set_cons_succ, List.getElem_toArray, List.getElem_cons_zero, List.getElem_cons_succ])
      refine wpAnyH_take (i := 1) (oi := _) (v := ?va1) rfl (by kernel_rfl) (by kernel_rfl) (by kernel_rfl) (fun _ _ _ h => h) (Or.inl ⟨by rfl, ?hya1⟩) (by assumption) ?resta1
      case hya1 => (intro w hSw; (try dsimp only at hSw); (try simp only [List.getElem_toArray, List.getElem_cons_zero, List.getElem_cons_succ]); go_simp; (try with_reducible rfl))
      (try simp only [Act.put, List.setIfInBounds_toArray, List.set_cons_zero, List.set_cons_succ, List.getElem_toArray, List.getElem_cons_zero, List.getElem_cons_succ])
      refine wpAnyH_take (i := 2) (oi := _) (v := ?va2) rfl (by kernel_rfl) (by kernel_rfl) (by kernel_rfl) (fun _ _ _ h => h) (Or.inl ⟨by rfl, ?hya2⟩) (by assumption) ?resta2
      case hya2 => (intro w hSw; (try dsimp only at hSw); (try simp only [List.getElem_toArray, List.getElem_cons_zero, List.getElem_cons_succ]); go_simp; (try with_reducible rfl))
      (try simp only [Act.put, List.setIfInBounds_toArray, List.set_cons_zero, List.set_cons_succ, List.getElem_toArray, List.getElem_cons_zero, List.getElem_cons_succ])
      refine wpAnyH_take (i := 3) (oi := _) (v := ?va3) rfl (by kernel_rfl) (by kernel_rfl) (by kernel_rfl) (fun _ _ _ h => h) (Or.inl ⟨by rfl, ?hya3⟩) (by assumption) ?resta3
      case hya3 => (intro w hSw; (try dsimp only at hSw); (try simp only [List.getElem_toArray, List.getElem_cons_zero, List.getElem_cons_succ]); go_simp; (try with_reducible rfl))
      (try simp only [Act.put, List.setIfInBounds_toArray, List.set_cons_zero, List.set_cons_succ, List.getElem_toArray, List.getElem_cons_zero, List.getElem_cons_succ])
      refine wpAnyH_take (i := 4) (oi := _) (v := ?va4) rfl (by kernel_rfl) (by kernel_rfl) (by kernel_rfl) (fun _ _ _ h => h) (Or.inl ⟨by rfl, ?hya4⟩) (by assumption) ?resta4
      case hya4 => (intro w hSw; (try dsimp only at hSw); (try simp only [List.getElem_toArray, List.getElem_cons_zero, List.getElem_cons_succ]); go_simp; (try with_reducible rfl))
      (try simp only [Act.put, List.setIfInBounds_toArray, List.set_cons_zero, List.set_cons_succ, List.getElem_toArray, List.getElem_cons_zero, List.getElem_cons_succ])
      refine wpAnyH_take (i := 5) (oi := _) (v := ?va5) rfl (by kernel_rfl) (by kernel_rfl) (by kernel_rfl) (fun _ _ _ h => h) (Or.inl ⟨by rfl, ?hya5⟩) (by assumption) ?resta5
      case hya5 => (intro w hSw; (try dsimp only at hSw); (try simp only [List.getElem_toArray, List.getElem_cons_zero, List.getElem_cons_succ]); go_simp; (try with_reducible rfl))
      (try simp only [Act.put, List.setIfInBounds_toArray, List.set_cons_zero, List.set_cons_succ, List.getElem_toArray, List.getElem_cons_zero, List.getElem_cons_succ])
      refine wpAnyH_take (i := 6) (oi := _) (v := ?va6) rfl (by kernel_rfl) (by kernel_rfl) (by kernel_rfl) (fun _ _ _ h => h) (Or.inl ⟨by rfl, ?hya6⟩) (by assumption) ?resta6
      case hya6 => (intro w hSw; (try dsimp only at hSw); (try simp only [List.getElem_toArray, List.getElem_cons_zero, List.getElem_cons_succ]); go_simp; (try with_reducible rfl))
      (try simp only [Act.put, List.setIfInBounds_toArray, List.set_cons_zero, List.set_cons_succ, List.getElem_toArray, List.getElem_cons_zero, List.getElem_cons_succ])
      refine wpAnyH_ready (rs := [7]) (by kernel_rfl) (by simp) ?_
      refine AllReadyH.cons (o := _) rfl (fun K hK => ?_) AllReadyH.nil
      (try simp only [List.getElem_toArray, List.getElem_cons_zero, List.getElem_cons_succ])
      go_simp
      (refine (fill_any _ g o c _ f x _ (fun hp => ⟨by first | rfl | simp, HL1.out.keep hg1 ((Keep.refl (fun _ => False) w2).drew) (fun x => x), hg1⟩) (by omega)).mono ?_); rintro e w4 ⟨rfl, hf⟩; have HF4 := Lib.hid hf; have HQ4 := Lib.hid (hf.keep.heap (show w2.drew.heap[q]? = _ from HQ1.out) (fun e => hgq e.symm)); clear hf
      refine hK.out _ _ ?_ (fun hHeld => ?_)
      · exact cells_six HQ4.out
      clear hK K
      (try simp only [Act.put, List.setIfInBounds_toArray, List.set_cons_zero, List.set_cons_succ, List.getElem_toArray, List.getElem_cons_zero, List.getElem_cons_succ])
      refine wpAnyH_done (by kernel_rfl) ?_ _
      refine NoPanic.normal ?_
      go_end0
      exact ⟨rfl, fun _ => (PutC.keep_then (HK1.out.drew) HG.out (HF4.out.put hg1)).congr (fun j hj => by unfold frontF; rw [if_neg (by omega)]), fun e => absurd e (by omega)⟩
    · skip
      go_enter Tryz.func117, Tryz.ntmps117
      go_upto_region 1 with fail
      rw [← hw1]
      obtain ⟨q, hq⟩ : ∃ q, q = w.heap.size := ⟨_, rfl⟩
      rw [← hq] at HQ1
      rw [← hq]
      have hgq : g ≠ q := by have := HG.out; omega
      clear hw1 hq
      go_wp2_with fail
      refine (HW.out _).mono ?_
      rintro e w2 ⟨rfl, rfl⟩
      go_wp2_with (with_reducible refine wpList_copy_put rfl _ _ _ _ rfl 46 Tryz.underlying32 cell_info _ _ _ _ _ _ rfl rfl g (o) g (o + m * 6) d (fun j => f (j)) (fun j => f (m + j)) ?hmc ?hDc ?hSc ?_)
      case hmc => have := HD.out; simp; omega
      case hDc => exact fun hp => ⟨by rfl, by have := HL1.out.sub 0 d (by have := HD.out; omega); simpa using this, hg1⟩
      case hSc => exact fun hp => ⟨by rfl, HL1.out.sub m d (by have := HD.out; omega), hg1⟩
      intro w3 hp3
      have HP3 := Lib.hid hp3
      have HQ2 := Lib.hid (hp3.keep.heap HQ1.out (fun e => hgq e.symm))
      have HL3 := Lib.hid (PutC.lies HL1.out (a := 0) (by simpa using HP3.out) (by have := HD.out; omega))
      have hg3 : g < w3.heap.size := by have := hp3.keep.size; omega
      obtain ⟨F2, hF2⟩ : ∃ F2, Lies w3 g (o + d * 6) m F2 := ⟨_, HL3.out.sub d m (by have := HD.out; omega)⟩
      have HL4 := Lib.hid hF2
      clear hp3 hF2
      go_wp2_with fail
      refine wp_region_noPanic ?_
      refine wp_region_held_drew (S := fun w' => w'.cell? ⟨q, 0, none⟩ = some (.int .i32 x.r) ∧ w'.cell? ⟨q, 1, none⟩ = some (.int .i64 x.a.fg) ∧ w'.cell? ⟨q, 2, none⟩ = some (.int .i64 x.a.bg) ∧ w'.cell? ⟨q, 3, none⟩ = some (.bool x.a.b) ∧ w'.cell? ⟨q, 4, none⟩ = some (.bool x.a.u) ∧ w'.cell? ⟨q, 5, none⟩ = some (.bool x.a.i)) (by kernel_rfl) (cells_six HQ2.out) (fun hHeld => ?_)
      refine wpAnyH_take (i := 0) (oi := _) (v := ?vc0) rfl (by kernel_rfl) (by kernel_rfl) (by kernel_rfl) (fun _ _ _ h => h) (Or.inl ⟨by rfl, ?hyc0⟩) (by assumption) ?restc0
      case hyc0 => (intro w hSw; (try dsimp only at hSw); (try simp only [List.getElem_toArray, List.getElem_cons_zero, List.getElem_cons_succ]); go_simp; (try with_reducible rfl))
      (try simp only [Act.put, List.setIfInBounds_toArray, List.set_cons_zero, List.set_cons_succ, List.getElem_toArray, List.getElem_cons_zero, List.getElem_cons_succ])
      refine wpAnyH_take (i := 1) (oi := _) (v := ?vc1) rfl (by kernel_rfl) (by kernel_rfl) (by kernel_rfl) (fun _ _ _ h => h) (Or.inl ⟨by rfl, ?hyc1⟩) (by assumption) ?restc1
      case hyc1 => (intro w hSw; (try dsimp only at hSw); (try simp only [List.getElem_toArray, List.getElem_cons_zero, List.getElem_cons_succ]); go_simp; (try with_reducible rfl))
      (try simp only [Act.put, List.setIfInBounds_toArray, List.set_cons_zero, List.set_cons_succ, List.getElem_toArray, List.getElem_cons_zero, List.getElem_cons_succ])
      refine wpAnyH_take (i := 2) (oi := _) (v := ?vc2) rfl (by kernel_rfl) (by kernel_rfl) (by kernel_rfl) (fun _ _ _ h => h) (Or.inl ⟨by rfl, ?hyc2⟩) (by assumption) ?restc2
      case hyc2 => (intro w hSw; (try dsimp only at hSw); (try simp only [List.getElem_toArray, List.getElem_cons_zero, List.getElem_cons_succ]); go_simp; (try with_reducible rfl))
      (try simp only [Act.put, List.setIfInBounds_toArray, List.set_cons_zero, List.set_cons_succ, List.getElem_toArray, List.getElem_cons_zero, List.getElem_cons_succ])
      refine wpAnyH_take (i := 3) (oi := _) (v := ?vc3) rfl (by kernel_rfl) (by kernel_rfl) (by kernel_rfl) (fun _ _ _ h => h) (Or.inl ⟨by rfl, ?hyc3⟩) (by assumption) ?restc3
      case hyc3 => (intro w hSw; (try dsimp only at hSw); (try simp only [List.getElem_toArray, List.getElem_cons_zero, List.getElem_cons_succ]); go_simp; (try with_reducible rfl))
      (try simp only [Act.put, List.setIfInBounds_toArray, List.set_cons_zero, List.set_cons_succ, List.getElem_toArray, List.getElem_cons_zero, List.getElem_cons_succ])
      refine wpAnyH_take (i := 4) (oi := _) (v := ?vc4) rfl (by kernel_rfl) (by kernel_rfl) (by kernel_rfl) (fun _ _ _ h => h) (Or.inl ⟨by rfl, ?hyc4⟩) (by assumption) ?restc4
      case hyc4 => (intro w hSw; (try dsimp only at hSw); (try simp only [List.getElem_toArray, List.getElem_cons_zero, List.getElem_cons_succ]); go_simp; (try with_reducible rfl))
      (try simp only [Act.put, List.setIfInBounds_toArray, List.set_cons_zero, List.set_cons_succ, List.getElem_toArray, List.getElem_cons_zero, List.getElem_cons_succ])
      refine wpAnyH_take (i := 5) (oi := _) (v := ?vc5) rfl (by kernel_rfl) (by kernel_rfl) (by kernel_rfl) (fun _ _ _ h => h) (Or.inl ⟨by rfl, ?hyc5⟩) (by assumption) ?restc5
      case hyc5 => (intro w hSw; (try dsimp only at hSw); (try simp only [List.getElem_toArray, List.getElem_cons_zero, List.getElem_cons_succ]); go_simp; (try with_reducible rfl))
      (try simp only [Act.put, List.setIfInBounds_toArray, List.set_cons_zero, List.set_cons_succ, List.getElem_toArray, List.getElem_cons_zero, List.getElem_cons_succ])
      refine wpAnyH_take (i := 6) (oi := _) (v := ?vc6) rfl (by kernel_rfl) (by kernel_rfl) (by kernel_rfl) (fun _ _ _ h => h) (Or.inl ⟨by rfl, ?hyc6⟩) (by assumption) ?restc6
      case hyc6 => (intro w hSw; (try dsimp only at hSw); (try simp only [List.getElem_toArray, List.getElem_cons_zero, List.getElem_cons_succ]); go_simp; (try with_reducible rfl))
      (try simp only [Act.put, List.setIfInBounds_toArray, List.set_cons_zero, List.set_cons_succ, List.getElem_toArray, List.getElem_cons_zero, List.getElem_cons_succ])
      refine wpAnyH_ready (rs := [7]) (by kernel_rfl) (by simp) ?_
      refine AllReadyH.cons (o := _) rfl (fun K hK => ?_) AllReadyH.nil
      (try simp only [List.getElem_toArray, List.getElem_cons_zero, List.getElem_cons_succ])
      go_simp
      rw [HM.out]; (refine (fill_any _ g (o + d * 6) m _ F2 x _ (fun hp => ⟨by have := HNC.out; have := HD.out; rw [if_neg (by omega)], HL4.out.keep hg3 ((Keep.refl (fun _ => False) w3).drew) (fun x => x), hg3⟩) (by omega)).mono ?_); rintro e w4 ⟨rfl, hf⟩; have HF4 := Lib.hid hf; have HQ4 := Lib.hid (hf.keep.heap (show w3.drew.heap[q]? = _ from HQ2.out) (fun e => hgq e.symm)); clear hf
      refine hK.out _ _ ?_ (fun hHeld => ?_)
      · exact cells_six HQ4.out
      clear hK K
      (try simp only [Act.put, List.setIfInBounds_toArray, List.set_cons_zero, List.set_cons_succ, List.getElem_toArray, List.getElem_cons_zero, List.getElem_cons_succ])
      refine wpAnyH_done (by kernel_rfl) ?_ _
      refine NoPanic.normal ?_
      go_end0
      exact ⟨rfl, front_fills HG.out h0 hmn HK1.out (by rw [← HD.out]; exact HP3.out.drew) (by rw [← HD.out]; exact HF4.out)⟩

set_option maxRecDepth 100000 in
set_option maxHeartbeats 3200000 in
theorem toBack_any (A : Option Addr) (g o n c : Nat) (f : Nat → CellM) (x : CellM) (k : Int) (m : Nat) (w : World) (h : Sl w A g o n c f) (hn : n ≤ 100000) (hcm : c ≤ 9223372036854775807) (hm : min (max k 0) (n : Int) = (m : Int)) :
    Calls Tryz.prog 89 #[.slice A n c, .int .i64 k, x.v] w fun e w' => e = .returned (.tuple #[]) ∧ Fills g o n (backF f m x) w w' := by
  have hmn : m ≤ n := by omega
  have HW : Hid (∀ W, Calls Tryz.prog 46 #[.int .i64 k, .int .i64 0, .int .i64 n] W fun e w' => e = .returned (.int .i64 m) ∧ w' = W) := Lib.hid (fun W => by have := within_any k 0 n W; rwa [hm] at this)
  have hni : (n : Int) ≤ 100000 := by omega
  have hmi : (m : Int) ≤ (n : Int) := by omega
  have hm0 : (0 : Int) ≤ (m : Int) := by omega
  have hci : (c : Int) ≤ 9223372036854775807 := by omega
  clear hm
  rcases Nat.eq_zero_or_pos n with h0 | h0
  · have hmz : m = 0 := by omega
    subst hmz h0
    obtain ⟨rfl, rfl⟩ := h.zero rfl
    obtain ⟨w1, hw1⟩ : ∃ w1, w1 = w.alloc (.cells (vcells x) 46) := ⟨_, rfl⟩
    have HK1 : Hid (Keep (fun _ => False) w w1) := Lib.hid (by rw [hw1]; exact (Keep.refl _ w).alloc _)
    have HQ2 : Hid (w1.heap[w.heap.size]? = some (.cells (vcells x) 46 (0, 0))) := Lib.hid (by rw [hw1]; exact heap_alloc_new w _)
    have hcz := fun (W : World) => run_copy_zero (P := Tryz.prog) W 32 32 3 46 none none 0 0 0 0 6 Tryz.underlying32 cell_info rfl
    have hw0 : IntKind.i64.wrap 0 = 0 := by decide
    clear h hmi hni
    simp only [CellM.v]
    unfold vcells at hw1
    go_enter Tryz.func89, Tryz.ntmps89
    go_upto_region 1 with fail
    rw [← hw1]
    obtain ⟨q, hq⟩ : ∃ q, q = w.heap.size := ⟨_, rfl⟩
    rw [← hq] at HQ2
    rw [← hq]
    clear hw1 hq
    go_wp2_with fail
    refine (HW.out _).mono ?_
    rintro e w2 ⟨rfl, rfl⟩
    go_wp2_with fail
    refine wp_region_noPanic ?_
    refine wp_region_held_drew (S := fun w' => w'.cell? ⟨q, 0, none⟩ = some (.int .i32 x.r) ∧ w'.cell? ⟨q, 1, none⟩ = some (.int .i64 x.a.fg) ∧ w'.cell? ⟨q, 2, none⟩ = some (.int .i64 x.a.bg) ∧ w'.cell? ⟨q, 3, none⟩ = some (.bool x.a.b) ∧ w'.cell? ⟨q, 4, none⟩ = some (.bool x.a.u) ∧ w'.cell? ⟨q, 5, none⟩ = some (.bool x.a.i)) (by kernel_rfl) (cells_six HQ2.out) (fun hHeld => ?_)
    refine wpAnyH_take (i := 0) (oi := _) (v := ?vz0) rfl (by kernel_rfl) (by kernel_rfl) (by kernel_rfl) (fun _ _ _ h => h) (Or.inl ⟨by rfl, ?hyz0⟩) (by assumption) ?restz0
    case hyz0 => (intro w hSw; (try dsimp only at hSw); (try simp only [List.getElem_toArray, List.getElem_cons_zero, List.getElem_cons_succ]); go_simp; (try with_reducible rfl))
    (try simp only [Act.put, List.setIfInBounds_toArray, List.set_cons_zero, List.set_cons_succ, List.getElem_toArray, List.getElem_cons_zero, List.getElem_cons_succ])
    refine wpAnyH_take (i := 1) (oi := _) (v := ?vz1) rfl (by kernel_rfl) (by kernel_rfl) (by kernel_rfl) (fun _ _ _ h => h) (Or.inl ⟨by rfl, ?hyz1⟩) (by assumption) ?restz1
    case hyz1 => (intro w hSw; (try dsimp only at hSw); (try simp only [List.getElem_toArray, List.getElem_cons_zero, List.getElem_cons_succ]); go_simp; (try with_reducible rfl))
    (try simp only [Act.put, List.setIfInBounds_toArray, List.set_cons_zero, List.set_cons_succ, List.getElem_toArray, List.getElem_cons_zero, List.getElem_cons_succ])
    refine wpAnyH_take (i := 2) (oi := _) (v := ?vz2) rfl (by kernel_rfl) (by kernel_rfl) (by kernel_rfl) (fun _ _ _ h => h) (Or.inl ⟨by rfl, ?hyz2⟩) (by assumption) ?restz2
    case hyz2 => (intro w hSw; (try dsimp only at hSw); (try simp only [List.getElem_toArray, List.getElem_cons_zero, List.getElem_cons_succ]); go_simp; (try with_reducible rfl))
    (try simp only [Act.put, List.setIfInBounds_toArray, List.set_cons_zero, List.set_cons_succ, List.getElem_toArray, List.getElem_cons_zero, List.getElem_cons_succ])
    refine wpAnyH_take (i := 3) (oi := _) (v := ?vz3) rfl (by kernel_rfl) (by kernel_rfl) (by kernel_rfl) (fun _ _ _ h => h) (Or.inl ⟨by rfl, ?hyz3⟩) (by assumption) ?restz3
    case hyz3 => (intro w hSw; (try dsimp only at hSw); (try simp only [List.getElem_toArray, List.getElem_cons_zero, List.getElem_cons_succ]); go_simp; (try with_reducible rfl))
    (try simp only [Act.put, List.setIfInBounds_toArray, List.set_cons_zero, List.set_cons_succ, List.getElem_toArray, List.getElem_cons_zero, List.getElem_cons_succ])
    refine wpAnyH_ready (rs := [4]) (by kernel_rfl) (by simp) ?_
    refine AllReadyH.cons (o := _) rfl (fun K hK => ?_) AllReadyH.nil
    (try simp only [List.getElem_toArray, List.getElem_cons_zero, List.getElem_cons_succ])
    go_simp
    (refine (fill_any none g o 0 0 f x _ (fun h => absurd h (by omega)) (by omega)).mono ?_); rintro e w4 ⟨rfl, hf⟩; have HF4 := Lib.hid ((HK1.out.drew).trans (hf.2 rfl) (fun _ _ x => x)); have HQ4 := Lib.hid ((hf.2 rfl).heap (show w2.drew.heap[q]? = _ from HQ2.out) (fun x => x)); clear hf
    refine hK.out _ _ ?_ (fun hHeld => ?_)
    · exact cells_six HQ4.out
    clear hK K
    (try simp only [Act.put, List.setIfInBounds_toArray, List.set_cons_zero, List.set_cons_succ, List.getElem_toArray, List.getElem_cons_zero, List.getElem_cons_succ])
    refine wpAnyH_done (by kernel_rfl) ?_ _
    refine NoPanic.normal ?_
    go_end0
    exact ⟨rfl, fun h => absurd h (by omega), fun _ => HF4.out⟩
  · obtain ⟨rfl, hL, hg, hnc⟩ := h.pos h0
    obtain ⟨w1, hw1⟩ : ∃ w1, w1 = w.alloc (.cells (vcells x) 46) := ⟨_, rfl⟩
    have HK1 : Hid (Keep (fun _ => False) w w1) := Lib.hid (by rw [hw1]; exact (Keep.refl _ w).alloc _)
    have HL1 := Lib.hid (hL.keep hg HK1.out (fun x => x))
    have HQ1 : Hid (w1.heap[w.heap.size]? = some (.cells (vcells x) 46 (0, 0))) := Lib.hid (by rw [hw1]; exact heap_alloc_new w _)
    have hg1 : g < w1.heap.size := by have := HK1.out.size; omega
    have HG := Lib.hid hg
    have HNC := Lib.hid hnc
    have hnci : (n : Int) ≤ (c : Int) := by omega
    clear h hL hg hnc
    simp only [CellM.v]
    unfold vcells at hw1
    obtain ⟨d, hd⟩ : ∃ d, d = n - m := ⟨_, rfl⟩
    have hsub : (n : Int) - (m : Int) = (d : Int) := by omega
    have hdi : (d : Int) ≤ (n : Int) := by omega
    have hwd : IntKind.i64.wrap (d : Int) = (d : Int) := IntWalk.i64_in _ (by omega)
    have hwm : IntKind.i64.wrap (m : Int) = (m : Int) := IntWalk.i64_in _ (by omega)
    have hd0 : (0 : Int) ≤ (d : Int) := by omega
    have hdc : (d : Int) ≤ (c : Int) := by omega
    have hmc : (m : Int) ≤ (c : Int) := by omega
    have HD := Lib.hid hd
    have HM : Hid (n - d = m) := Lib.hid (by omega)
    clear hd
    by_cases hc1 : c = m
    · skip
      go_enter Tryz.func89, Tryz.ntmps89
      go_upto_region 1 with fail
      rw [← hw1]
      obtain ⟨q, hq⟩ : ∃ q, q = w.heap.size := ⟨_, rfl⟩
      rw [← hq] at HQ1
      rw [← hq]
      have hgq : g ≠ q := by have := HG.out; omega
      clear hw1 hq
      go_wp2_with fail
      refine (HW.out _).mono ?_
      rintro e w2 ⟨rfl, rfl⟩
      go_wp2_with (with_reducible refine wpList_copy_put rfl _ _ _ _ rfl 46 Tryz.underlying32 cell_info _ _ _ _ _ _ rfl rfl g (o + m * 6) g (o) d (fun j => f (m + j)) (fun j => f (j)) ?hma ?hDa ?hSa ?_)
      case hma => have := HD.out; simp; omega
      case hDa => exact fun hp => ⟨by omega, HL1.out.sub m d (by have := HD.out; omega), hg1⟩
      case hSa => exact fun hp => ⟨by rfl, by have := HL1.out.sub 0 d (by have := HD.out; omega); simpa using this, hg1⟩
      intro w3 hp3
      have HP3 := Lib.hid hp3
      have HQ2 := Lib.hid (hp3.keep.heap HQ1.out (fun e => hgq e.symm))
      have HL3 := Lib.hid (PutC.lies HL1.out (a := m) HP3.out (by have := HD.out; omega))
      have hg3 : g < w3.heap.size := by have := hp3.keep.size; omega
      obtain ⟨F2, hF2⟩ : ∃ F2, Lies w3 g (o) m F2 := ⟨_, (by have := HL3.out.sub 0 m (by have := HD.out; omega); simpa using this)⟩
      have HL4 := Lib.hid hF2
      clear hp3 hF2
      go_wp2_with fail
      refine wp_region_noPanic ?_
      refine wp_region_held_drew (S := fun w' => w'.cell? ⟨q, 0, none⟩ = some (.int .i32 x.r) ∧ w'.cell? ⟨q, 1, none⟩ = some (.int .i64 x.a.fg) ∧ w'.cell? ⟨q, 2, none⟩ = some (.int .i64 x.a.bg) ∧ w'.cell? ⟨q, 3, none⟩ = some (.bool x.a.b) ∧ w'.cell? ⟨q, 4, none⟩ = some (.bool x.a.u) ∧ w'.cell? ⟨q, 5, none⟩ = some (.bool x.a.i)) (by kernel_rfl) (cells_six HQ2.out) (fun hHeld => ?_)
      refine wpAnyH_take (i := 0) (oi := _) (v := ?va0) rfl (by kernel_rfl) (by kernel_rfl) (by kernel_rfl) (fun _ _ _ h => h) (Or.inl ⟨by rfl, ?hya0⟩) (by assumption) ?resta0
      case hya0 => (intro w hSw; (try dsimp only at hSw); (try simp only [List.getElem_toArray, List.getElem_cons_zero, List.getElem_cons_succ]); go_simp; (try with_reducible rfl))
      (try simp only [Act.put, List.setIfInBounds_toArray, List.set_cons_zero, List.set_cons_succ, List.getElem_toArray, List.getElem_cons_zero, List.getElem_cons_succ])
      refine wpAnyH_take (i := 1) (oi := _) (v := ?va1) rfl (by kernel_rfl) (by kernel_rfl) (by kernel_rfl) (fun _ _ _ h => h) (Or.inl ⟨by rfl, ?hya1⟩) (by assumption) ?resta1
      case hya1 => (intro w hSw; (try dsimp only at hSw); (try simp only [List.getElem_toArray, List.getElem_cons_zero, List.getElem_cons_succ]); go_simp; (try with_reducible rfl))
      (try simp only [Act.put, List.setIfInBounds_toArray, List.set_cons_zero, List.set_cons_succ, List.getElem_toArray, List.getElem_cons_zero, List.getElem_cons_succ])
      refine wpAnyH_take (i := 2) (oi := _) (v := ?va2) rfl (by kernel_rfl) (by kernel_rfl) (by kernel_rfl) (fun _ _ _ h => h) (Or.inl ⟨by rfl, ?hya2⟩) (by assumption) ?resta2
      case hya2 => (intro w hSw; (try dsimp only at hSw); (try simp only [List.getElem_toArray, List.getElem_cons_zero, List.getElem_cons_succ]); go_simp; (try with_reducible rfl))
      (try simp only [Act.put, List.setIfInBounds_toArray, List.set_cons_zero, List.set_cons_succ, List.getElem_toArray, List.getElem_cons_zero, List.getElem_cons_succ])
      refine wpAnyH_take (i := 3) (oi := _) (v := ?va3) rfl (by kernel_rfl) (by kernel_rfl) (by kernel_rfl) (fun _ _ _ h => h) (Or.inl ⟨by rfl, ?hya3⟩) (by assumption) ?resta3
      case hya3 => (intro w hSw; (try dsimp only at hSw); (try simp only [List.getElem_toArray, List.getElem_cons_zero, List.getElem_cons_succ]); go_simp; (try with_reducible rfl))
      (try simp only [Act.put, List.setIfInBounds_toArray, List.set_cons_zero, List.set_cons_succ, List.getElem_toArray, List.getElem_cons_zero, List.getElem_cons_succ])
      refine wpAnyH_ready (rs := [4]) (by kernel_rfl) (by simp) ?_
      refine AllReadyH.cons (o := _) rfl (fun K hK => ?_) AllReadyH.nil
      (try simp only [List.getElem_toArray, List.getElem_cons_zero, List.getElem_cons_succ])
      go_simp
      (refine (fill_any _ g (o) m _ F2 x _ (fun hp => ⟨by rfl, HL4.out.keep hg3 ((Keep.refl (fun _ => False) w3).drew) (fun x => x), hg3⟩) (by omega)).mono ?_); rintro e w4 ⟨rfl, hf⟩; have HF4 := Lib.hid hf; have HQ4 := Lib.hid (hf.keep.heap (show w3.drew.heap[q]? = _ from HQ2.out) (fun e => hgq e.symm)); clear hf
      refine hK.out _ _ ?_ (fun hHeld => ?_)
      · exact cells_six HQ4.out
      clear hK K
      (try simp only [Act.put, List.setIfInBounds_toArray, List.set_cons_zero, List.set_cons_succ, List.getElem_toArray, List.getElem_cons_zero, List.getElem_cons_succ])
      refine wpAnyH_done (by kernel_rfl) ?_ _
      refine NoPanic.normal ?_
      go_end0
      exact ⟨rfl, back_fills HG.out h0 hmn HK1.out (by rw [← HD.out]; exact HP3.out.drew) HF4.out⟩
    · skip
      go_enter Tryz.func89, Tryz.ntmps89
      go_upto_region 1 with fail
      rw [← hw1]
      obtain ⟨q, hq⟩ : ∃ q, q = w.heap.size := ⟨_, rfl⟩
      rw [← hq] at HQ1
      rw [← hq]
      have hgq : g ≠ q := by have := HG.out; omega
      clear hw1 hq
      go_wp2_with fail
      refine (HW.out _).mono ?_
      rintro e w2 ⟨rfl, rfl⟩
      go_wp2_with (with_reducible refine wpList_copy_put rfl _ _ _ _ rfl 46 Tryz.underlying32 cell_info _ _ _ _ _ _ rfl rfl g (o + m * 6) g (o) d (fun j => f (m + j)) (fun j => f (j)) ?hmb ?hDb ?hSb ?_)
      case hmb => have := HD.out; simp; omega
      case hDb => exact fun hp => ⟨by rfl, HL1.out.sub m d (by have := HD.out; omega), hg1⟩
      case hSb => exact fun hp => ⟨by rfl, by have := HL1.out.sub 0 d (by have := HD.out; omega); simpa using this, hg1⟩
      intro w3 hp3
      have HP3 := Lib.hid hp3
      have HQ2 := Lib.hid (hp3.keep.heap HQ1.out (fun e => hgq e.symm))
      have HL3 := Lib.hid (PutC.lies HL1.out (a := m) HP3.out (by have := HD.out; omega))
      have hg3 : g < w3.heap.size := by have := hp3.keep.size; omega
      obtain ⟨F2, hF2⟩ : ∃ F2, Lies w3 g (o) m F2 := ⟨_, (by have := HL3.out.sub 0 m (by have := HD.out; omega); simpa using this)⟩
      have HL4 := Lib.hid hF2
      clear hp3 hF2
      go_wp2_with fail
      refine wp_region_noPanic ?_
      refine wp_region_held_drew (S := fun w' => w'.cell? ⟨q, 0, none⟩ = some (.int .i32 x.r) ∧ w'.cell? ⟨q, 1, none⟩ = some (.int .i64 x.a.fg) ∧ w'.cell? ⟨q, 2, none⟩ = some (.int .i64 x.a.bg) ∧ w'.cell? ⟨q, 3, none⟩ = some (.bool x.a.b) ∧ w'.cell? ⟨q, 4, none⟩ = some (.bool x.a.u) ∧ w'.cell? ⟨q, 5, none⟩ = some (.bool x.a.i)) (by kernel_rfl) (cells_six HQ2.out) (fun hHeld => ?_)
      refine wpAnyH_take (i := 0) (oi := _) (v := ?vb0) rfl (by kernel_rfl) (by kernel_rfl) (by kernel_rfl) (fun _ _ _ h => h) (Or.inl ⟨by rfl, ?hyb0⟩) (by assumption) ?restb0
      case hyb0 => (intro w hSw; (try dsimp only at hSw); (try simp only [List.getElem_toArray, List.getElem_cons_zero, List.getElem_cons_succ]); go_simp; (try with_reducible rfl))
      (try simp only [Act.put, List.setIfInBounds_toArray, List.set_cons_zero, List.set_cons_succ, List.getElem_toArray, List.getElem_cons_zero, List.getElem_cons_succ])
      refine wpAnyH_take (i := 1) (oi := _) (v := ?vb1) rfl (by kernel_rfl) (by kernel_rfl) (by kernel_rfl) (fun _ _ _ h => h) (Or.inl ⟨by rfl, ?hyb1⟩) (by assumption) ?restb1
      case hyb1 => (intro w hSw; (try dsimp only at hSw); (try simp only [List.getElem_toArray, List.getElem_cons_zero, List.getElem_cons_succ]); go_simp; (try with_reducible rfl))
      (try simp only [Act.put, List.setIfInBounds_toArray, List.set_cons_zero, List.set_cons_succ, List.getElem_toArray, List.getElem_cons_zero, List.getElem_cons_succ])
      refine wpAnyH_take (i := 2) (oi := _) (v := ?vb2) rfl (by kernel_rfl) (by kernel_rfl) (by kernel_rfl) (fun _ _ _ h => h) (Or.inl ⟨by rfl, ?hyb2⟩) (by assumption) ?restb2
      case hyb2 => (intro w hSw; (try dsimp only at hSw); (try simp only [List.getElem_toArray, List.getElem_cons_zero, List.getElem_cons_succ]); go_simp; (try with_reducible rfl))
      (try simp only [Act.put, List.setIfInBounds_toArray, List.set_cons_zero, List.set_cons_succ, List.getElem_toArray, List.getElem_cons_zero, List.getElem_cons_succ])
      refine wpAnyH_take (i := 3) (oi := _) (v := ?vb3) rfl (by kernel_rfl) (by kernel_rfl) (by kernel_rfl) (fun _ _ _ h => h) (Or.inl ⟨by rfl, ?hyb3⟩) (by assumption) ?restb3
      case hyb3 => (intro w hSw; (try dsimp only at hSw); (try simp only [List.getElem_toArray, List.getElem_cons_zero, List.getElem_cons_succ]); go_simp; (try with_reducible rfl))
      (try simp only [Act.put, List.setIfInBounds_toArray, List.set_cons_zero, List.set_cons_succ, List.getElem_toArray, List.getElem_cons_zero, List.getElem_cons_succ])
      refine wpAnyH_ready (rs := [4]) (by kernel_rfl) (by simp) ?_
      refine AllReadyH.cons (o := _) rfl (fun K hK => ?_) AllReadyH.nil
      (try simp only [List.getElem_toArray, List.getElem_cons_zero, List.getElem_cons_succ])
      go_simp
      (refine (fill_any _ g (o) m _ F2 x _ (fun hp => ⟨by rfl, HL4.out.keep hg3 ((Keep.refl (fun _ => False) w3).drew) (fun x => x), hg3⟩) (by omega)).mono ?_); rintro e w4 ⟨rfl, hf⟩; have HF4 := Lib.hid hf; have HQ4 := Lib.hid (hf.keep.heap (show w3.drew.heap[q]? = _ from HQ2.out) (fun e => hgq e.symm)); clear hf
      refine hK.out _ _ ?_ (fun hHeld => ?_)
      · exact cells_six HQ4.out
      clear hK K
      (try simp only [Act.put, List.setIfInBounds_toArray, List.set_cons_zero, List.set_cons_succ, List.getElem_toArray, List.getElem_cons_zero, List.getElem_cons_succ])
      refine wpAnyH_done (by kernel_rfl) ?_ _
      refine NoPanic.normal ?_
      go_end0
      exact ⟨rfl, back_fills HG.out h0 hmn HK1.out (by rw [← HD.out]; exact HP3.out.drew) HF4.out⟩

end Go.Proofs.YtnminmaklbhakaaGreatDoor
namespace Go.Proofs.YtnminmaklbhakaaGreatDoor
set_option linter.unusedVariables false
set_option linter.unusedSimpArgs false
open Go.RowKit

theorem PutC.of_drewN {g o n k : Nat} {f : Nat → CellM} {w w' : World} (p : PutC g o n f (w.drewN k) w') : PutC g o n f w w' := ⟨((Keep.refl _ w).drewN k).trans p.keep (fun _ _ x => x), p.fz, p.val, p.out⟩
/-- A Grid in block p: its cells f lie in block g. -/
structure GridAt (w : World) (p g c W H n : Nat) (f : Nat → CellM) : Prop where
  cw : Cell w p 0 (.int .i64 (W : Int))
  ch : Cell w p 1 (.int .i64 (H : Int))
  cs : Cell w p 2 (.slice (some ⟨g, 0, none⟩) n c)
  l : Lies w g 0 n f
  hg : g < w.heap.size
  ne : g ≠ p
  hn : n = W * H
  hw : 2 ≤ W ∧ W ≤ 40
  hh : 1 ≤ H ∧ H ≤ 20
  hc : n ≤ c
  cm : c ≤ 9223372036854775807

namespace GridAt
variable {w w' : World} {p g c W H n : Nat} {f f' : Nat → CellM}
theorem lt (h : GridAt w p g c W H n f) : p < w.heap.size := h.cw.lt
theorem keep {S : Nat → Prop} (h : GridAt w p g c W H n f) (k : Keep S w w') (hp : ¬ S p) (hg : ¬ S g) : GridAt w' p g c W H n f :=
  ⟨h.cw.keep k hp, h.ch.keep k hp, h.cs.keep k hp, h.l.keep h.hg k hg, Nat.lt_of_lt_of_le h.hg k.size, h.ne, h.hn, h.hw, h.hh, h.hc, h.cm⟩
theorem n800 (h : GridAt w p g c W H n f) : n ≤ 800 ∧ 2 ≤ n := by
  have h1 := Nat.mul_le_mul h.hw.2 h.hh.2
  have h2 := Nat.mul_le_mul h.hw.1 h.hh.1
  have := h.hn
  omega
/-- Its cells were written. -/
theorem put (h : GridAt w p g c W H n f) {a m : Nat} {x : Nat → CellM} (q : PutC g (a * 6) m x w w') (ha : a + m ≤ n) : GridAt w' p g c W H n (fun k => if a ≤ k ∧ k < a + m then x (k - a) else f k) :=
  ⟨h.cw.keep q.keep (fun e => h.ne e.symm), h.ch.keep q.keep (fun e => h.ne e.symm), h.cs.keep q.keep (fun e => h.ne e.symm), PutC.lies h.l (by rw [Nat.zero_add]; exact q) ha, Nat.lt_of_lt_of_le h.hg q.keep.size, h.ne, h.hn, h.hw, h.hh, h.hc, h.cm⟩
theorem congr (h : GridAt w p g c W H n f) (e : ∀ k, k < n → f k = f' k) : GridAt w p g c W H n f' := ⟨h.cw, h.ch, h.cs, h.l.congr e, h.hg, h.ne, h.hn, h.hw, h.hh, h.hc, h.cm⟩
theorem sl (h : GridAt w p g c W H n f) (a m : Nat) (hm : 0 < m) (ha : a + m ≤ n) : Sl w (some ⟨g, a * 6, none⟩) g (a * 6) m (c - a) (fun k => f (a + k)) :=
  ⟨fun _ => ⟨rfl, by have := h.l.sub a m ha; rwa [Nat.zero_add] at this, h.hg, by have := h.hc; omega⟩, fun e => by omega⟩
end GridAt

set_option maxHeartbeats 800000 in
theorem grid_W (w : World) (p g c W H n : Nat) (f : Nat → CellM) (h : GridAt w p g c W H n f) :
    Calls Tryz.prog 24 #[.pointer (some ⟨p, 0, none⟩)] w fun e w' => e = .returned (.int .i64 W) ∧ w' = w := by
  have c0 := h.cw.1
  clear h
  go_enter Tryz.func24, Tryz.ntmps24
  go_wp2_with fail
  go_ret
  exact ⟨rfl, rfl⟩

set_option maxHeartbeats 800000 in
theorem grid_H (w : World) (p g c W H n : Nat) (f : Nat → CellM) (h : GridAt w p g c W H n f) :
    Calls Tryz.prog 22 #[.pointer (some ⟨p, 0, none⟩)] w fun e w' => e = .returned (.int .i64 H) ∧ w' = w := by
  have c0 := h.ch.1
  clear h
  go_enter Tryz.func22, Tryz.ntmps22
  go_wp2_with fail
  go_ret
  exact ⟨rfl, rfl⟩

/-- Cells that are told: nil, or m from place a on. -/
def Tells (w : World) (g c a m : Nat) (e : Ending) (w' : World) : Prop := (∃ k, w' = w.drewN k) ∧ ((m = 0 ∧ e = .returned (.slice none 0 0)) ∨ (0 < m ∧ e = .returned (.slice (some ⟨g, a * 6, none⟩) m (c - a))))

set_option maxRecDepth 100000 in
set_option maxHeartbeats 1600000 in
theorem places_some (w : World) (p g c W H n : Nat) (f : Nat → CellM) (x y : Int) (a b : Nat) (h : GridAt w p g c W H n f) (hx : max x 0 = (a : Int)) (hy : min y (n : Int) = (b : Int)) (hab : a < b) :
    Calls Tryz.prog 49 #[.pointer (some ⟨p, 0, none⟩), .int .i64 x, .int .i64 y] w fun e w' => e = .returned (.slice (some ⟨g, a * 6, none⟩) (b - a) (c - a)) ∧ ∃ k, w' = w.drewN k := by
  have c0 := h.cs.1
  have hn8 := h.n800.1
  have hc := h.hc
  have hcm := h.cm
  have hbn : b ≤ n := by omega
  have t1 : ¬ ((a : Int) ≥ (b : Int)) := by omega
  have t2 : (b : Int) ≤ (c : Int) := by omega
  have t3 : (0 : Int) ≤ (a : Int) := by omega
  have t4 : (a : Int) ≤ (b : Int) := by omega
  have t5 : (b : Int) ≤ 800 := by omega
  have t6 : ¬ c = a := by omega
  clear h hc hcm
  go_enter Tryz.func49, Tryz.ntmps49
  go_wp2_with fail
  go_quiet (fail)
  go_wp2_with fail
  go_ret
  exact ⟨rfl, _, rfl⟩

set_option maxRecDepth 100000 in
set_option maxHeartbeats 1600000 in
theorem places_none (w : World) (p g c W H n : Nat) (f : Nat → CellM) (x y a b : Int) (h : GridAt w p g c W H n f) (hx : max x 0 = a) (hy : min y (n : Int) = b) (hab : a ≥ b) :
    Calls Tryz.prog 49 #[.pointer (some ⟨p, 0, none⟩), .int .i64 x, .int .i64 y] w fun e w' => e = .returned (.slice none 0 0) ∧ ∃ k, w' = w.drewN k := by
  have c0 := h.cs.1
  clear h
  go_enter Tryz.func49, Tryz.ntmps49
  go_wp2_with fail
  go_quiet (fail)
  go_wp2_with fail
  go_ret
  exact ⟨rfl, _, rfl⟩

theorem grid_places (w : World) (p g c W H n : Nat) (f : Nat → CellM) (x y : Int) (a m : Nat) (h : GridAt w p g c W H n f) (hm : m = (min y (n : Int) - max x 0).toNat) (ha : 0 < m → max x 0 = (a : Int)) :
    Calls Tryz.prog 49 #[.pointer (some ⟨p, 0, none⟩), .int .i64 x, .int .i64 y] w (Tells w g c a m) := by
  rcases Nat.eq_zero_or_pos m with h0 | h0
  · refine (places_none w p g c W H n f x y _ _ h rfl rfl (by omega)).mono ?_
    rintro e w' ⟨rfl, k, rfl⟩
    exact ⟨⟨k, rfl⟩, .inl ⟨h0, rfl⟩⟩
  · have hx := ha h0
    refine (places_some w p g c W H n f x y a (a + m) h hx (by omega) (by omega)).mono ?_
    rintro e w' ⟨rfl, k, rfl⟩
    exact ⟨⟨k, rfl⟩, .inr ⟨h0, by rw [Nat.add_sub_cancel_left]⟩⟩

set_option maxRecDepth 100000 in
set_option maxHeartbeats 1600000 in
theorem rest_in (w : World) (p g c W H n : Nat) (f : Nat → CellM) (x y : Nat) (h : GridAt w p g c W H n f) (hx : x < W) (hy : y < H) :
    Calls Tryz.prog 35 #[.pointer (some ⟨p, 0, none⟩), .int .i64 x, .int .i64 y] w (Tells w g c (y * W + x) (W - x)) := by
  have h1 := Nat.mul_le_mul_right W (Nat.succ_le_of_lt hy)
  have h2 := Nat.mul_le_mul_left W h.hh.2
  have h3 := Nat.mul_le_mul_right H h.hw.2
  have hn := h.hn
  have e1 : (y + 1) * W = y * W + W := Nat.succ_mul y W
  have e2 : W * H = H * W := Nat.mul_comm W H
  have hw := h.hw
  have hh := h.hh
  have hW := Lib.hid (grid_W w p g c W H n f h)
  have hH := Lib.hid (grid_H w p g c W H n f h)
  obtain ⟨P, hP⟩ : ∃ P, P = y * W := ⟨_, rfl⟩
  have hPi : (y : Int) * (W : Int) = (P : Int) := by rw [hP]; exact (Int.natCast_mul y W).symm
  have hQi : ((y : Int) + 1) * (W : Int) = (P : Int) + (W : Int) := by rw [Int.add_mul, hPi]; omega
  have hP8 : P + W ≤ n := by rw [hP, ← e1, hn, e2]; exact h1
  have hn8 := h.n800.1
  have hw1 : IntKind.i64.wrap ((y : Int) * (W : Int)) = (P : Int) := by rw [hPi]; exact IntWalk.i64_in _ (by omega)
  have hw2 : IntKind.i64.wrap (((y : Int) + 1) * (W : Int)) = (P : Int) + (W : Int) := by rw [hQi]; exact IntWalk.i64_in _ (by omega)
  have hPL := Lib.hid (grid_places w p g c W H n f ((P : Int) + (x : Int)) ((P : Int) + (W : Int)) (P + x) (W - x) h (by omega) (fun _ => by omega))
  have t1 : ¬ ((x : Int) < 0) := by omega
  have t2 : ¬ ((x : Int) ≥ (W : Int)) := by omega
  have t3 : ¬ ((y : Int) < 0) := by omega
  have t4 : ¬ ((y : Int) ≥ (H : Int)) := by omega
  have t5 : (P : Int) ≤ 800 := by omega
  have t6 : (x : Int) ≤ 40 := by omega
  have t7 : (y : Int) ≤ 20 := by omega
  have t8 : (W : Int) ≤ 40 := by omega
  rw [← hP]
  clear h h1 h2 h3 hn e1 e2 hw hh hP hP8 hn8
  go_enter Tryz.func35, Tryz.ntmps35
  go_wp2_with (first | (refine (hW.out).mono ?_; rintro e w1 ⟨rfl, rfl⟩) | (refine (hH.out).mono ?_; rintro e w1 ⟨rfl, rfl⟩))
  refine hPL.out.mono ?_
  rintro e w2 ⟨⟨k, rfl⟩, ⟨hz, rfl⟩ | ⟨hz, rfl⟩⟩
  · exact absurd hz (by omega)
  · have HZ := Lib.hid hz
    clear hz
    go_wp2_with fail
    go_ret
    exact ⟨⟨k, rfl⟩, .inr ⟨HZ.out, rfl⟩⟩

set_option maxRecDepth 100000 in
set_option maxHeartbeats 1600000 in
theorem rest_out (w : World) (p g c W H n : Nat) (f : Nat → CellM) (x y : Int) (h : GridAt w p g c W H n f) (ho : x < 0 ∨ (¬ x < 0 ∧ x ≥ (W : Int)) ∨ (¬ x < 0 ∧ ¬ x ≥ (W : Int) ∧ y < 0) ∨ (¬ x < 0 ∧ ¬ x ≥ (W : Int) ∧ ¬ y < 0 ∧ y ≥ (H : Int))) :
    Calls Tryz.prog 35 #[.pointer (some ⟨p, 0, none⟩), .int .i64 x, .int .i64 y] w fun e w' => e = .returned (.slice none 0 0) ∧ w' = w := by
  have hW := Lib.hid (grid_W w p g c W H n f h)
  have hH := Lib.hid (grid_H w p g c W H n f h)
  clear h
  rcases ho with ho | ⟨h1, ho⟩ | ⟨h1, h2, ho⟩ | ⟨h1, h2, h3, ho⟩
  all_goals
    go_enter Tryz.func35, Tryz.ntmps35
    go_wp2_with (first | (refine (hW.out).mono ?_; rintro e w1 ⟨rfl, rfl⟩) | (refine (hH.out).mono ?_; rintro e w1 ⟨rfl, rfl⟩))
    go_ret
    exact ⟨rfl, rfl⟩

/-- How many cells, and from where: the cells of a row from (x, y) on. -/
def restN (W H : Nat) (x y : Int) : Nat := if 0 ≤ x ∧ x < W ∧ 0 ≤ y ∧ y < H then W - x.toNat else 0
def restA (W : Nat) (x y : Int) : Nat := y.toNat * W + x.toNat
theorem grid_rest (w : World) (p g c W H n : Nat) (f : Nat → CellM) (x y : Int) (h : GridAt w p g c W H n f) :
    Calls Tryz.prog 35 #[.pointer (some ⟨p, 0, none⟩), .int .i64 x, .int .i64 y] w (Tells w g c (restA W x y) (restN W H x y)) := by
  by_cases hi : 0 ≤ x ∧ x < W ∧ 0 ≤ y ∧ y < H
  · obtain ⟨X, rfl⟩ : ∃ X : Nat, x = X := ⟨x.toNat, by omega⟩
    obtain ⟨Y, rfl⟩ : ∃ Y : Nat, y = Y := ⟨y.toNat, by omega⟩
    have := rest_in w p g c W H n f X Y h (by omega) (by omega)
    unfold restN restA
    rw [if_pos hi]
    exact this
  · refine (rest_out w p g c W H n f x y h (by omega)).mono ?_
    rintro e w' ⟨rfl, rfl⟩
    unfold restN
    rw [if_neg hi]
    exact ⟨⟨0, rfl⟩, .inl ⟨rfl, rfl⟩⟩
theorem restN_le {W H n : Nat} (hn : n = W * H) (x y : Int) (h0 : 0 < restN W H x y) : restA W x y + restN W H x y ≤ n := by
  unfold restN restA at *
  split at h0
  · rename_i hi
    rw [if_pos hi]
    have h1 := Nat.mul_le_mul_right W (show y.toNat + 1 ≤ H by omega)
    have e1 : (y.toNat + 1) * W = y.toNat * W + W := Nat.succ_mul _ W
    have e2 : W * H = H * W := Nat.mul_comm W H
    omega
  · omega

/-- The cells that are told, as a slice. -/
theorem Tells.sl {w w' : World} {p g c W H n a m : Nat} {f : Nat → CellM} {e : Ending} (t : Tells w g c a m e w') (h : GridAt w p g c W H n f) (ha : 0 < m → a + m ≤ n) :
    ∃ (A : Option Addr) (c' k : Nat), e = .returned (.slice A m c') ∧ w' = w.drewN k ∧ c' ≤ 9223372036854775807 ∧ Sl w A g (a * 6) m c' (fun k => f (a + k)) := by
  obtain ⟨⟨k, rfl⟩, ⟨rfl, rfl⟩ | ⟨h0, rfl⟩⟩ := t
  · exact ⟨none, 0, k, rfl, rfl, by omega, Sl.nil _ _ _ _⟩
  · exact ⟨_, _, k, rfl, rfl, by have := h.cm; omega, h.sl a m h0 (ha h0)⟩

set_option maxRecDepth 100000 in
set_option maxHeartbeats 1600000 in
/-- Set. -/
theorem grid_setR (w : World) (p g c W H n : Nat) (f : Nat → CellM) (x y : Int) (B : Option Addr) (m mc : Nat) (l : Nat → CellM) (h : GridAt w p g c W H n f) (hl : Src w B (m * 6) (flatF l m)) (hm : m ≤ 100000) (j : Nat) (hj : j = min m (restN W H x y)) :
    Calls Tryz.prog 34 #[.pointer (some ⟨p, 0, none⟩), .int .i64 x, .int .i64 y, .slice B m mc] w fun e w' => e = .returned (.int .i64 j) ∧ PutC g (restA W x y * 6) j l w w' := by
  have HR := Lib.hid (grid_rest w p g c W H n f x y h)
  have hrn := restN_le h.hn x y
  go_enter Tryz.func34, Tryz.ntmps34
  go_wp2_with fail
  refine HR.out.mono ?_
  rintro e w1 ht
  obtain ⟨A, c', k, rfl, rfl, hc', hs⟩ := ht.sl h hrn
  have hD : SlC (w.drewN k) A g (restA W x y * 6) j (fun k => f (restA W x y + k)) := fun hp => by
    obtain ⟨a1, a2, a3⟩ := hs.slc (by omega)
    have := a2.sub 0 j (by omega)
    exact ⟨a1, ⟨by simpa using this.val, by simpa using this.can⟩, a3⟩
  have hS : Src (w.drewN k) B (j * 6) (flatF l j) := (src_pre hl (by omega)).keep ((Keep.refl _ w).drewN k)
  have hmn : Nat.min m (restN W H x y) = j := by rw [hj]
  have HD := Lib.hid hD
  have HS := Lib.hid hS
  have HM := Lib.hid hmn
  clear ht hs hD hS hmn hj hrn hl h
  go_wp2_with (with_reducible refine wpList_copy_putR rfl _ _ _ _ rfl 46 Tryz.underlying32 cell_info _ _ _ _ _ _ rfl rfl g (restA W x y * 6) j _ _ HM.out HD.out HS.out ?_)
  intro w2 hp2
  have HP := Lib.hid hp2
  clear hp2
  go_wp2_with fail
  go_ret
  exact ⟨rfl, HP.out.of_drewN⟩


/-- Set of cells that lie somewhere. -/
theorem grid_set (w : World) (p g c W H n : Nat) (f : Nat → CellM) (x y : Int) (B : Option Addr) (m mc : Nat) (l : Nat → CellM) (g2 o2 : Nat) (h : GridAt w p g c W H n f) (hl : SlC w B g2 o2 m l) (hm : m ≤ 100000) (j : Nat) (hj : j = min m (restN W H x y)) :
    Calls Tryz.prog 34 #[.pointer (some ⟨p, 0, none⟩), .int .i64 x, .int .i64 y, .slice B m mc] w fun e w' => e = .returned (.int .i64 j) ∧ PutC g (restA W x y * 6) j l w w' :=
  grid_setR w p g c W H n f x y B m mc l h hl.src hm j hj

end Go.Proofs.YtnminmaklbhakaaGreatDoor
namespace Go.Proofs.YtnminmaklbhakaaGreatDoor
set_option linter.unusedVariables false
set_option linter.unusedSimpArgs false
open Go.RowKit

def rowsA (W : Nat) (t : Int) : Nat := (max t 0).toNat * W
def rowsN (W H : Nat) (t b : Int) : Nat := (min b (H : Int) - max t 0).toNat * W

set_option maxRecDepth 100000 in
set_option maxHeartbeats 1600000 in
theorem rows_in (w : World) (p g c W H n : Nat) (f : Nat → CellM) (t b : Int) (T B : Nat) (h : GridAt w p g c W H n f) (ht : max t 0 = (T : Int)) (hb : min b (H : Int) = (B : Int)) (hTB : T < B) :
    Calls Tryz.prog 44 #[.pointer (some ⟨p, 0, none⟩), .int .i64 t, .int .i64 b] w (Tells w g c (T * W) ((B - T) * W)) := by
  have hBH : B ≤ H := by omega
  have h1 := Nat.mul_le_mul_right W hBH
  have hn := h.hn
  have e2 : W * H = H * W := Nat.mul_comm W H
  have hw := h.hw
  have hh := h.hh
  have hW := Lib.hid (grid_W w p g c W H n f h)
  have hH := Lib.hid (grid_H w p g c W H n f h)
  obtain ⟨P, hP⟩ : ∃ P, P = T * W := ⟨_, rfl⟩
  obtain ⟨M, hM⟩ : ∃ M, M = (B - T) * W := ⟨_, rfl⟩
  have hPM : P + M = B * W := by rw [hP, hM, ← Nat.add_mul]; congr 1; omega
  have hM0 : 0 < M := by rw [hM]; exact Nat.mul_pos (by omega) (by omega)
  have hPi : (T : Int) * (W : Int) = (P : Int) := by rw [hP]; exact (Int.natCast_mul T W).symm
  have hQi : (B : Int) * (W : Int) = (P : Int) + (M : Int) := by rw [← Int.natCast_add, hPM]; exact (Int.natCast_mul B W).symm
  have hP8 : P + M ≤ n := by rw [hPM, hn, e2]; exact h1
  have hn8 := h.n800.1
  have hw1 : IntKind.i64.wrap ((T : Int) * (W : Int)) = (P : Int) := by rw [hPi]; exact IntWalk.i64_in _ (by omega)
  have hw2 : IntKind.i64.wrap ((B : Int) * (W : Int)) = (P : Int) + (M : Int) := by rw [hQi]; exact IntWalk.i64_in _ (by omega)
  have hPL := Lib.hid (grid_places w p g c W H n f (P : Int) ((P : Int) + (M : Int)) P M h (by omega) (fun _ => by omega))
  have t1 : ¬ ((T : Int) ≥ (B : Int)) := by omega
  have t5 : (P : Int) ≤ 800 := by omega
  have t6 : (M : Int) ≤ 800 := by omega
  rw [← hP, ← hM]
  clear h h1 hn e2 hw hh hP hM hPM hP8 hn8
  go_enter Tryz.func44, Tryz.ntmps44
  go_wp2_with (first | (refine (hW.out).mono ?_; rintro e w1 ⟨rfl, rfl⟩) | (refine (hH.out).mono ?_; rintro e w1 ⟨rfl, rfl⟩))
  refine hPL.out.mono ?_
  rintro e w2 ⟨⟨k, rfl⟩, ⟨hz, rfl⟩ | ⟨hz, rfl⟩⟩
  · exact absurd hz (by omega)
  · have HZ := Lib.hid hz
    clear hz
    go_wp2_with fail
    go_ret
    exact ⟨⟨k, rfl⟩, .inr ⟨HZ.out, rfl⟩⟩

set_option maxRecDepth 100000 in
set_option maxHeartbeats 1600000 in
theorem rows_out (w : World) (p g c W H n : Nat) (f : Nat → CellM) (t b T B : Int) (h : GridAt w p g c W H n f) (ht : max t 0 = T) (hb : min b (H : Int) = B) (hTB : T ≥ B) :
    Calls Tryz.prog 44 #[.pointer (some ⟨p, 0, none⟩), .int .i64 t, .int .i64 b] w fun e w' => e = .returned (.slice none 0 0) ∧ w' = w := by
  have hH := Lib.hid (grid_H w p g c W H n f h)
  clear h
  go_enter Tryz.func44, Tryz.ntmps44
  go_wp2_with ((refine (hH.out).mono ?_; rintro e w1 ⟨rfl, rfl⟩))
  go_ret
  exact ⟨rfl, rfl⟩

theorem grid_rows (w : World) (p g c W H n : Nat) (f : Nat → CellM) (t b : Int) (h : GridAt w p g c W H n f) :
    Calls Tryz.prog 44 #[.pointer (some ⟨p, 0, none⟩), .int .i64 t, .int .i64 b] w (Tells w g c (rowsA W t) (rowsN W H t b)) := by
  by_cases hi : max t 0 < min b (H : Int)
  · have := rows_in w p g c W H n f t b (max t 0).toNat (min b (H : Int)).toNat h (by omega) (by omega) (by omega)
    unfold rowsA rowsN
    rwa [show (min b (H : Int) - max t 0).toNat = (min b (H : Int)).toNat - (max t 0).toNat from by omega]
  · refine (rows_out w p g c W H n f t b _ _ h rfl rfl (by omega)).mono ?_
    rintro e w' ⟨rfl, rfl⟩
    unfold rowsN
    rw [show (min b (H : Int) - max t 0).toNat = 0 from by omega, Nat.zero_mul]
    exact ⟨⟨0, rfl⟩, .inl ⟨rfl, rfl⟩⟩
theorem rowsN_le {W H n : Nat} (hn : n = W * H) (t b : Int) (h0 : 0 < rowsN W H t b) : rowsA W t + rowsN W H t b ≤ n := by
  unfold rowsN rowsA at *
  rw [← Nat.add_mul, hn, Nat.mul_comm W H]
  refine Nat.mul_le_mul_right W ?_
  have : 0 < (min b (H : Int) - max t 0).toNat := Nat.pos_of_mul_pos_right h0
  omega

set_option maxHeartbeats 800000 in
theorem grid_cellsOf (w : World) (p g c W H n : Nat) (f : Nat → CellM) (k : Int) (j : Nat) (h : GridAt w p g c W H n f) (hj : min (max k 0) (H : Int) = (j : Int)) :
    Calls Tryz.prog 118 #[.pointer (some ⟨p, 0, none⟩), .int .i64 k] w fun e w' => e = .returned (.int .i64 ((j * W : Nat) : Int)) ∧ w' = w := by
  have hW := Lib.hid (grid_W w p g c W H n f h)
  have hH := Lib.hid (grid_H w p g c W H n f h)
  have hX : Hid (∀ V, Calls Tryz.prog 46 #[.int .i64 k, .int .i64 0, .int .i64 H] V fun e w' => e = .returned (.int .i64 j) ∧ w' = V) := Lib.hid (fun V => by have := within_any k 0 H V; rwa [hj] at this)
  have h8 : j * W ≤ 800 := Nat.mul_le_mul (show j ≤ 20 by have := h.hh.2; omega) h.hw.2
  obtain ⟨P, hP⟩ : ∃ P, P = j * W := ⟨_, rfl⟩
  have hPi : (j : Int) * (W : Int) = (P : Int) := by rw [hP]; exact (Int.natCast_mul j W).symm
  have hw1 : IntKind.i64.wrap ((j : Int) * (W : Int)) = (P : Int) := by rw [hPi]; exact IntWalk.i64_in _ (by omega)
  have t5 : (P : Int) ≤ 800 := by omega
  rw [← hP]
  clear h hj hP h8
  go_enter Tryz.func118, Tryz.ntmps118
  go_wp2_with (first | (refine (hW.out).mono ?_; rintro e w1 ⟨rfl, rfl⟩) | (refine (hH.out).mono ?_; rintro e w1 ⟨rfl, rfl⟩) | (refine (hX.out _).mono ?_; rintro e w1 ⟨rfl, rfl⟩))
  go_ret
  exact ⟨rfl, rfl⟩

theorem Tells.slK {w w' : World} {p g c W H n a m : Nat} {f : Nat → CellM} {e : Ending} (t : Tells w g c a m e w') (h : GridAt w p g c W H n f) (ha : 0 < m → a + m ≤ n) :
    ∃ (A : Option Addr) (c' : Nat), e = .returned (.slice A m c') ∧ Keep (fun _ => False) w w' ∧ c' ≤ 9223372036854775807 ∧ Sl w' A g (a * 6) m c' (fun k => f (a + k)) := by
  obtain ⟨A, c', k, rfl, rfl, hc, hs⟩ := t.sl h ha
  exact ⟨A, c', rfl, (Keep.refl _ w).drewN k, hc, hs.drewN k⟩

set_option maxRecDepth 100000 in
set_option maxHeartbeats 3200000 in
theorem grid_fill (w : World) (p g c W H n : Nat) (f : Nat → CellM) (s t : Int) (a0 m0 : Nat) (x : CellM) (h : GridAt w p g c W H n f) (hm0 : m0 = (min t (n : Int) - max s 0).toNat) (ha0 : 0 < m0 → max s 0 = (a0 : Int)) :
    Calls Tryz.prog 126 #[.pointer (some ⟨p, 0, none⟩), .int .i64 s, .int .i64 t, x.v] w fun e w' => e = .returned (.tuple #[]) ∧ PutC g (a0 * 6) (m0) (fun _ => x) w w' := by
  obtain ⟨w1, hw1⟩ : ∃ w1, w1 = w.alloc (.cells (vcells x) 46) := ⟨_, rfl⟩
  have HK1 : Hid (Keep (fun _ => False) w w1) := Lib.hid (by rw [hw1]; exact (Keep.refl _ w).alloc _)
  have HQ1 : Hid (w1.heap[w.heap.size]? = some (.cells (vcells x) 46 (0, 0))) := Lib.hid (by rw [hw1]; exact heap_alloc_new w _)
  have HG1 := Lib.hid (h.keep HK1.out (fun y => y) (fun y => y))
  have HN := Lib.hid h.n800.1
  have HG := Lib.hid h.hg
  have hle : Hid (0 < m0 → a0 + m0 ≤ n) := Lib.hid (fun hz => by have := ha0 hz; omega)
  have HR : Hid (∀ V, Keep (fun _ => False) w1 V → Calls Tryz.prog 49 #[.pointer (some ⟨p, 0, none⟩), .int .i64 s, .int .i64 t] V (Tells V g c (a0) (m0))) := Lib.hid (fun V k => grid_places V p g c W H n f s t a0 m0 (HG1.out.keep k (fun y => y) (fun y => y)) hm0 ha0)
  obtain ⟨a, haq⟩ : ∃ a, a = a0 := ⟨_, rfl⟩
  obtain ⟨m, hmq⟩ : ∃ m, m = m0 := ⟨_, rfl⟩
  rw [← haq, ← hmq] at HR hle
  rw [← haq, ← hmq]
  have HMQ := Lib.hid hmq
  have HM8 : Hid (m ≤ 100000) := Lib.hid (by
    have h8 := HN.out
    rcases Nat.eq_zero_or_pos m with e | e
    · omega
    · have := hle.out e; omega)
  have hgp : g < w1.heap.size := HG1.out.hg
  clear h haq hmq
  simp only [CellM.v]
  unfold vcells at hw1
  go_enter Tryz.func126, Tryz.ntmps126
  go_upto_region 1 with fail
  rw [← hw1]
  obtain ⟨q, hq⟩ : ∃ q, q = w.heap.size := ⟨_, rfl⟩
  rw [← hq] at HQ1
  rw [← hq]
  have hgq : g ≠ q := by have := HG.out; omega
  clear hw1 hq
  refine wp_region_noPanic ?_
  refine wp_region_held_drew (S := fun w' => w'.cell? ⟨q, 0, none⟩ = some (.int .i32 x.r) ∧ w'.cell? ⟨q, 1, none⟩ = some (.int .i64 x.a.fg) ∧ w'.cell? ⟨q, 2, none⟩ = some (.int .i64 x.a.bg) ∧ w'.cell? ⟨q, 3, none⟩ = some (.bool x.a.b) ∧ w'.cell? ⟨q, 4, none⟩ = some (.bool x.a.u) ∧ w'.cell? ⟨q, 5, none⟩ = some (.bool x.a.i)) (by kernel_rfl) (cells_six HQ1.out) (fun hHeld => ?_)
  refine wpAnyH_take (i := 0) (oi := _) (v := ?va0) rfl (by kernel_rfl) (by kernel_rfl) (by kernel_rfl) (fun _ _ _ h => h) (Or.inl ⟨by rfl, ?hya0⟩) (by assumption) ?resta0
  case hya0 => (intro w hSw; (try dsimp only at hSw); (try simp only [List.getElem_toArray, List.getElem_cons_zero, List.getElem_cons_succ]); go_simp; (try with_reducible rfl))
  (try simp only [Act.put, List.setIfInBounds_toArray, List.set_cons_zero, List.set_cons_succ, List.getElem_toArray, List.getElem_cons_zero, List.getElem_cons_succ])
  refine wpAnyH_take (i := 1) (oi := _) (v := ?va1) rfl (by kernel_rfl) (by kernel_rfl) (by kernel_rfl) (fun _ _ _ h => h) (Or.inl ⟨by rfl, ?hya1⟩) (by assumption) ?resta1
  case hya1 => (intro w hSw; (try dsimp only at hSw); (try simp only [List.getElem_toArray, List.getElem_cons_zero, List.getElem_cons_succ]); go_simp; (try with_reducible rfl))
  (try simp only [Act.put, List.setIfInBounds_toArray, List.set_cons_zero, List.set_cons_succ, List.getElem_toArray, List.getElem_cons_zero, List.getElem_cons_succ])
  refine wpAnyH_take (i := 2) (oi := _) (v := ?va2) rfl (by kernel_rfl) (by kernel_rfl) (by kernel_rfl) (fun _ _ _ h => h) (Or.inl ⟨by rfl, ?hya2⟩) (by assumption) ?resta2
  case hya2 => (intro w hSw; (try dsimp only at hSw); (try simp only [List.getElem_toArray, List.getElem_cons_zero, List.getElem_cons_succ]); go_simp; (try with_reducible rfl))
  (try simp only [Act.put, List.setIfInBounds_toArray, List.set_cons_zero, List.set_cons_succ, List.getElem_toArray, List.getElem_cons_zero, List.getElem_cons_succ])
  refine wpAnyH_take (i := 4) (oi := _) (v := ?va4) rfl (by kernel_rfl) (by kernel_rfl) (by kernel_rfl) (fun _ _ _ h => h) (Or.inl ⟨by rfl, ?hya4⟩) (by assumption) ?resta4
  case hya4 => (intro w hSw; (try dsimp only at hSw); (try simp only [List.getElem_toArray, List.getElem_cons_zero, List.getElem_cons_succ]); go_simp; (try with_reducible rfl))
  (try simp only [Act.put, List.setIfInBounds_toArray, List.set_cons_zero, List.set_cons_succ, List.getElem_toArray, List.getElem_cons_zero, List.getElem_cons_succ])
  refine wpAnyH_ready (rs := [3]) (by kernel_rfl) (by simp) ?_
  refine AllReadyH.cons (o := _) rfl (fun K hK => ?_) AllReadyH.nil
  (try simp only [List.getElem_toArray, List.getElem_cons_zero, List.getElem_cons_succ])
  go_simp
  refine (HR.out _ ((Keep.refl _ w1).drew)).mono ?_; rintro e w2 ht; obtain ⟨A2, c2, rfl, k2, hc2, hs2⟩ := ht.slK (HG1.out.keep ((Keep.refl (fun _ => False) w1).drew) (fun y => y) (fun y => y)) hle.out; have K2 : Hid (Keep (fun _ => False) w1 w2) := Lib.hid (((Keep.refl (fun _ => False) w1).drew).trans k2 (fun _ _ y => y)); have HS2 := Lib.hid hs2; have HQ2 := Lib.hid (K2.out.heap HQ1.out (fun y => y)); have hg2 : g < w2.heap.size := (by have := K2.out.size; omega); clear ht hs2 k2
  refine hK.out _ _ ?_ (fun hHeld => ?_)
  · exact cells_six HQ2.out
  clear hK K
  (try simp only [Act.put, List.setIfInBounds_toArray, List.set_cons_zero, List.set_cons_succ, List.getElem_toArray, List.getElem_cons_zero, List.getElem_cons_succ])
  refine wpAnyH_ready (rs := [5]) (by kernel_rfl) (by simp) ?_
  refine AllReadyH.cons (o := _) rfl (fun K hK => ?_) AllReadyH.nil
  (try simp only [List.getElem_toArray, List.getElem_cons_zero, List.getElem_cons_succ])
  go_simp
  refine (fill_any A2 g (a * 6) m c2 _ x w2 HS2.out.slc HM8.out).mono ?_; rintro e w4 ⟨rfl, hf⟩; have HF4 := Lib.hid hf; have HQ4 := Lib.hid (hf.keep.heap HQ2.out (fun e => hgq e.symm)); clear hf
  refine hK.out _ _ ?_ (fun hHeld => ?_)
  · exact cells_six HQ4.out
  clear hK K
  (try simp only [Act.put, List.setIfInBounds_toArray, List.set_cons_zero, List.set_cons_succ, List.getElem_toArray, List.getElem_cons_zero, List.getElem_cons_succ])
  refine wpAnyH_done (by kernel_rfl) ?_ _
  refine NoPanic.normal ?_
  go_end0
  exact ⟨rfl, PutC.keep_then (HK1.out.trans K2.out (fun _ _ y => y)) HG.out (HF4.out.put hg2)⟩

set_option maxRecDepth 100000 in
set_option maxHeartbeats 3200000 in
theorem grid_up (w : World) (p g c W H n : Nat) (f : Nat → CellM) (t b k : Int) (j : Nat) (x : CellM) (h : GridAt w p g c W H n f) (hj : min (max k 0) (H : Int) = (j : Int)) :
    Calls Tryz.prog 87 #[.pointer (some ⟨p, 0, none⟩), .int .i64 t, .int .i64 b, .int .i64 k, x.v] w fun e w' => e = .returned (.tuple #[]) ∧ PutC g ((rowsA W t) * 6) ((rowsN W H t b)) (frontF (fun i => f (rowsA W t + i)) (rowsN W H t b) (min (j * W) (rowsN W H t b)) x) w w' := by
  obtain ⟨w1, hw1⟩ : ∃ w1, w1 = w.alloc (.cells (vcells x) 46) := ⟨_, rfl⟩
  have HK1 : Hid (Keep (fun _ => False) w w1) := Lib.hid (by rw [hw1]; exact (Keep.refl _ w).alloc _)
  have HQ1 : Hid (w1.heap[w.heap.size]? = some (.cells (vcells x) 46 (0, 0))) := Lib.hid (by rw [hw1]; exact heap_alloc_new w _)
  have HG1 := Lib.hid (h.keep HK1.out (fun y => y) (fun y => y))
  have HN := Lib.hid h.n800.1
  have HG := Lib.hid h.hg
  have hle : Hid (0 < (rowsN W H t b) → (rowsA W t) + (rowsN W H t b) ≤ n) := Lib.hid (fun hz => rowsN_le h.hn t b hz)
  have HR : Hid (∀ V, Keep (fun _ => False) w1 V → Calls Tryz.prog 44 #[.pointer (some ⟨p, 0, none⟩), .int .i64 t, .int .i64 b] V (Tells V g c ((rowsA W t)) ((rowsN W H t b)))) := Lib.hid (fun V k => (grid_rows V p g c W H n f t b (HG1.out.keep k (fun y => y) (fun y => y))))
  have HC : Hid (∀ V, Keep (fun _ => False) w1 V → Calls Tryz.prog 118 #[.pointer (some ⟨p, 0, none⟩), .int .i64 k] V fun e w' => e = .returned (.int .i64 ((j * W : Nat) : Int)) ∧ w' = V) := Lib.hid (fun V q => grid_cellsOf V p g c W H n f k j (HG1.out.keep q (fun y => y) (fun y => y)) hj)
  obtain ⟨a, haq⟩ : ∃ a, a = (rowsA W t) := ⟨_, rfl⟩
  obtain ⟨m, hmq⟩ : ∃ m, m = (rowsN W H t b) := ⟨_, rfl⟩
  rw [← haq, ← hmq] at HR hle
  rw [← haq, ← hmq]
  have HMQ := Lib.hid hmq
  have HM8 : Hid (m ≤ 100000) := Lib.hid (by
    have h8 := HN.out
    rcases Nat.eq_zero_or_pos m with e | e
    · omega
    · have := hle.out e; omega)
  have hgp : g < w1.heap.size := HG1.out.hg
  clear h haq hmq
  simp only [CellM.v]
  unfold vcells at hw1
  go_enter Tryz.func87, Tryz.ntmps87
  go_upto_region 1 with fail
  rw [← hw1]
  obtain ⟨q, hq⟩ : ∃ q, q = w.heap.size := ⟨_, rfl⟩
  rw [← hq] at HQ1
  rw [← hq]
  have hgq : g ≠ q := by have := HG.out; omega
  clear hw1 hq
  refine wp_region_noPanic ?_
  refine wp_region_held_drew (S := fun w' => w'.cell? ⟨q, 0, none⟩ = some (.int .i32 x.r) ∧ w'.cell? ⟨q, 1, none⟩ = some (.int .i64 x.a.fg) ∧ w'.cell? ⟨q, 2, none⟩ = some (.int .i64 x.a.bg) ∧ w'.cell? ⟨q, 3, none⟩ = some (.bool x.a.b) ∧ w'.cell? ⟨q, 4, none⟩ = some (.bool x.a.u) ∧ w'.cell? ⟨q, 5, none⟩ = some (.bool x.a.i)) (by kernel_rfl) (cells_six HQ1.out) (fun hHeld => ?_)
  refine wpAnyH_take (i := 0) (oi := _) (v := ?va0) rfl (by kernel_rfl) (by kernel_rfl) (by kernel_rfl) (fun _ _ _ h => h) (Or.inl ⟨by rfl, ?hya0⟩) (by assumption) ?resta0
  case hya0 => (intro w hSw; (try dsimp only at hSw); (try simp only [List.getElem_toArray, List.getElem_cons_zero, List.getElem_cons_succ]); go_simp; (try with_reducible rfl))
  (try simp only [Act.put, List.setIfInBounds_toArray, List.set_cons_zero, List.set_cons_succ, List.getElem_toArray, List.getElem_cons_zero, List.getElem_cons_succ])
  refine wpAnyH_take (i := 1) (oi := _) (v := ?va1) rfl (by kernel_rfl) (by kernel_rfl) (by kernel_rfl) (fun _ _ _ h => h) (Or.inl ⟨by rfl, ?hya1⟩) (by assumption) ?resta1
  case hya1 => (intro w hSw; (try dsimp only at hSw); (try simp only [List.getElem_toArray, List.getElem_cons_zero, List.getElem_cons_succ]); go_simp; (try with_reducible rfl))
  (try simp only [Act.put, List.setIfInBounds_toArray, List.set_cons_zero, List.set_cons_succ, List.getElem_toArray, List.getElem_cons_zero, List.getElem_cons_succ])
  refine wpAnyH_take (i := 2) (oi := _) (v := ?va2) rfl (by kernel_rfl) (by kernel_rfl) (by kernel_rfl) (fun _ _ _ h => h) (Or.inl ⟨by rfl, ?hya2⟩) (by assumption) ?resta2
  case hya2 => (intro w hSw; (try dsimp only at hSw); (try simp only [List.getElem_toArray, List.getElem_cons_zero, List.getElem_cons_succ]); go_simp; (try with_reducible rfl))
  (try simp only [Act.put, List.setIfInBounds_toArray, List.set_cons_zero, List.set_cons_succ, List.getElem_toArray, List.getElem_cons_zero, List.getElem_cons_succ])
  refine wpAnyH_take (i := 4) (oi := _) (v := ?va4) rfl (by kernel_rfl) (by kernel_rfl) (by kernel_rfl) (fun _ _ _ h => h) (Or.inl ⟨by rfl, ?hya4⟩) (by assumption) ?resta4
  case hya4 => (intro w hSw; (try dsimp only at hSw); (try simp only [List.getElem_toArray, List.getElem_cons_zero, List.getElem_cons_succ]); go_simp; (try with_reducible rfl))
  (try simp only [Act.put, List.setIfInBounds_toArray, List.set_cons_zero, List.set_cons_succ, List.getElem_toArray, List.getElem_cons_zero, List.getElem_cons_succ])
  refine wpAnyH_take (i := 5) (oi := _) (v := ?va5) rfl (by kernel_rfl) (by kernel_rfl) (by kernel_rfl) (fun _ _ _ h => h) (Or.inl ⟨by rfl, ?hya5⟩) (by assumption) ?resta5
  case hya5 => (intro w hSw; (try dsimp only at hSw); (try simp only [List.getElem_toArray, List.getElem_cons_zero, List.getElem_cons_succ]); go_simp; (try with_reducible rfl))
  (try simp only [Act.put, List.setIfInBounds_toArray, List.set_cons_zero, List.set_cons_succ, List.getElem_toArray, List.getElem_cons_zero, List.getElem_cons_succ])
  refine wpAnyH_take (i := 7) (oi := _) (v := ?va7) rfl (by kernel_rfl) (by kernel_rfl) (by kernel_rfl) (fun _ _ _ h => h) (Or.inl ⟨by rfl, ?hya7⟩) (by assumption) ?resta7
  case hya7 => (intro w hSw; (try dsimp only at hSw); (try simp only [List.getElem_toArray, List.getElem_cons_zero, List.getElem_cons_succ]); go_simp; (try with_reducible rfl))
  (try simp only [Act.put, List.setIfInBounds_toArray, List.set_cons_zero, List.set_cons_succ, List.getElem_toArray, List.getElem_cons_zero, List.getElem_cons_succ])
  refine wpAnyH_ready (rs := [3]) (by kernel_rfl) (by simp) ?_
  refine AllReadyH.cons (o := _) rfl (fun K hK => ?_) AllReadyH.nil
  (try simp only [List.getElem_toArray, List.getElem_cons_zero, List.getElem_cons_succ])
  go_simp
  refine (HR.out _ ((Keep.refl _ w1).drew)).mono ?_; rintro e w2 ht; obtain ⟨A2, c2, rfl, k2, hc2, hs2⟩ := ht.slK (HG1.out.keep ((Keep.refl (fun _ => False) w1).drew) (fun y => y) (fun y => y)) hle.out; have K2 : Hid (Keep (fun _ => False) w1 w2) := Lib.hid (((Keep.refl (fun _ => False) w1).drew).trans k2 (fun _ _ y => y)); have HS2 := Lib.hid hs2; have HQ2 := Lib.hid (K2.out.heap HQ1.out (fun y => y)); have hg2 : g < w2.heap.size := (by have := K2.out.size; omega); clear ht hs2 k2
  refine hK.out _ _ ?_ (fun hHeld => ?_)
  · exact cells_six HQ2.out
  clear hK K
  (try simp only [Act.put, List.setIfInBounds_toArray, List.set_cons_zero, List.set_cons_succ, List.getElem_toArray, List.getElem_cons_zero, List.getElem_cons_succ])
  refine wpAnyH_ready (rs := [6]) (by kernel_rfl) (by simp) ?_
  refine AllReadyH.cons (o := _) rfl (fun K hK => ?_) AllReadyH.nil
  (try simp only [List.getElem_toArray, List.getElem_cons_zero, List.getElem_cons_succ])
  go_simp
  refine (HC.out w2 K2.out).mono ?_; rintro e w3 ⟨rfl, rfl⟩
  refine hK.out _ _ ?_ (fun hHeld => ?_)
  · exact cells_six HQ2.out
  clear hK K
  (try simp only [Act.put, List.setIfInBounds_toArray, List.set_cons_zero, List.set_cons_succ, List.getElem_toArray, List.getElem_cons_zero, List.getElem_cons_succ])
  refine wpAnyH_ready (rs := [8]) (by kernel_rfl) (by simp) ?_
  refine AllReadyH.cons (o := _) rfl (fun K hK => ?_) AllReadyH.nil
  (try simp only [List.getElem_toArray, List.getElem_cons_zero, List.getElem_cons_succ])
  go_simp
  refine (toFront_any A2 g (a * 6) m c2 _ x _ (min (j * W) m) _ HS2.out HM8.out hc2 (by omega)).mono ?_; rintro e w4 ⟨rfl, hf⟩; have HF4 := Lib.hid hf; have HQ4 := Lib.hid (hf.keep.heap HQ2.out (fun e => hgq e.symm)); clear hf
  refine hK.out _ _ ?_ (fun hHeld => ?_)
  · exact cells_six HQ4.out
  clear hK K
  (try simp only [Act.put, List.setIfInBounds_toArray, List.set_cons_zero, List.set_cons_succ, List.getElem_toArray, List.getElem_cons_zero, List.getElem_cons_succ])
  refine wpAnyH_done (by kernel_rfl) ?_ _
  refine NoPanic.normal ?_
  go_end0
  exact ⟨rfl, PutC.keep_then (HK1.out.trans K2.out (fun _ _ y => y)) HG.out (HF4.out.put hg2)⟩

set_option maxRecDepth 100000 in
set_option maxHeartbeats 3200000 in
theorem grid_down (w : World) (p g c W H n : Nat) (f : Nat → CellM) (t b k : Int) (j : Nat) (x : CellM) (h : GridAt w p g c W H n f) (hj : min (max k 0) (H : Int) = (j : Int)) :
    Calls Tryz.prog 119 #[.pointer (some ⟨p, 0, none⟩), .int .i64 t, .int .i64 b, .int .i64 k, x.v] w fun e w' => e = .returned (.tuple #[]) ∧ PutC g ((rowsA W t) * 6) ((rowsN W H t b)) (backF (fun i => f (rowsA W t + i)) (min (j * W) (rowsN W H t b)) x) w w' := by
  obtain ⟨w1, hw1⟩ : ∃ w1, w1 = w.alloc (.cells (vcells x) 46) := ⟨_, rfl⟩
  have HK1 : Hid (Keep (fun _ => False) w w1) := Lib.hid (by rw [hw1]; exact (Keep.refl _ w).alloc _)
  have HQ1 : Hid (w1.heap[w.heap.size]? = some (.cells (vcells x) 46 (0, 0))) := Lib.hid (by rw [hw1]; exact heap_alloc_new w _)
  have HG1 := Lib.hid (h.keep HK1.out (fun y => y) (fun y => y))
  have HN := Lib.hid h.n800.1
  have HG := Lib.hid h.hg
  have hle : Hid (0 < (rowsN W H t b) → (rowsA W t) + (rowsN W H t b) ≤ n) := Lib.hid (fun hz => rowsN_le h.hn t b hz)
  have HR : Hid (∀ V, Keep (fun _ => False) w1 V → Calls Tryz.prog 44 #[.pointer (some ⟨p, 0, none⟩), .int .i64 t, .int .i64 b] V (Tells V g c ((rowsA W t)) ((rowsN W H t b)))) := Lib.hid (fun V k => (grid_rows V p g c W H n f t b (HG1.out.keep k (fun y => y) (fun y => y))))
  have HC : Hid (∀ V, Keep (fun _ => False) w1 V → Calls Tryz.prog 118 #[.pointer (some ⟨p, 0, none⟩), .int .i64 k] V fun e w' => e = .returned (.int .i64 ((j * W : Nat) : Int)) ∧ w' = V) := Lib.hid (fun V q => grid_cellsOf V p g c W H n f k j (HG1.out.keep q (fun y => y) (fun y => y)) hj)
  obtain ⟨a, haq⟩ : ∃ a, a = (rowsA W t) := ⟨_, rfl⟩
  obtain ⟨m, hmq⟩ : ∃ m, m = (rowsN W H t b) := ⟨_, rfl⟩
  rw [← haq, ← hmq] at HR hle
  rw [← haq, ← hmq]
  have HMQ := Lib.hid hmq
  have HM8 : Hid (m ≤ 100000) := Lib.hid (by
    have h8 := HN.out
    rcases Nat.eq_zero_or_pos m with e | e
    · omega
    · have := hle.out e; omega)
  have hgp : g < w1.heap.size := HG1.out.hg
  clear h haq hmq
  simp only [CellM.v]
  unfold vcells at hw1
  go_enter Tryz.func119, Tryz.ntmps119
  go_upto_region 1 with fail
  rw [← hw1]
  obtain ⟨q, hq⟩ : ∃ q, q = w.heap.size := ⟨_, rfl⟩
  rw [← hq] at HQ1
  rw [← hq]
  have hgq : g ≠ q := by have := HG.out; omega
  clear hw1 hq
  refine wp_region_noPanic ?_
  refine wp_region_held_drew (S := fun w' => w'.cell? ⟨q, 0, none⟩ = some (.int .i32 x.r) ∧ w'.cell? ⟨q, 1, none⟩ = some (.int .i64 x.a.fg) ∧ w'.cell? ⟨q, 2, none⟩ = some (.int .i64 x.a.bg) ∧ w'.cell? ⟨q, 3, none⟩ = some (.bool x.a.b) ∧ w'.cell? ⟨q, 4, none⟩ = some (.bool x.a.u) ∧ w'.cell? ⟨q, 5, none⟩ = some (.bool x.a.i)) (by kernel_rfl) (cells_six HQ1.out) (fun hHeld => ?_)
  refine wpAnyH_take (i := 0) (oi := _) (v := ?va0) rfl (by kernel_rfl) (by kernel_rfl) (by kernel_rfl) (fun _ _ _ h => h) (Or.inl ⟨by rfl, ?hya0⟩) (by assumption) ?resta0
  case hya0 => (intro w hSw; (try dsimp only at hSw); (try simp only [List.getElem_toArray, List.getElem_cons_zero, List.getElem_cons_succ]); go_simp; (try with_reducible rfl))
  (try simp only [Act.put, List.setIfInBounds_toArray, List.set_cons_zero, List.set_cons_succ, List.getElem_toArray, List.getElem_cons_zero, List.getElem_cons_succ])
  refine wpAnyH_take (i := 1) (oi := _) (v := ?va1) rfl (by kernel_rfl) (by kernel_rfl) (by kernel_rfl) (fun _ _ _ h => h) (Or.inl ⟨by rfl, ?hya1⟩) (by assumption) ?resta1
  case hya1 => (intro w hSw; (try dsimp only at hSw); (try simp only [List.getElem_toArray, List.getElem_cons_zero, List.getElem_cons_succ]); go_simp; (try with_reducible rfl))
  (try simp only [Act.put, List.setIfInBounds_toArray, List.set_cons_zero, List.set_cons_succ, List.getElem_toArray, List.getElem_cons_zero, List.getElem_cons_succ])
  refine wpAnyH_take (i := 2) (oi := _) (v := ?va2) rfl (by kernel_rfl) (by kernel_rfl) (by kernel_rfl) (fun _ _ _ h => h) (Or.inl ⟨by rfl, ?hya2⟩) (by assumption) ?resta2
  case hya2 => (intro w hSw; (try dsimp only at hSw); (try simp only [List.getElem_toArray, List.getElem_cons_zero, List.getElem_cons_succ]); go_simp; (try with_reducible rfl))
  (try simp only [Act.put, List.setIfInBounds_toArray, List.set_cons_zero, List.set_cons_succ, List.getElem_toArray, List.getElem_cons_zero, List.getElem_cons_succ])
  refine wpAnyH_take (i := 4) (oi := _) (v := ?va4) rfl (by kernel_rfl) (by kernel_rfl) (by kernel_rfl) (fun _ _ _ h => h) (Or.inl ⟨by rfl, ?hya4⟩) (by assumption) ?resta4
  case hya4 => (intro w hSw; (try dsimp only at hSw); (try simp only [List.getElem_toArray, List.getElem_cons_zero, List.getElem_cons_succ]); go_simp; (try with_reducible rfl))
  (try simp only [Act.put, List.setIfInBounds_toArray, List.set_cons_zero, List.set_cons_succ, List.getElem_toArray, List.getElem_cons_zero, List.getElem_cons_succ])
  refine wpAnyH_take (i := 5) (oi := _) (v := ?va5) rfl (by kernel_rfl) (by kernel_rfl) (by kernel_rfl) (fun _ _ _ h => h) (Or.inl ⟨by rfl, ?hya5⟩) (by assumption) ?resta5
  case hya5 => (intro w hSw; (try dsimp only at hSw); (try simp only [List.getElem_toArray, List.getElem_cons_zero, List.getElem_cons_succ]); go_simp; (try with_reducible rfl))
  (try simp only [Act.put, List.setIfInBounds_toArray, List.set_cons_zero, List.set_cons_succ, List.getElem_toArray, List.getElem_cons_zero, List.getElem_cons_succ])
  refine wpAnyH_take (i := 7) (oi := _) (v := ?va7) rfl (by kernel_rfl) (by kernel_rfl) (by kernel_rfl) (fun _ _ _ h => h) (Or.inl ⟨by rfl, ?hya7⟩) (by assumption) ?resta7
  case hya7 => (intro w hSw; (try dsimp only at hSw); (try simp only [List.getElem_toArray, List.getElem_cons_zero, List.getElem_cons_succ]); go_simp; (try with_reducible rfl))
  (try simp only [Act.put, List.setIfInBounds_toArray, List.set_cons_zero, List.set_cons_succ, List.getElem_toArray, List.getElem_cons_zero, List.getElem_cons_succ])
  refine wpAnyH_ready (rs := [3]) (by kernel_rfl) (by simp) ?_
  refine AllReadyH.cons (o := _) rfl (fun K hK => ?_) AllReadyH.nil
  (try simp only [List.getElem_toArray, List.getElem_cons_zero, List.getElem_cons_succ])
  go_simp
  refine (HR.out _ ((Keep.refl _ w1).drew)).mono ?_; rintro e w2 ht; obtain ⟨A2, c2, rfl, k2, hc2, hs2⟩ := ht.slK (HG1.out.keep ((Keep.refl (fun _ => False) w1).drew) (fun y => y) (fun y => y)) hle.out; have K2 : Hid (Keep (fun _ => False) w1 w2) := Lib.hid (((Keep.refl (fun _ => False) w1).drew).trans k2 (fun _ _ y => y)); have HS2 := Lib.hid hs2; have HQ2 := Lib.hid (K2.out.heap HQ1.out (fun y => y)); have hg2 : g < w2.heap.size := (by have := K2.out.size; omega); clear ht hs2 k2
  refine hK.out _ _ ?_ (fun hHeld => ?_)
  · exact cells_six HQ2.out
  clear hK K
  (try simp only [Act.put, List.setIfInBounds_toArray, List.set_cons_zero, List.set_cons_succ, List.getElem_toArray, List.getElem_cons_zero, List.getElem_cons_succ])
  refine wpAnyH_ready (rs := [6]) (by kernel_rfl) (by simp) ?_
  refine AllReadyH.cons (o := _) rfl (fun K hK => ?_) AllReadyH.nil
  (try simp only [List.getElem_toArray, List.getElem_cons_zero, List.getElem_cons_succ])
  go_simp
  refine (HC.out w2 K2.out).mono ?_; rintro e w3 ⟨rfl, rfl⟩
  refine hK.out _ _ ?_ (fun hHeld => ?_)
  · exact cells_six HQ2.out
  clear hK K
  (try simp only [Act.put, List.setIfInBounds_toArray, List.set_cons_zero, List.set_cons_succ, List.getElem_toArray, List.getElem_cons_zero, List.getElem_cons_succ])
  refine wpAnyH_ready (rs := [8]) (by kernel_rfl) (by simp) ?_
  refine AllReadyH.cons (o := _) rfl (fun K hK => ?_) AllReadyH.nil
  (try simp only [List.getElem_toArray, List.getElem_cons_zero, List.getElem_cons_succ])
  go_simp
  refine (toBack_any A2 g (a * 6) m c2 _ x _ (min (j * W) m) _ HS2.out HM8.out hc2 (by omega)).mono ?_; rintro e w4 ⟨rfl, hf⟩; have HF4 := Lib.hid hf; have HQ4 := Lib.hid (hf.keep.heap HQ2.out (fun e => hgq e.symm)); clear hf
  refine hK.out _ _ ?_ (fun hHeld => ?_)
  · exact cells_six HQ4.out
  clear hK K
  (try simp only [Act.put, List.setIfInBounds_toArray, List.set_cons_zero, List.set_cons_succ, List.getElem_toArray, List.getElem_cons_zero, List.getElem_cons_succ])
  refine wpAnyH_done (by kernel_rfl) ?_ _
  refine NoPanic.normal ?_
  go_end0
  exact ⟨rfl, PutC.keep_then (HK1.out.trans K2.out (fun _ _ y => y)) HG.out (HF4.out.put hg2)⟩

set_option maxRecDepth 100000 in
set_option maxHeartbeats 3200000 in
theorem grid_right (w : World) (p g c W H n : Nat) (f : Nat → CellM) (X Y k : Int) (x : CellM) (h : GridAt w p g c W H n f) :
    Calls Tryz.prog 67 #[.pointer (some ⟨p, 0, none⟩), .int .i64 X, .int .i64 Y, .int .i64 k, x.v] w fun e w' => e = .returned (.tuple #[]) ∧ PutC g ((restA W X Y) * 6) ((restN W H X Y)) (backF (fun i => f (restA W X Y + i)) (min k.toNat (restN W H X Y)) x) w w' := by
  obtain ⟨w1, hw1⟩ : ∃ w1, w1 = w.alloc (.cells (vcells x) 46) := ⟨_, rfl⟩
  have HK1 : Hid (Keep (fun _ => False) w w1) := Lib.hid (by rw [hw1]; exact (Keep.refl _ w).alloc _)
  have HQ1 : Hid (w1.heap[w.heap.size]? = some (.cells (vcells x) 46 (0, 0))) := Lib.hid (by rw [hw1]; exact heap_alloc_new w _)
  have HG1 := Lib.hid (h.keep HK1.out (fun y => y) (fun y => y))
  have HN := Lib.hid h.n800.1
  have HG := Lib.hid h.hg
  have hle : Hid (0 < (restN W H X Y) → (restA W X Y) + (restN W H X Y) ≤ n) := Lib.hid (fun hz => restN_le h.hn X Y hz)
  have HR : Hid (∀ V, Keep (fun _ => False) w1 V → Calls Tryz.prog 35 #[.pointer (some ⟨p, 0, none⟩), .int .i64 X, .int .i64 Y] V (Tells V g c ((restA W X Y)) ((restN W H X Y)))) := Lib.hid (fun V k => (grid_rest V p g c W H n f X Y (HG1.out.keep k (fun y => y) (fun y => y))))
  obtain ⟨a, haq⟩ : ∃ a, a = (restA W X Y) := ⟨_, rfl⟩
  obtain ⟨m, hmq⟩ : ∃ m, m = (restN W H X Y) := ⟨_, rfl⟩
  rw [← haq, ← hmq] at HR hle
  rw [← haq, ← hmq]
  have HMQ := Lib.hid hmq
  have HM8 : Hid (m ≤ 100000) := Lib.hid (by
    have h8 := HN.out
    rcases Nat.eq_zero_or_pos m with e | e
    · omega
    · have := hle.out e; omega)
  have hgp : g < w1.heap.size := HG1.out.hg
  clear h haq hmq
  simp only [CellM.v]
  unfold vcells at hw1
  go_enter Tryz.func67, Tryz.ntmps67
  go_upto_region 1 with fail
  rw [← hw1]
  obtain ⟨q, hq⟩ : ∃ q, q = w.heap.size := ⟨_, rfl⟩
  rw [← hq] at HQ1
  rw [← hq]
  have hgq : g ≠ q := by have := HG.out; omega
  clear hw1 hq
  refine wp_region_noPanic ?_
  refine wp_region_held_drew (S := fun w' => w'.cell? ⟨q, 0, none⟩ = some (.int .i32 x.r) ∧ w'.cell? ⟨q, 1, none⟩ = some (.int .i64 x.a.fg) ∧ w'.cell? ⟨q, 2, none⟩ = some (.int .i64 x.a.bg) ∧ w'.cell? ⟨q, 3, none⟩ = some (.bool x.a.b) ∧ w'.cell? ⟨q, 4, none⟩ = some (.bool x.a.u) ∧ w'.cell? ⟨q, 5, none⟩ = some (.bool x.a.i)) (by kernel_rfl) (cells_six HQ1.out) (fun hHeld => ?_)
  refine wpAnyH_take (i := 0) (oi := _) (v := ?va0) rfl (by kernel_rfl) (by kernel_rfl) (by kernel_rfl) (fun _ _ _ h => h) (Or.inl ⟨by rfl, ?hya0⟩) (by assumption) ?resta0
  case hya0 => (intro w hSw; (try dsimp only at hSw); (try simp only [List.getElem_toArray, List.getElem_cons_zero, List.getElem_cons_succ]); go_simp; (try with_reducible rfl))
  (try simp only [Act.put, List.setIfInBounds_toArray, List.set_cons_zero, List.set_cons_succ, List.getElem_toArray, List.getElem_cons_zero, List.getElem_cons_succ])
  refine wpAnyH_take (i := 1) (oi := _) (v := ?va1) rfl (by kernel_rfl) (by kernel_rfl) (by kernel_rfl) (fun _ _ _ h => h) (Or.inl ⟨by rfl, ?hya1⟩) (by assumption) ?resta1
  case hya1 => (intro w hSw; (try dsimp only at hSw); (try simp only [List.getElem_toArray, List.getElem_cons_zero, List.getElem_cons_succ]); go_simp; (try with_reducible rfl))
  (try simp only [Act.put, List.setIfInBounds_toArray, List.set_cons_zero, List.set_cons_succ, List.getElem_toArray, List.getElem_cons_zero, List.getElem_cons_succ])
  refine wpAnyH_take (i := 2) (oi := _) (v := ?va2) rfl (by kernel_rfl) (by kernel_rfl) (by kernel_rfl) (fun _ _ _ h => h) (Or.inl ⟨by rfl, ?hya2⟩) (by assumption) ?resta2
  case hya2 => (intro w hSw; (try dsimp only at hSw); (try simp only [List.getElem_toArray, List.getElem_cons_zero, List.getElem_cons_succ]); go_simp; (try with_reducible rfl))
  (try simp only [Act.put, List.setIfInBounds_toArray, List.set_cons_zero, List.set_cons_succ, List.getElem_toArray, List.getElem_cons_zero, List.getElem_cons_succ])
  refine wpAnyH_take (i := 4) (oi := _) (v := ?va4) rfl (by kernel_rfl) (by kernel_rfl) (by kernel_rfl) (fun _ _ _ h => h) (Or.inl ⟨by rfl, ?hya4⟩) (by assumption) ?resta4
  case hya4 => (intro w hSw; (try dsimp only at hSw); (try simp only [List.getElem_toArray, List.getElem_cons_zero, List.getElem_cons_succ]); go_simp; (try with_reducible rfl))
  (try simp only [Act.put, List.setIfInBounds_toArray, List.set_cons_zero, List.set_cons_succ, List.getElem_toArray, List.getElem_cons_zero, List.getElem_cons_succ])
  refine wpAnyH_take (i := 5) (oi := _) (v := ?va5) rfl (by kernel_rfl) (by kernel_rfl) (by kernel_rfl) (fun _ _ _ h => h) (Or.inl ⟨by rfl, ?hya5⟩) (by assumption) ?resta5
  case hya5 => (intro w hSw; (try dsimp only at hSw); (try simp only [List.getElem_toArray, List.getElem_cons_zero, List.getElem_cons_succ]); go_simp; (try with_reducible rfl))
  (try simp only [Act.put, List.setIfInBounds_toArray, List.set_cons_zero, List.set_cons_succ, List.getElem_toArray, List.getElem_cons_zero, List.getElem_cons_succ])
  refine wpAnyH_ready (rs := [3]) (by kernel_rfl) (by simp) ?_
  refine AllReadyH.cons (o := _) rfl (fun K hK => ?_) AllReadyH.nil
  (try simp only [List.getElem_toArray, List.getElem_cons_zero, List.getElem_cons_succ])
  go_simp
  refine (HR.out _ ((Keep.refl _ w1).drew)).mono ?_; rintro e w2 ht; obtain ⟨A2, c2, rfl, k2, hc2, hs2⟩ := ht.slK (HG1.out.keep ((Keep.refl (fun _ => False) w1).drew) (fun y => y) (fun y => y)) hle.out; have K2 : Hid (Keep (fun _ => False) w1 w2) := Lib.hid (((Keep.refl (fun _ => False) w1).drew).trans k2 (fun _ _ y => y)); have HS2 := Lib.hid hs2; have HQ2 := Lib.hid (K2.out.heap HQ1.out (fun y => y)); have hg2 : g < w2.heap.size := (by have := K2.out.size; omega); clear ht hs2 k2
  refine hK.out _ _ ?_ (fun hHeld => ?_)
  · exact cells_six HQ2.out
  clear hK K
  (try simp only [Act.put, List.setIfInBounds_toArray, List.set_cons_zero, List.set_cons_succ, List.getElem_toArray, List.getElem_cons_zero, List.getElem_cons_succ])
  refine wpAnyH_ready (rs := [6]) (by kernel_rfl) (by simp) ?_
  refine AllReadyH.cons (o := _) rfl (fun K hK => ?_) AllReadyH.nil
  (try simp only [List.getElem_toArray, List.getElem_cons_zero, List.getElem_cons_succ])
  go_simp
  refine (toBack_any A2 g (a * 6) m c2 _ x _ (min k.toNat m) _ HS2.out HM8.out hc2 (by omega)).mono ?_; rintro e w4 ⟨rfl, hf⟩; have HF4 := Lib.hid hf; have HQ4 := Lib.hid (hf.keep.heap HQ2.out (fun e => hgq e.symm)); clear hf
  refine hK.out _ _ ?_ (fun hHeld => ?_)
  · exact cells_six HQ4.out
  clear hK K
  (try simp only [Act.put, List.setIfInBounds_toArray, List.set_cons_zero, List.set_cons_succ, List.getElem_toArray, List.getElem_cons_zero, List.getElem_cons_succ])
  refine wpAnyH_done (by kernel_rfl) ?_ _
  refine NoPanic.normal ?_
  go_end0
  exact ⟨rfl, PutC.keep_then (HK1.out.trans K2.out (fun _ _ y => y)) HG.out (HF4.out.put hg2)⟩

set_option maxRecDepth 100000 in
set_option maxHeartbeats 3200000 in
theorem grid_left (w : World) (p g c W H n : Nat) (f : Nat → CellM) (X Y k : Int) (x : CellM) (h : GridAt w p g c W H n f) :
    Calls Tryz.prog 127 #[.pointer (some ⟨p, 0, none⟩), .int .i64 X, .int .i64 Y, .int .i64 k, x.v] w fun e w' => e = .returned (.tuple #[]) ∧ PutC g ((restA W X Y) * 6) ((restN W H X Y)) (frontF (fun i => f (restA W X Y + i)) (restN W H X Y) (min k.toNat (restN W H X Y)) x) w w' := by
  obtain ⟨w1, hw1⟩ : ∃ w1, w1 = w.alloc (.cells (vcells x) 46) := ⟨_, rfl⟩
  have HK1 : Hid (Keep (fun _ => False) w w1) := Lib.hid (by rw [hw1]; exact (Keep.refl _ w).alloc _)
  have HQ1 : Hid (w1.heap[w.heap.size]? = some (.cells (vcells x) 46 (0, 0))) := Lib.hid (by rw [hw1]; exact heap_alloc_new w _)
  have HG1 := Lib.hid (h.keep HK1.out (fun y => y) (fun y => y))
  have HN := Lib.hid h.n800.1
  have HG := Lib.hid h.hg
  have hle : Hid (0 < (restN W H X Y) → (restA W X Y) + (restN W H X Y) ≤ n) := Lib.hid (fun hz => restN_le h.hn X Y hz)
  have HR : Hid (∀ V, Keep (fun _ => False) w1 V → Calls Tryz.prog 35 #[.pointer (some ⟨p, 0, none⟩), .int .i64 X, .int .i64 Y] V (Tells V g c ((restA W X Y)) ((restN W H X Y)))) := Lib.hid (fun V k => (grid_rest V p g c W H n f X Y (HG1.out.keep k (fun y => y) (fun y => y))))
  obtain ⟨a, haq⟩ : ∃ a, a = (restA W X Y) := ⟨_, rfl⟩
  obtain ⟨m, hmq⟩ : ∃ m, m = (restN W H X Y) := ⟨_, rfl⟩
  rw [← haq, ← hmq] at HR hle
  rw [← haq, ← hmq]
  have HMQ := Lib.hid hmq
  have HM8 : Hid (m ≤ 100000) := Lib.hid (by
    have h8 := HN.out
    rcases Nat.eq_zero_or_pos m with e | e
    · omega
    · have := hle.out e; omega)
  have hgp : g < w1.heap.size := HG1.out.hg
  clear h haq hmq
  simp only [CellM.v]
  unfold vcells at hw1
  go_enter Tryz.func127, Tryz.ntmps127
  go_upto_region 1 with fail
  rw [← hw1]
  obtain ⟨q, hq⟩ : ∃ q, q = w.heap.size := ⟨_, rfl⟩
  rw [← hq] at HQ1
  rw [← hq]
  have hgq : g ≠ q := by have := HG.out; omega
  clear hw1 hq
  refine wp_region_noPanic ?_
  refine wp_region_held_drew (S := fun w' => w'.cell? ⟨q, 0, none⟩ = some (.int .i32 x.r) ∧ w'.cell? ⟨q, 1, none⟩ = some (.int .i64 x.a.fg) ∧ w'.cell? ⟨q, 2, none⟩ = some (.int .i64 x.a.bg) ∧ w'.cell? ⟨q, 3, none⟩ = some (.bool x.a.b) ∧ w'.cell? ⟨q, 4, none⟩ = some (.bool x.a.u) ∧ w'.cell? ⟨q, 5, none⟩ = some (.bool x.a.i)) (by kernel_rfl) (cells_six HQ1.out) (fun hHeld => ?_)
  refine wpAnyH_take (i := 0) (oi := _) (v := ?va0) rfl (by kernel_rfl) (by kernel_rfl) (by kernel_rfl) (fun _ _ _ h => h) (Or.inl ⟨by rfl, ?hya0⟩) (by assumption) ?resta0
  case hya0 => (intro w hSw; (try dsimp only at hSw); (try simp only [List.getElem_toArray, List.getElem_cons_zero, List.getElem_cons_succ]); go_simp; (try with_reducible rfl))
  (try simp only [Act.put, List.setIfInBounds_toArray, List.set_cons_zero, List.set_cons_succ, List.getElem_toArray, List.getElem_cons_zero, List.getElem_cons_succ])
  refine wpAnyH_take (i := 1) (oi := _) (v := ?va1) rfl (by kernel_rfl) (by kernel_rfl) (by kernel_rfl) (fun _ _ _ h => h) (Or.inl ⟨by rfl, ?hya1⟩) (by assumption) ?resta1
  case hya1 => (intro w hSw; (try dsimp only at hSw); (try simp only [List.getElem_toArray, List.getElem_cons_zero, List.getElem_cons_succ]); go_simp; (try with_reducible rfl))
  (try simp only [Act.put, List.setIfInBounds_toArray, List.set_cons_zero, List.set_cons_succ, List.getElem_toArray, List.getElem_cons_zero, List.getElem_cons_succ])
  refine wpAnyH_take (i := 2) (oi := _) (v := ?va2) rfl (by kernel_rfl) (by kernel_rfl) (by kernel_rfl) (fun _ _ _ h => h) (Or.inl ⟨by rfl, ?hya2⟩) (by assumption) ?resta2
  case hya2 => (intro w hSw; (try dsimp only at hSw); (try simp only [List.getElem_toArray, List.getElem_cons_zero, List.getElem_cons_succ]); go_simp; (try with_reducible rfl))
  (try simp only [Act.put, List.setIfInBounds_toArray, List.set_cons_zero, List.set_cons_succ, List.getElem_toArray, List.getElem_cons_zero, List.getElem_cons_succ])
  refine wpAnyH_take (i := 4) (oi := _) (v := ?va4) rfl (by kernel_rfl) (by kernel_rfl) (by kernel_rfl) (fun _ _ _ h => h) (Or.inl ⟨by rfl, ?hya4⟩) (by assumption) ?resta4
  case hya4 => (intro w hSw; (try dsimp only at hSw); (try simp only [List.getElem_toArray, List.getElem_cons_zero, List.getElem_cons_succ]); go_simp; (try with_reducible rfl))
  (try simp only [Act.put, List.setIfInBounds_toArray, List.set_cons_zero, List.set_cons_succ, List.getElem_toArray, List.getElem_cons_zero, List.getElem_cons_succ])
  refine wpAnyH_take (i := 5) (oi := _) (v := ?va5) rfl (by kernel_rfl) (by kernel_rfl) (by kernel_rfl) (fun _ _ _ h => h) (Or.inl ⟨by rfl, ?hya5⟩) (by assumption) ?resta5
  case hya5 => (intro w hSw; (try dsimp only at hSw); (try simp only [List.getElem_toArray, List.getElem_cons_zero, List.getElem_cons_succ]); go_simp; (try with_reducible rfl))
  (try simp only [Act.put, List.setIfInBounds_toArray, List.set_cons_zero, List.set_cons_succ, List.getElem_toArray, List.getElem_cons_zero, List.getElem_cons_succ])
  refine wpAnyH_ready (rs := [3]) (by kernel_rfl) (by simp) ?_
  refine AllReadyH.cons (o := _) rfl (fun K hK => ?_) AllReadyH.nil
  (try simp only [List.getElem_toArray, List.getElem_cons_zero, List.getElem_cons_succ])
  go_simp
  refine (HR.out _ ((Keep.refl _ w1).drew)).mono ?_; rintro e w2 ht; obtain ⟨A2, c2, rfl, k2, hc2, hs2⟩ := ht.slK (HG1.out.keep ((Keep.refl (fun _ => False) w1).drew) (fun y => y) (fun y => y)) hle.out; have K2 : Hid (Keep (fun _ => False) w1 w2) := Lib.hid (((Keep.refl (fun _ => False) w1).drew).trans k2 (fun _ _ y => y)); have HS2 := Lib.hid hs2; have HQ2 := Lib.hid (K2.out.heap HQ1.out (fun y => y)); have hg2 : g < w2.heap.size := (by have := K2.out.size; omega); clear ht hs2 k2
  refine hK.out _ _ ?_ (fun hHeld => ?_)
  · exact cells_six HQ2.out
  clear hK K
  (try simp only [Act.put, List.setIfInBounds_toArray, List.set_cons_zero, List.set_cons_succ, List.getElem_toArray, List.getElem_cons_zero, List.getElem_cons_succ])
  refine wpAnyH_ready (rs := [6]) (by kernel_rfl) (by simp) ?_
  refine AllReadyH.cons (o := _) rfl (fun K hK => ?_) AllReadyH.nil
  (try simp only [List.getElem_toArray, List.getElem_cons_zero, List.getElem_cons_succ])
  go_simp
  refine (toFront_any A2 g (a * 6) m c2 _ x _ (min k.toNat m) _ HS2.out HM8.out hc2 (by omega)).mono ?_; rintro e w4 ⟨rfl, hf⟩; have HF4 := Lib.hid hf; have HQ4 := Lib.hid (hf.keep.heap HQ2.out (fun e => hgq e.symm)); clear hf
  refine hK.out _ _ ?_ (fun hHeld => ?_)
  · exact cells_six HQ4.out
  clear hK K
  (try simp only [Act.put, List.setIfInBounds_toArray, List.set_cons_zero, List.set_cons_succ, List.getElem_toArray, List.getElem_cons_zero, List.getElem_cons_succ])
  refine wpAnyH_done (by kernel_rfl) ?_ _
  refine NoPanic.normal ?_
  go_end0
  exact ⟨rfl, PutC.keep_then (HK1.out.trans K2.out (fun _ _ y => y)) HG.out (HF4.out.put hg2)⟩

end Go.Proofs.YtnminmaklbhakaaGreatDoor
namespace Go.Proofs.YtnminmaklbhakaaGreatDoor
set_option linter.unusedVariables false
set_option linter.unusedSimpArgs false
open Go.RowKit

theorem Below.drewN' {B : Nat} {w W : World} (h : Below B w W) (k : Nat) : Below B w (W.drewN k) := ⟨h.os, h.tape, h.output, h.size, h.block⟩
def blankC : CellM := ⟨32, .z⟩
theorem cell_row : (Tryz.prog.info? 46).map (fun i => (i.zero, i.size, i.bytes)) = some (some (.agg #[.int .i32 0, .int .i64 0, .int .i64 0, .bool false, .bool false, .bool false]), 6, 32) := by kernel_rfl

theorem lies_made (w : World) (n : Nat) (t : TypeId) : Lies (w.alloc (.cells (madeCells #[.int .i32 0, .int .i64 0, .int .i64 0, .bool false, .bool false, .bool false] (n * 6)) t)) w.heap.size 0 n (fun _ => CellM.z) := by
  refine ⟨fun k hk i v hv => ?_, fun j hj => free_at (heap_alloc_new w _) _⟩
  have hi := cellCs_lt hv
  rw [Nat.zero_add, cell_of_row _ _ _ _ t (0, 0) (heap_alloc_new w _)]
  have hlt : k * 6 + i < (madeCells #[.int .i32 0, .int .i64 0, .int .i64 0, .bool false, .bool false, .bool false] (n * 6)).size := by rw [size_madeCells]; omega
  rw [Array.getElem?_eq_getElem hlt]
  have e : (k * 6 + i) % 6 = i := by omega
  rcases i with _ | _ | _ | _ | _ | _ | i
  all_goals first | omega | (simp [madeCells, e]; simpa [cellCs, attrCs, CellM.z, At.z] using hv)

theorem grid_blank (w : World) :
    Calls Tryz.prog 48 #[At.z.v] w fun e w' => e = .returned blankC.v ∧ Below w.heap.size w w' := by
  simp only [At.v, At.z]
  go_enter Tryz.func48, Tryz.ntmps48
  go_wp2_with fail
  refine bodyPost_ret (v := .agg #[.int .i32 32, .int .i64 0, .int .i64 0, .bool false, .bool false, .bool false]) (by simp [results, Tryz.results48, go_sem]) rfl ⟨rfl, ?_⟩
  repeat (first | exact Below.refl _ _ | (refine Below.setCell ?_ (by simp) _) | (refine Below.alloc ?_ (by simp) _))

/-- Behind New. -/
def NewTo (W H n : Nat) (w : World) (e : Ending) (w' : World) : Prop :=
  e = .returned (.pointer (some ⟨w.heap.size + 1, 0, none⟩)) ∧ GridAt w' (w.heap.size + 1) w.heap.size n W H n (fun _ => blankC) ∧ Below w.heap.size w w'

set_option maxRecDepth 100000 in
set_option maxHeartbeats 1600000 in
theorem grid_new (w : World) (x y : Int) (W H n : Nat) (hW : min (max x 2) 40 = (W : Int)) (hH : min (max y 1) 20 = (H : Int)) (hn : n = W * H) :
    Calls Tryz.prog 33 #[.int .i64 x, .int .i64 y] w (NewTo W H n w) := by
  obtain ⟨i0, hi0, hz0, hz1, hz2⟩ := info_parts cell_row
  have hX : Hid (∀ V, Calls Tryz.prog 46 #[.int .i64 x, .int .i64 2, .int .i64 40] V fun e w' => e = .returned (.int .i64 W) ∧ w' = V) := Lib.hid (fun V => by have := within_any x 2 40 V; rwa [hW] at this)
  have hY : Hid (∀ V, Calls Tryz.prog 46 #[.int .i64 y, .int .i64 1, .int .i64 20] V fun e w' => e = .returned (.int .i64 H) ∧ w' = V) := Lib.hid (fun V => by have := within_any y 1 20 V; rwa [hH] at this)
  have hw40 : 2 ≤ W ∧ W ≤ 40 := by omega
  have hh20 : 1 ≤ H ∧ H ≤ 20 := by omega
  have h8 : W * H ≤ 800 := Nat.mul_le_mul hw40.2 hh20.2
  have h2 : 2 ≤ W * H := Nat.mul_le_mul hw40.1 hh20.1
  have hPi : (W : Int) * (H : Int) = (n : Int) := by rw [hn]; exact (Int.natCast_mul W H).symm
  have hw1 : IntKind.i64.wrap ((W : Int) * (H : Int)) = (n : Int) := by rw [hPi]; exact IntWalk.i64_in _ (by omega)
  have t5 : (n : Int) ≤ 800 := by omega
  have t6 : (0 : Int) ≤ (n : Int) := by omega
  obtain ⟨M, hM⟩ : ∃ M, M = madeCells #[.int .i32 0, .int .i64 0, .int .i64 0, .bool false, .bool false, .bool false] (n * 6) := ⟨_, rfl⟩
  have hmk : ∀ V : World, (Instr.makeSlice 32 (.int .i64 (n : Int)) (.int .i64 (n : Int))).run Tryz.prog V = .ok (.slice (some ⟨V.heap.size, 0, none⟩) n n) (V.alloc (.cells M 46)) := fun V => by
    have h := run_make (P := Tryz.prog) V 32 46 i0 _ Tryz.underlying32 hi0 hz0 .i64 .i64 (n : Int) (n : Int) (by omega) (by omega) (by rw [hz2]; omega) (by omega)
    rw [hz1] at h
    rw [hM]
    simp at h
    exact h
  obtain ⟨w2, hw2⟩ : ∃ w2, w2 = (w.alloc (.cells M 46)).alloc (.cells #[.int .i64 (W : Int), .int .i64 (H : Int), .slice (some ⟨w.heap.size, 0, none⟩) n n] 86) := ⟨_, rfl⟩
  have HG2 : Hid (GridAt w2 (w.heap.size + 1) w.heap.size n W H n (fun _ => CellM.z)) := Lib.hid (by
    have hl := lies_made w n 46
    rw [← hM] at hl
    have hb : ∀ i v, (#[.int .i64 (W : Int), .int .i64 (H : Int), .slice (some ⟨w.heap.size, 0, none⟩) n n] : Array Value)[i]? = some v → Cell w2 (w.heap.size + 1) i v := fun i v hv => by
      have := Cell.box (w := w.alloc (.cells M 46)) (t := 86) i hv
      rw [hw2]
      rwa [show (w.alloc (.cells M 46)).heap.size = w.heap.size + 1 from by simp] at this
    refine ⟨hb 0 _ rfl, hb 1 _ rfl, hb 2 _ rfl, ?_, by rw [hw2]; simp; omega, by omega, hn, hw40, hh20, Nat.le_refl _, by omega⟩
    rw [hw2]
    exact hl.keep (S := fun _ => False) (by simp) ((Keep.refl _ _).alloc _) (fun y => y))
  have HB2 : Hid (Below w.heap.size w w2) := Lib.hid (by rw [hw2]; exact ((Below.refl _ w).alloc (Nat.le_refl _) _).alloc (by simp) _)
  have c2 := HG2.out.cs.1
  have HC2 := Lib.hid c2
  clear hW hH hn h8 h2 hM hw40 hh20 c2
  go_enter Tryz.func33, Tryz.ntmps33
  go_wp2_with fail
  refine (hX.out _).mono ?_
  rintro e w1 ⟨rfl, rfl⟩
  go_wp2_with fail
  refine (hY.out _).mono ?_
  rintro e w1 ⟨rfl, rfl⟩
  go_upto_region 3 with fail
  rw [← hw2]
  obtain ⟨g, hg⟩ : ∃ g, g = w1.heap.size := ⟨_, rfl⟩
  have HB3 : Hid (∀ V, Keep (· = g) w2 V → Below w1.heap.size w1 V) := Lib.hid (fun V k => HB2.out.trans (k.below HB2.out.size (fun i hi e => by omega)))
  unfold NewTo
  rw [← hg] at HG2 HC2 HB2 HB3
  rw [← hg]
  have HGE := Lib.hid hg
  clear hw2 hmk hg hPi hw1
  have hgl : g < w2.heap.size := HG2.out.hg
  refine wp_region_noPanic ?_
  refine wp_region_held_drew (S := fun w' => w'.cell? ⟨g + 1, 2, none⟩ = some (.slice (some ⟨g, 0, none⟩) n n)) (by kernel_rfl) HC2.out (fun hHeld => ?_)
  refine wpAnyH_take (i := 0) (oi := _) (v := ?va0) rfl (by kernel_rfl) (by kernel_rfl) (by kernel_rfl) (fun _ _ _ h => h) (Or.inl ⟨by rfl, ?hya0⟩) (by assumption) ?resta0
  case hya0 => (intro w hSw; (try dsimp only at hSw); (try simp only [List.getElem_toArray, List.getElem_cons_zero, List.getElem_cons_succ]); go_simp; (try with_reducible rfl))
  (try simp only [Act.put, List.setIfInBounds_toArray, List.set_cons_zero, List.set_cons_succ, List.getElem_toArray, List.getElem_cons_zero, List.getElem_cons_succ])
  refine wpAnyH_take (i := 1) (oi := _) (v := ?va1) rfl (by kernel_rfl) (by kernel_rfl) (by kernel_rfl) (fun _ _ _ h => h) (Or.inl ⟨by rfl, ?hya1⟩) (by assumption) ?resta1
  case hya1 => (intro w hSw; (try dsimp only at hSw); (try simp only [List.getElem_toArray, List.getElem_cons_zero, List.getElem_cons_succ]); go_simp; (try with_reducible rfl))
  (try simp only [Act.put, List.setIfInBounds_toArray, List.set_cons_zero, List.set_cons_succ, List.getElem_toArray, List.getElem_cons_zero, List.getElem_cons_succ])
  refine wpAnyH_take (i := 2) (oi := _) (v := ?va2) rfl (by kernel_rfl) (by kernel_rfl) (by kernel_rfl) (fun _ _ _ h => h) (Or.inl ⟨by rfl, ?hya2⟩) (by assumption) ?resta2
  case hya2 => (intro w hSw; (try dsimp only at hSw); (try simp only [List.getElem_toArray, List.getElem_cons_zero, List.getElem_cons_succ]); go_simp; (try with_reducible rfl))
  (try simp only [Act.put, List.setIfInBounds_toArray, List.set_cons_zero, List.set_cons_succ, List.getElem_toArray, List.getElem_cons_zero, List.getElem_cons_succ])
  refine wpAnyH_take (i := 3) (oi := _) (v := ?va3) rfl (by kernel_rfl) (by kernel_rfl) (by kernel_rfl) (fun _ _ _ h => h) (Or.inl ⟨by rfl, ?hya3⟩) (by assumption) ?resta3
  case hya3 => (intro w hSw; (try dsimp only at hSw); (try simp only [List.getElem_toArray, List.getElem_cons_zero, List.getElem_cons_succ]); go_simp; (try with_reducible rfl))
  (try simp only [Act.put, List.setIfInBounds_toArray, List.set_cons_zero, List.set_cons_succ, List.getElem_toArray, List.getElem_cons_zero, List.getElem_cons_succ])
  refine wpAnyH_take (i := 4) (oi := _) (v := ?va4) rfl (by kernel_rfl) (by kernel_rfl) (by kernel_rfl) (fun _ _ _ h => h) (Or.inl ⟨by rfl, ?hya4⟩) (by assumption) ?resta4
  case hya4 => (intro w hSw; (try dsimp only at hSw); (try simp only [List.getElem_toArray, List.getElem_cons_zero, List.getElem_cons_succ]); go_simp; (try with_reducible rfl))
  (try simp only [Act.put, List.setIfInBounds_toArray, List.set_cons_zero, List.set_cons_succ, List.getElem_toArray, List.getElem_cons_zero, List.getElem_cons_succ])
  refine wpAnyH_ready (rs := [5]) (by kernel_rfl) (by simp) ?_
  refine AllReadyH.cons (o := _) rfl (fun K hK => ?_) AllReadyH.nil
  (try simp only [List.getElem_toArray, List.getElem_cons_zero, List.getElem_cons_succ])
  go_simp
  refine (grid_blank _).mono ?_; rintro e w3 ⟨rfl, hb⟩; have K3 : Hid (Keep (fun _ => False) w2 w3) := Lib.hid (((Keep.refl (fun _ => False) w2).drew).trans (Keep.of_below _ hb) (fun _ _ y => y)); have HG3 := Lib.hid (HG2.out.keep K3.out (fun y => y) (fun y => y)); clear hb
  refine hK.out _ _ ?_ (fun hHeld => ?_)
  · exact HG3.out.cs.1
  clear hK K
  (try simp only [Act.put, List.setIfInBounds_toArray, List.set_cons_zero, List.set_cons_succ, List.getElem_toArray, List.getElem_cons_zero, List.getElem_cons_succ])
  refine wpAnyH_ready (rs := [6]) (by kernel_rfl) (by simp) ?_
  refine AllReadyH.cons (o := _) rfl (fun K hK => ?_) AllReadyH.nil
  (try simp only [List.getElem_toArray, List.getElem_cons_zero, List.getElem_cons_succ])
  go_simp
  refine (fill_any (some ⟨g, 0, none⟩) g 0 n n _ blankC w3 (fun _ => ⟨rfl, HG3.out.l, HG3.out.hg⟩) (by omega)).mono ?_; rintro e w4 ⟨rfl, hf⟩; have HF4 := Lib.hid hf; have HG4 : Hid (GridAt w4 (g + 1) g n W H n (fun _ => blankC)) := Lib.hid ((HG3.out.put (a := 0) (m := n) (by simpa using hf.put HG3.out.hg) (by omega)).congr (fun k hk => by simp [hk])); clear hf
  refine hK.out _ _ ?_ (fun hHeld => ?_)
  · exact HG4.out.cs.1
  clear hK K
  (try simp only [Act.put, List.setIfInBounds_toArray, List.set_cons_zero, List.set_cons_succ, List.getElem_toArray, List.getElem_cons_zero, List.getElem_cons_succ])
  refine wpAnyH_done (by kernel_rfl) ?_ _
  refine NoPanic.normal ?_
  have HB4 := Lib.hid (HB3.out w4 (((K3.out.mono (fun _ _ y => y.elim) : Keep (· = g) w2 w3)).trans HF4.out.keep (fun _ _ y => y)))
  clear hHeld HB3 HF4
  go_wp2_with fail
  go_ret
  have hg := HGE.out
  show NewTo W H n w1 (.returned (.pointer (some ⟨g + 1, 0, none⟩))) w4
  have hb := HB4.out
  unfold NewTo
  rw [← hg]
  exact ⟨rfl, HG4.out, hb⟩

/-- What At tells. -/
def atF (W H : Nat) (f : Nat → CellM) (x y : Int) : CellM := if 0 ≤ x ∧ x < W ∧ 0 ≤ y ∧ y < H then f (restA W x y) else .z

end Go.Proofs.YtnminmaklbhakaaGreatDoor
namespace Go.Proofs.YtnminmaklbhakaaGreatDoor
set_option linter.unusedVariables false
set_option linter.unusedSimpArgs false
open Go.RowKit

/-- A list of its own. -/
def CloneTo (n : Nat) (f : Nat → CellM) (w : World) (e : Ending) (w' : World) : Prop :=
  ∃ g' c', e = .returned (.slice (some ⟨g', 0, none⟩) n c') ∧ w.heap.size ≤ g' ∧ g' < w'.heap.size ∧ Lies w' g' 0 n f ∧ n ≤ c' ∧ c' ≤ 9223372036854775807 ∧ w'.ownsRow w.heap.size 46 6 (.slice (some ⟨g', 0, none⟩) n c') n (flatF f n) ∧ Below w.heap.size w w'

theorem own_lies {w : World} {B n c : Nat} {A : Option Addr} {f : Nat → CellM} (h : w.ownsRow B 46 6 (.slice A n c) n (flatF f n)) (h0 : 0 < n) :
    ∃ g, A = some ⟨g, 0, none⟩ ∧ B ≤ g ∧ g < w.heap.size ∧ Lies w g 0 n f ∧ n ≤ c ∧ c ≤ 9223372036854775807 := by
  rcases h.2 with ⟨h1, h2⟩ | ⟨g, cap, cur, h1, hB, hg, q1, q2, q3, q4⟩
  · injection h1 with hA hn hc
    omega
  · injection h1 with hA hn hc
    subst hA hc
    refine ⟨g, rfl, hB, lt_heap hg, ⟨fun k hk i v hv => ?_, fun j hj => free_at hg _⟩, q1, by unfold maxLen at q2; omega⟩
    have hi := cellCs_lt hv
    rw [Nat.zero_add, cell_at hg]
    have e : (flatF f n)[k * 6 + i]? = some v := by rw [flatF_at, show (k * 6 + i) / 6 = k from by omega, show (k * 6 + i) % 6 = i from by omega]; exact ⟨by omega, hv⟩
    rw [← q4, List.getElem?_take_of_lt (by omega)] at e
    simpa using e

theorem own_empty (w : World) (e : TypeId) (z : Nat) : (w.alloc (.cells #[] e)).ownsRow w.heap.size e z (.slice (some ⟨w.heap.size, 0, none⟩) 0 0) 0 [] :=
  ⟨by simp, .inr ⟨w.heap.size, 0, #[], rfl, Nat.le_refl _, heap_alloc_new w _, Nat.le_refl _, by unfold maxLen; omega, by simp, by simp⟩⟩

set_option maxRecDepth 100000 in
set_option maxHeartbeats 1600000 in
theorem clone_cells (w : World) (g o n c : Nat) (f : Nat → CellM) (h : Lies w g o n f) (h0 : 0 < n) (hn : n ≤ 100000) :
    Calls Tryz.prog 43 #[.slice (some ⟨g, o, none⟩) n c] w (CloneTo n f w) := by
  obtain ⟨i0, hi0, hz0, hz1, hz2⟩ := info_parts cell_row
  have hL := Lib.hid (h.keep (S := fun _ => False) (h.lt h0) ((Keep.refl _ w).alloc (.cells #[] 46)) (fun y => y))
  have heq := fun (V : World) => Lib.run_eql_slice_nil (P := Tryz.prog) V 32 46 (some ⟨g, o, none⟩) n c 0 0 Tryz.underlying32
  clear h
  go_enter Tryz.func43, Tryz.ntmps43
  go_wp2_with (at_builtin; refine wpList_own_at _ rfl (.tmp 5) (.tmp 6) 32 rfl w.heap.size 46 i0 _ 6 32 Tryz.underlying32 hi0 hz0 hz1 hz2 rfl (by decide) _ 0 [] rfl (own_empty w _ 6) ⟨g, o, none⟩ n c (flatF f n) rfl (flatF_len f n) ?c1 (flatF_one f n) ?c3 ?c4 ?c5 ?_)
  case c1 => intro j u hu; rw [add_mk]; exact hL.out.cells j u hu
  case c3 => unfold maxLen; omega
  case c4 => omega
  case c5 => simp
  intro v1 w1 hown hk hat
  obtain ⟨A1, c1, rfl, -⟩ := own_form hown
  have hown' : w1.ownsRow w.heap.size 46 6 (.slice A1 n c1) n (flatF f n) := by
    simpa using hown
  obtain ⟨g1, rfl, q1, q2, q3, q4, q5⟩ := own_lies hown' h0
  have HB : Hid (Below w.heap.size w w1) := Lib.hid (((Below.refl _ w).alloc (Nat.le_refl _) _).trans (hk.below (by simp) (fun k hk e => by simp [Value.ownBlock] at e; omega)))
  have HQ := Lib.hid q3
  have HO := Lib.hid hown'
  clear hown hk hat q3 hown'
  go_wp2_with fail
  go_ret
  exact ⟨g1, c1, by first | rfl | simp, q1, q2, HQ.out, q4, q5, HO.out, HB.out⟩

set_option maxRecDepth 100000 in
set_option maxHeartbeats 1600000 in
theorem grid_cells (w : World) (p g c W H n : Nat) (f : Nat → CellM) (h : GridAt w p g c W H n f) :
    Calls Tryz.prog 29 #[.pointer (some ⟨p, 0, none⟩)] w (CloneTo n f w) := by
  have hH := Lib.hid (grid_H w p g c W H n f h)
  have e1 : rowsA W 0 = 0 := by unfold rowsA; rw [show (max (0 : Int) 0).toNat = 0 from rfl, Nat.zero_mul]
  have e2 : rowsN W H 0 H = n := by unfold rowsN; rw [show (min (H : Int) (H : Int) - max 0 0).toNat = H from by omega, h.hn, Nat.mul_comm]
  have hR := Lib.hid (by have := grid_rows w p g c W H n f 0 H h; rwa [e1, e2] at this)
  have hn := h.n800
  have HL := Lib.hid h.l
  have HG := Lib.hid h.hg
  have hni : (n : Int) ≤ 800 := by omega
  have hn0 : 0 < n := by omega
  clear h e1 e2 hn
  go_enter Tryz.func29, Tryz.ntmps29
  go_wp2_with fail
  refine hH.out.mono ?_
  rintro e w1 ⟨rfl, rfl⟩
  go_wp2_with fail
  refine hR.out.mono ?_
  rintro e w2 ⟨⟨k, rfl⟩, ⟨hz, rfl⟩ | ⟨hz, rfl⟩⟩
  · exact absurd hz (by omega)
  · clear hz
    go_wp2_with fail
    refine (clone_cells (w1.drewN k) g 0 n c f (⟨HL.out.val, HL.out.can⟩) hn0 (by omega)).mono ?_
    rintro e w3 ⟨g', c', rfl, q1, q2, q3, q4, q5, q6, q7⟩
    have HT := Lib.hid (show CloneTo n f w1 (.returned (.slice (some ⟨g', 0, none⟩) n c')) w3 from ⟨g', c', rfl, q1, q2, q3, q4, q5, q6, ⟨q7.os, q7.tape, q7.output, q7.size, q7.block⟩⟩)
    clear q1 q2 q3 q4 q5 q6 q7
    go_wp2_with fail
    go_ret
    exact HT.out

/-- Behind Copy. -/
def CopyTo (W H n : Nat) (f : Nat → CellM) (w : World) (e : Ending) (w' : World) : Prop :=
  ∃ p' g' c', e = .returned (.pointer (some ⟨p', 0, none⟩)) ∧ w.heap.size ≤ g' ∧ w.heap.size ≤ p' ∧ GridAt w' p' g' c' W H n f ∧ Below w.heap.size w w'

def sizeF (W W' : Nat) (f : Nat → CellM) (h k : Nat) : CellM := if k / W' < h ∧ k % W' < W then f (k / W' * W + k % W') else blankC
theorem sizeF_step (W W' y j : Nat) (f : Nat → CellM) (hW : 0 < W') (hj : j = min W W') (k : Nat) :
    (if y * W' ≤ k ∧ k < y * W' + j then f (y * W + (k - y * W')) else sizeF W W' f y k) = sizeF W W' f (y + 1) k := by
  unfold sizeF
  have h1 := Nat.div_add_mod k W'
  have h2 := Nat.mod_lt k hW
  generalize k / W' = d at *
  generalize k % W' = r at *
  rw [Nat.mul_comm] at h1
  rcases Nat.lt_trichotomy d y with e | e | e
  · have h3 := Nat.mul_le_mul_right W' (show d + 1 ≤ y from e)
    rw [Nat.add_mul, Nat.one_mul] at h3
    rw [if_neg (by omega)]
    by_cases hr : r < W
    · rw [if_pos ⟨e, hr⟩, if_pos ⟨by omega, hr⟩]
    · rw [if_neg (fun x => hr x.2), if_neg (fun x => hr x.2)]
  · subst e
    by_cases hr : r < W
    · rw [if_pos (by omega), if_pos ⟨by omega, hr⟩]
      congr 1
      omega
    · rw [if_neg (by omega), if_neg (by omega), if_neg (by omega)]
  · have h3 := Nat.mul_le_mul_right W' (show y + 1 ≤ d from e)
    rw [Nat.add_mul, Nat.one_mul] at h3
    rw [if_neg (by omega), if_neg (by omega), if_neg (by omega)]

/-- Behind Size. -/
def SizeTo (p W' H' n' : Nat) (F : Nat → CellM) (w : World) (e : Ending) (w' : World) : Prop :=
  e = .returned (.tuple #[]) ∧ ∃ g' c', w.heap.size ≤ g' ∧ GridAt w' p g' c' W' H' n' F ∧ Keep (· = p) w w'

set_option maxRecDepth 100000 in
set_option maxHeartbeats 3200000 in
theorem grid_size (w : World) (p g c W H n : Nat) (f : Nat → CellM) (x y : Int) (W' H' n' : Nat) (h : GridAt w p g c W H n f) (hW : min (max x 2) 40 = (W' : Int)) (hH : min (max y 1) 20 = (H' : Int)) (hn : n' = W' * H') :
    Calls Tryz.prog 21 #[.pointer (some ⟨p, 0, none⟩), .int .i64 x, .int .i64 y] w (SizeTo p W' H' n' (sizeF W W' f (min H H')) w) := by
  have HG := Lib.hid h
  have hpl := h.lt
  have hgl := h.hg
  have hw := h.hw
  have hh := h.hh
  have hnn := Lib.hid h.hn
  have hNew := Lib.hid (grid_new w x y W' H' n' hW hH hn)
  have hw40 : 2 ≤ W' ∧ W' ≤ 40 := by omega
  have hh20 : 1 ≤ H' ∧ H' ≤ 20 := by omega
  have HNE := Lib.hid hn
  obtain ⟨M, hM⟩ : ∃ M : Nat, min (H : Int) (H' : Int) = (M : Int) := ⟨min H H', by omega⟩
  have hMe : min H H' = M := by omega
  have HME := Lib.hid hMe
  have t1 : (M : Int) ≤ 20 := by omega
  have hMH : M ≤ H ∧ M ≤ H' := by omega
  rw [hMe]
  clear h hW hH hn hMe
  go_enter Tryz.func21, Tryz.ntmps21
  go_wp2_with fail
  refine hNew.out.mono ?_
  rintro e w1 ⟨rfl, hG, hb⟩
  obtain ⟨g1, hg1⟩ : ∃ g1, g1 = w.heap.size := ⟨_, rfl⟩
  rw [← hg1] at hG hpl hgl
  rw [← hg1]
  have HG1 := Lib.hid (HG.out.keep (Keep.of_below (fun _ => False) hb) (fun y => y) (fun y => y))
  have HN1 := Lib.hid hG
  have K1 := Lib.hid (Keep.of_below (fun _ => False) hb)
  have HGE := Lib.hid hg1
  have c1 := HG1.out.ch.1
  have c2 := HN1.out.ch.1
  clear hG hb hg1
  go_wp2_with fail
  go_quiet (fail)
  clear c1 c2
  go_wp2_with fail
  go_loopw [7, 22] (fun _ i wr => ∃ k : Nat, i = .int .i64 k ∧ k ≤ M ∧ Hid (GridAt wr (g1 + 1) g1 n' W' H' n' (sizeF W W' f k)) ∧ Hid (Keep (· = g1) w1 wr)) (fun _ i _ => M - (intOf i).toNat)
  case atStart => exact ⟨0, rfl, Nat.zero_le _, (HN1.out.keep ((Keep.refl (fun _ => False) w1).drewN nq) (fun y => y) (fun y => y)).congr (fun j hj => (if_neg (fun e => absurd e.1 (Nat.not_lt_zero _))).symm), (Keep.refl _ w1).drewN nq⟩
  case round =>
    obtain ⟨k, rfl, hk, HR, HK⟩ := hrel
    by_cases hlt : k < M
    · have hki : ((k : Int) < (M : Int)) := by omega
      have hk0 : (0 : Int) ≤ (k : Int) := by omega
      have HGr := Lib.hid (HG1.out.keep HK.out (by omega) (by omega))
      have er : restN W H 0 k = W := by unfold restN; rw [if_pos (by omega)]; simp
      have ea : restA W 0 k = k * W := by unfold restA; simp
      have er' : restN W' H' 0 k = W' := by unfold restN; rw [if_pos (by omega)]; simp
      have ea' : restA W' 0 k = k * W' := by unfold restA; simp
      have hle : k * W + W ≤ n := by
        have h3 := Nat.mul_le_mul_right W (show k + 1 ≤ H by omega)
        rw [Nat.add_mul, Nat.one_mul] at h3
        rw [hnn.out, Nat.mul_comm W H]; exact h3
      have hRS := Lib.hid (by have := grid_rest wr p g c W H n f 0 k HGr.out; rwa [er, ea] at this)
      have HLE := Lib.hid hle
      have HER := Lib.hid (And.intro er' ea')
      clear er ea er' ea' hle
      go_wp2_with fail
      refine hRS.out.mono ?_
      rintro e w2 ht
      obtain ⟨A2, c2, rfl, k2, -, hs2⟩ := ht.slK HGr.out (fun _ => HLE.out)
      have K2 := Lib.hid k2
      have HS2 := Lib.hid hs2.slc
      clear ht hs2 k2
      go_wp2_with fail
      refine (grid_set w2 (g1 + 1) g1 n' W' H' n' (sizeF W W' f k) 0 k A2 W c2 (fun i => f (k * W + i)) g (k * W * 6) (HR.out.keep K2.out (fun y => y) (fun y => y)) HS2.out (by omega) (min W W') (by rw [HER.out.1])).mono ?_
      rintro e w3 ⟨rfl, hp⟩
      have hp' : PutC g1 (k * W' * 6) (min W W') (fun i => f (k * W + i)) w2 w3 := by have := hp; rwa [HER.out.2] at this
      have HR3 : Hid (GridAt w3 (g1 + 1) g1 n' W' H' n' (sizeF W W' f (k + 1))) := Lib.hid (((HR.out.keep K2.out (fun y => y) (fun y => y)).put hp' (by
        have h3 := Nat.mul_le_mul_right W' (show k + 1 ≤ H' by omega)
        rw [Nat.add_mul, Nat.one_mul] at h3
        have := HNE.out
        rw [Nat.mul_comm W' H'] at this
        have := Nat.min_le_right W W'
        omega)).congr (fun j _ => sizeF_step W W' k (min W W') f (by omega) rfl j))
      have HK3 : Hid (Keep (· = g1) w1 w3) := Lib.hid ((HK.out.trans K2.out (fun _ _ y => y.elim)).trans hp.keep (fun _ _ y => y))
      clear hp hp'
      go_wp2_with fail
      go_roundw
      case rel => exact ⟨k + 1, by go_num, by omega, HR3, HK3⟩
      case measure => simp [intOf]; omega
    · have hkn : k = M := by omega
      subst hkn
      have HGr := Lib.hid (HG1.out.keep HK.out (by omega) (by omega))
      obtain ⟨a0, b0⟩ := HGr.out.cw
      obtain ⟨a1, b1⟩ := HGr.out.ch
      obtain ⟨a2, b2⟩ := HGr.out.cs
      have n0 := HR.out.cw.1
      have n1 := HR.out.ch.1
      have n2 := HR.out.cs.1
      have hne : g1 + 1 ≠ p := by omega
      have hpr : p < wr.heap.size := HGr.out.lt
      have K : Hid (Keep (fun _ => False) w wr) := Lib.hid (by
        have := HGE.out
        refine ⟨HK.out.os.trans K1.out.os, HK.out.tape.trans K1.out.tape, HK.out.output.trans K1.out.output, Nat.le_trans K1.out.size HK.out.size, fun i hi _ => ?_⟩
        exact (HK.out.block i (Nat.lt_of_lt_of_le hi K1.out.size) (by omega)).trans (K1.out.block i hi (fun y => y)))
      have HT : Hid (SizeTo p W' H' n' (sizeF W W' f k) w (.returned (.tuple #[])) (((wr.setCell ⟨p, 0, none⟩ (.int .i64 (W' : Int))).setCell ⟨p, 1, none⟩ (.int .i64 (H' : Int))).setCell ⟨p, 2, none⟩ (.slice (some ⟨g1, 0, none⟩) n' n'))) := Lib.hid (by
        have KP : Keep (· = p) wr (((wr.setCell ⟨p, 0, none⟩ (.int .i64 (W' : Int))).setCell ⟨p, 1, none⟩ (.int .i64 (H' : Int))).setCell ⟨p, 2, none⟩ (.slice (some ⟨g1, 0, none⟩) n' n')) := ((keep_set wr p 0 _).own 1 _).own 2 _
        refine ⟨rfl, g1, n', Nat.le_of_eq HGE.out.symm, ⟨?_, ?_, ?_, HR.out.l.keep HR.out.hg KP (by omega), by simp; exact HR.out.hg, by omega, HR.out.hn, HR.out.hw, HR.out.hh, HR.out.hc, HR.out.cm⟩, (K.out.mono (fun _ _ y => y.elim) : Keep (· = p) w wr).trans KP (fun _ _ y => y)⟩
        · exact ((HGr.out.cw.set _).far (by omega) _).far (by omega) _
        · exact ((HGr.out.ch.far (by omega) _).set _).far (by omega) _
        · exact ((HGr.out.cs.far (by omega) _).far (by omega) _).set _)
      clear hlt hk
      go_wp2_with fail
      go_end0
      exact HT.out

end Go.Proofs.YtnminmaklbhakaaGreatDoor

