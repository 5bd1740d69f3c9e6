/- api.Attr, api.Cell: as values and as elements that are read. Own work. -/
import Derived.Test.YtbjdcbnmpmcdiaaCellM
import Derived.Test.YtbjdcbnmpmcdiaaBase
import Derived.Deep.Strs
set_option linter.unusedVariables false
set_option linter.unusedSimpArgs false
namespace Go.Proofs.Ytbjdcbnmpmcdiaa
set_option linter.unusedVariables false
open Go.RowKit Go.ChangeShapes Go.WideShapes Go.Deep

section
variable {H : Type} {enc : TypeId × Value → H} {w : World}

def At.wf (a : At) : Prop := (-9223372036854775808 ≤ a.fg ∧ a.fg ≤ 9223372036854775807) ∧ -9223372036854775808 ≤ a.bg ∧ a.bg ≤ 9223372036854775807
def CellM.wf (c : CellM) : Prop := (-2147483648 ≤ c.r ∧ c.r ≤ 2147483647) ∧ c.a.wf
def attrCs (a : At) : List Value := [.int .i64 a.fg, .int .i64 a.bg, .bool a.b, .bool a.u, .bool a.i]
def cellCs (c : CellM) : List Value := .int .i32 c.r :: attrCs c.a

theorem cof_int : Try.prog.cellsOf 3 = 1 := by kernel_rfl
theorem cof_bool : Try.prog.cellsOf 4 = 1 := by kernel_rfl
theorem cof_rune : Try.prog.cellsOf 21 = 1 := by kernel_rfl
theorem cof_attr : Try.prog.cellsOf 40 = 5 := by kernel_rfl
theorem flat6_len (xs : List CellM) : (xs.flatMap cellCs).length = xs.length * 6 := by
  induction xs with
  | nil => rfl
  | cons c r ih => rw [List.flatMap_cons, List.length_append, ih, List.length_cons]; simp [cellCs, attrCs]; omega

set_option maxRecDepth 100000 in
theorem attr_read {n : Nat} {cs : List Value} {y : DataW H × List MemPlace} (h : DataW.trod enc Try.prog w 0 (fun _ => true) true n 40 cs = some y) : ∃ a : At, cs = attrCs a ∧ a.wf := by
  obtain ⟨xs, m, _, rfl, hl, hlen, hf⟩ := DataW.trod_struct Try.underlying40 h
  have hl' : cs.length = 5 := hl
  match cs, hl' with
  | [u0, u1, u2, u3, u4], _ =>
    match xs, hlen with
    | [y0, y1, y2, y3, y4], _ =>
      obtain ⟨a, e0, _, w0⟩ := DataW.trod_int Try.underlying3 (show DataW.trod enc Try.prog w 0 (fun _ => true) true m 3 [u0] = some y0 by simpa [cof_int, cof_bool, cof_rune, cof_attr] using hf 0 _ rfl)
      obtain ⟨b, e1, _, w1⟩ := DataW.trod_int Try.underlying3 (show DataW.trod enc Try.prog w 0 (fun _ => true) true m 3 [u1] = some y1 by simpa [cof_int, cof_bool, cof_rune, cof_attr] using hf 1 _ rfl)
      obtain ⟨c, e2, _⟩ := DataW.trod_bool Try.underlying4 (show DataW.trod enc Try.prog w 0 (fun _ => true) true m 4 [u2] = some y2 by simpa [cof_int, cof_bool, cof_rune, cof_attr] using hf 2 _ rfl)
      obtain ⟨d, e3, _⟩ := DataW.trod_bool Try.underlying4 (show DataW.trod enc Try.prog w 0 (fun _ => true) true m 4 [u3] = some y3 by simpa [cof_int, cof_bool, cof_rune, cof_attr] using hf 3 _ rfl)
      obtain ⟨e, e4, _⟩ := DataW.trod_bool Try.underlying4 (show DataW.trod enc Try.prog w 0 (fun _ => true) true m 4 [u4] = some y4 by simpa [cof_int, cof_bool, cof_rune, cof_attr] using hf 4 _ rfl)
      simp at e0 e1 e2 e3 e4
      exact ⟨⟨a, b, c, d, e⟩, by simp [attrCs, e0, e1, e2, e3, e4], wf_bounds w0, wf_bounds w1⟩

set_option maxRecDepth 100000 in
theorem cell_read {n : Nat} {cs : List Value} {y : DataW H × List MemPlace} (h : DataW.trod enc Try.prog w 0 (fun _ => true) true n 42 cs = some y) : ∃ c : CellM, cs = cellCs c ∧ c.wf := by
  obtain ⟨xs, m, _, rfl, hl, hlen, hf⟩ := DataW.trod_struct Try.underlying42 h
  have hl' : cs.length = 6 := hl
  match cs, hl' with
  | [u0, u1, u2, u3, u4, u5], _ =>
    match xs, hlen with
    | [y0, y1], _ =>
      obtain ⟨a, e0, _, w0⟩ := DataW.trod_int Try.underlying21 (show DataW.trod enc Try.prog w 0 (fun _ => true) true m 21 [u0] = some y0 by simpa [cof_int, cof_bool, cof_rune, cof_attr] using hf 0 _ rfl)
      obtain ⟨b, e1, w1⟩ := attr_read (show DataW.trod enc Try.prog w 0 (fun _ => true) true m 40 [u1, u2, u3, u4, u5] = some y1 by simpa [cof_int, cof_bool, cof_rune, cof_attr] using hf 1 _ rfl)
      simp at e0
      refine ⟨⟨a, b⟩, by simp [cellCs, e0, e1], ?_, w1⟩
      simpa [Lit.wf, IntKind.min, IntKind.max, IntKind.signed, IntKind.bits] using w0

/-- A cell that lies at b, off. -/
def CellAt (w : World) (b off : Nat) (c : CellM) : Prop := (∀ i v, (cellCs c)[i]? = some v → w.cell? ⟨b, off + i, none⟩ = some v) ∧ c.wf

theorem cell_at_read (b off n : Nat) (cs : List Value) (y : DataW H × List MemPlace) (hw : ∀ i, i < 6 → w.cell? ⟨b, off + i, none⟩ = cs[i]?) (hl : cs.length = 6)
    (h : DataW.trod enc Try.prog w 0 (fun _ => true) true n 42 cs = some y) : ∃ c, CellAt w b off c := by
  obtain ⟨c, rfl, hc⟩ := cell_read h
  refine ⟨c, fun i v hi => ?_, hc⟩
  have : i < 6 := by
    rcases Nat.lt_or_ge i 6 with e | e
    · exact e
    · rw [List.getElem?_eq_none (by rw [hl]; exact e)] at hi; cases hi
  rw [hw i this, hi]

/-- n cells that are read. -/
def CellsL (w : World) (A : Option Addr) (n : Nat) (xs : List CellM) : Prop := Src w A (n * 6) (xs.flatMap cellCs) ∧ xs.length = n ∧ n ≤ maxLen ∧ ∀ c ∈ xs, c.wf

theorem flat6_at (xs : List CellM) : ∀ i v, (xs.flatMap cellCs)[i]? = some v → ∃ c, xs[i / 6]? = some c ∧ (cellCs c)[i % 6]? = some v := by
  induction xs with
  | nil => intro i v h; simp at h
  | cons c r ih =>
    intro i v h
    rw [List.flatMap_cons] at h
    by_cases hi : i < 6
    · rw [List.getElem?_append_left (by simpa [cellCs, attrCs] using hi)] at h
      exact ⟨c, by rw [Nat.div_eq_of_lt hi]; rfl, by rw [Nat.mod_eq_of_lt hi]; exact h⟩
    · rw [List.getElem?_append_right (by simp [cellCs, attrCs]; omega)] at h
      obtain ⟨d, h1, h2⟩ := ih _ v h
      have e : (cellCs c).length = 6 := rfl
      rw [e] at h1 h2
      exact ⟨d, by rw [show i / 6 = (i - 6) / 6 + 1 from by omega, List.getElem?_cons_succ]; exact h1, by rw [show i % 6 = (i - 6) % 6 from by omega]; exact h2⟩

theorem cells_read {fuel : Nat} {A : Option Addr} {n c : Nat} {y : DataW H × List MemPlace}
    (h : DataW.trod enc Try.prog w 0 (fun _ => true) true fuel 43 [.slice A n c] = some y) : ∃ xs, CellsL w A n xs := by
  obtain ⟨xs, h1, h2, h3⟩ := structs_read (CellAt w) 6 (by omega) Try.underlying43 (by kernel_rfl) (fun b off n cs y hw hl h => cell_at_read b off n cs y hw hl h) h
  refine ⟨xs, ⟨by rw [flat6_len, h1], fun h0 => ?_⟩, h1, h2, fun c hc => ?_⟩
  · obtain ⟨b, off, e, hb, hq⟩ := h3 (by omega)
    refine ⟨b, off, e, hb, fun i v hi => ?_⟩
    obtain ⟨d, e1, e2⟩ := flat6_at xs i v hi
    have := (hq _ d e1).1 _ v e2
    rwa [show off + i / 6 * 6 + i % 6 = off + i from by omega] at this
  · obtain ⟨i, hi, e⟩ := List.getElem_of_mem hc
    have h0 : 0 < n := by omega
    obtain ⟨b, off, e', hb, hq⟩ := h3 h0
    exact (hq i c (by rw [List.getElem?_eq_getElem hi, e])).2

theorem ints_read_cap {P : Program} {t e : TypeId} (ht : P.underlying t = some (.slice e)) (he : P.underlying e = some (.int .i64)) (hc : P.cellsOf e = 1) {fuel : Nat} {v : Value} {y : DataW H × List MemPlace} (h : DataW.trod enc P w 0 (fun _ => true) true fuel t [v] = some y) :
    ∃ A len cap zs, v = .slice A len cap ∧ Ints w A len zs ∧ len ≤ cap := by
  rcases open_ints ht he hc h with ⟨hcs, _⟩ | ⟨x, l, c, zs, hcs, _, hl, hm, hz, _, hcell, hwz⟩
  · injection hcs with h1
    exact ⟨none, 0, 0, [], h1, ints_nil _ _, Nat.le_refl _⟩
  · injection hcs with h1
    have hz' : zs.length = c := by simpa using hz
    exact ⟨some x, l, c, _, h1, ints_of (by omega) hcell hwz (Nat.le_trans hl hm), hl⟩
end

end Go.Proofs.Ytbjdcbnmpmcdiaa
