/- cell over lists: attributes, changed by numbers; a cell's bytes. It speaks of no program. Own work. -/
import Derived.WalkKit
namespace Go.Proofs.Ytbjdcbnmpmcdiaa
set_option linter.unusedVariables false
set_option linter.unusedSimpArgs false

/-- An attribute. -/
structure At where
  fg : Int
  bg : Int
  b : Bool
  u : Bool
  i : Bool

def At.z : At := ⟨0, 0, false, false, false⟩
def At.v (a : At) : Value := .agg #[.int .i64 a.fg, .int .i64 a.bg, .bool a.b, .bool a.u, .bool a.i]
def At.ok (a : At) : Prop := 0 ≤ a.fg ∧ a.fg ≤ 16 ∧ 0 ≤ a.bg ∧ a.bg ≤ 16
instance (a : At) : Decidable a.ok := by unfold At.ok; infer_instance

/-- The color that a number asks for in front. -/
def colorL (n : Int) : Int × Bool := if 30 ≤ n ∧ n ≤ 37 then (n - 29, true) else if 90 ≤ n ∧ n ≤ 97 then (n - 81, true) else if n = 39 then (0, true) else (0, false)

/-- A number that needs no other one. -/
def changeL (a : At) (n : Int) : At :=
  if n = 0 ∨ n = -1 then .z
  else if n = 1 ∨ n = 22 then { a with b := n == 1 }
  else if n = 4 ∨ n = 24 then { a with u := n == 4 }
  else if n = 7 ∨ n = 27 then { a with i := n == 7 }
  else if 30 ≤ n ∧ n ≤ 37 then { a with fg := n - 29 }
  else if 90 ≤ n ∧ n ≤ 97 then { a with fg := n - 81 }
  else if 40 ≤ n ∧ n ≤ 47 then { a with bg := n - 39 }
  else if 100 ≤ n ∧ n ≤ 107 then { a with bg := n - 91 }
  else if n = 39 then { a with fg := 0 }
  else if n = 49 then { a with bg := 0 }
  else a

/-- What becomes of a color by the numbers of which the first one chooses, and how many of them are done. -/
def chooseL (was : Int) (l : List Int) : Int × Nat :=
  if l.length < 2 then (was, 1)
  else if l.getD 1 0 = 5 then (if 2 < l.length ∧ 0 ≤ l.getD 2 0 ∧ l.getD 2 0 ≤ 15 then (l.getD 2 0 + 1, 3) else (was, 3))
  else if l.getD 1 0 = 2 then (was, 5) else (was, 1)

def stepL (a : At) (l : List Int) : At × Nat :=
  if l.getD 0 0 = 38 then ({ a with fg := (chooseL a.fg l).1 }, (chooseL a.fg l).2)
  else if l.getD 0 0 = 48 then ({ a with bg := (chooseL a.bg l).1 }, (chooseL a.bg l).2)
  else (changeL a (l.getD 0 0), 1)

theorem chooseL_pos (c : Int) (l : List Int) : 1 ≤ (chooseL c l).2 ∧ (chooseL c l).2 ≤ 5 := by
  unfold chooseL
  repeat' split
  all_goals simp
theorem stepL_pos (a : At) (l : List Int) : 1 ≤ (stepL a l).2 ∧ (stepL a l).2 ≤ 5 := by
  unfold stepL
  split
  · exact chooseL_pos _ _
  split
  · exact chooseL_pos _ _
  · simp

def goL : Nat → At → List Int → At
  | 0, a, _ => a
  | n + 1, a, l => if l = [] then a else goL n (stepL a l).1 (l.drop (stepL a l).2)

theorem goL_nil (n : Nat) (a : At) : goL n a [] = a := by cases n <;> simp [goL]
theorem goL_more (n : Nat) : ∀ (m : Nat) (a : At) (l : List Int), l.length ≤ n → l.length ≤ m → goL n a l = goL m a l := by
  induction n with
  | zero =>
    intro m a l h _
    have : l = [] := List.eq_nil_of_length_eq_zero (by omega)
    subst this
    rw [goL_nil, goL_nil]
  | succ n ih =>
    intro m a l h1 h2
    by_cases hl : l = []
    · subst hl; rw [goL_nil, goL_nil]
    · obtain ⟨m, rfl⟩ : ∃ k, m = k + 1 := ⟨m - 1, by have := List.length_pos_iff.2 hl; omega⟩
      have hp := (stepL_pos a l).1
      have := List.length_pos_iff.2 hl
      simp only [goL, if_neg hl]
      exact ih m _ _ (by rw [List.length_drop]; omega) (by rw [List.length_drop]; omega)

/-- What is left to be done, of numbers that may be none. -/
def sgrOn (a : At) (l : List Int) : At := goL l.length a l
def sgrL (a : At) (l : List Int) : At := if l = [] then .z else sgrOn a l

theorem sgrOn_nil (a : At) : sgrOn a [] = a := rfl
theorem sgrOn_step (a : At) (l : List Int) (h : l ≠ []) : sgrOn a l = sgrOn (stepL a l).1 (l.drop (stepL a l).2) := by
  have := List.length_pos_iff.2 h
  have hp := (stepL_pos a l).1
  unfold sgrOn
  obtain ⟨n, hn⟩ : ∃ n, l.length = n + 1 := ⟨l.length - 1, by omega⟩
  rw [hn]
  simp only [goL, if_neg h]
  exact goL_more _ _ _ _ (by rw [List.length_drop]; omega) (by rw [List.length_drop]; omega)
theorem sgrL_cons (a : At) (n : Int) (l : List Int) : sgrL a (n :: l) = sgrOn a (n :: l) := rfl

/-- A number that takes no others along. -/
theorem sgrOn_plain (a : At) (n : Int) (l : List Int) (h1 : n ≠ 38) (h2 : n ≠ 48) : sgrOn a (n :: l) = sgrOn (changeL a n) l := by
  rw [sgrOn_step a (n :: l) (by simp)]
  simp [stepL, h1, h2]
theorem changeL_zero (a : At) : changeL a 0 = .z := rfl

theorem changeL_ok (a : At) (n : Int) (h : a.ok) : (changeL a n).ok := by
  obtain ⟨h1, h2, h3, h4⟩ := h
  unfold changeL
  repeat' split
  all_goals first
    | exact ⟨by decide, by decide, by decide, by decide⟩
    | exact ⟨h1, h2, h3, h4⟩
    | exact ⟨by simp only; omega, by simp only; omega, h3, h4⟩
    | exact ⟨h1, h2, by simp only; omega, by simp only; omega⟩
theorem chooseL_ok (c : Int) (l : List Int) (h1 : 0 ≤ c) (h2 : c ≤ 16) : 0 ≤ (chooseL c l).1 ∧ (chooseL c l).1 ≤ 16 := by
  unfold chooseL
  repeat' split
  all_goals simp only
  all_goals omega
theorem stepL_ok (a : At) (l : List Int) (h : a.ok) : (stepL a l).1.ok := by
  unfold stepL
  split
  · have := chooseL_ok a.fg l h.1 h.2.1
    exact ⟨this.1, this.2, h.2.2⟩
  split
  · have := chooseL_ok a.bg l h.2.2.1 h.2.2.2
    exact ⟨h.1, h.2.1, this⟩
  · exact changeL_ok a _ h
theorem goL_ok (n : Nat) : ∀ (a : At) (l : List Int), a.ok → (goL n a l).ok := by
  induction n with
  | zero => intro a l h; exact h
  | succ n ih =>
    intro a l h
    unfold goL
    split
    · exact h
    · exact ih _ _ (stepL_ok a l h)
theorem sgrL_ok (a : At) (l : List Int) (h : a.ok) : (sgrL a l).ok := by
  unfold sgrL
  split
  · exact ⟨by decide, by decide, by decide, by decide⟩
  · exact goL_ok _ _ _ h

/-- A 0 ends all that was ahead of it. -/
theorem sgrL_zero (a : At) (m : List Int) (h : m ≠ []) : sgrL a (0 :: m) = sgrL .z m := by
  rw [sgrL_cons, sgrOn_plain a 0 m (by decide) (by decide), changeL_zero, sgrL, if_neg h]
/-- One by one, where none takes others along. -/
theorem sgrL_one (a : At) (n : Int) (h1 : n ≠ 38) (h2 : n ≠ 48) : sgrL a [n] = changeL a n := by
  rw [sgrL_cons, sgrOn_plain a n [] h1 h2, sgrOn_nil]
theorem sgrOn_all (l : List Int) : ∀ (a : At), (∀ n ∈ l, n ≠ 38 ∧ n ≠ 48) → sgrOn a l = l.foldl (fun a n => sgrL a [n]) a := by
  induction l with
  | nil => intro a _; rfl
  | cons n r ih =>
    intro a h
    obtain ⟨h1, h2⟩ := h n (by simp)
    rw [sgrOn_plain a n r h1 h2, List.foldl_cons, sgrL_one a n h1 h2]
    exact ih _ (fun x hx => h x (by simp [hx]))

/-- A cell. -/
structure CellM where
  r : Int
  a : At
def CellM.v (c : CellM) : Value := .agg #[.int .i32 c.r, .int .i64 c.a.fg, .int .i64 c.a.bg, .bool c.a.b, .bool c.a.u, .bool c.a.i]
def CellM.z : CellM := ⟨0, .z⟩
/-- The marks, together in a byte. -/
def At.marks (a : At) : Nat := (if a.b = true then 1 else 0) + (if a.u = true then 2 else 0) + (if a.i = true then 4 else 0)
theorem At.marks_le (a : At) : a.marks ≤ 7 := by
  unfold At.marks
  repeat' split
  all_goals omega

end Go.Proofs.Ytbjdcbnmpmcdiaa
