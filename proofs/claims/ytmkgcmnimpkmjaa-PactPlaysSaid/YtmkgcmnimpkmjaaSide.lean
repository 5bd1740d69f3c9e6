/- Sides of options, told by a state and a bit: the contracts of opt.Side. Own work. -/
import Derived.Test.YtmkgcmnimpkmjaaBase
import Derived.Test.YtmkgcmnimpkmjaaChecked
import Derived.IntWalk
namespace Go.Proofs.Ytmkgcmnimpkmjaa
set_option linter.unusedVariables false
set_option linter.unusedSimpArgs false
open Go.RowKit

/-- A side as a value. -/
def sd (s : Int) (o : Bool) : Value := .agg #[.int .i64 s, .bool o]

/-- May a side be? -/
def validB (s : Int) (o : Bool) : Bool := decide (s = 0 ∨ s = 1) && !o || decide (s = 2 ∨ s = 3)

/-- The state behind what was heard; what is sent. -/
def heardOnL (s : Int) (o agree : Bool) : Int × Int :=
  if s = 0 then (if agree then (1, 1) else (0, -1)) else if s = 1 then (1, 0) else if s = 2 then (if o then (1, 0) else (0, 0)) else (if o then (2, -1) else (1, 0))
def heardOffL (s : Int) (o : Bool) : Int × Int :=
  if s = 0 then (0, 0) else if s = 1 then (0, -1) else if s = 2 then (if o then (3, 1) else (0, 0)) else (0, 0)
def heardL (s : Int) (o on agree : Bool) : Int × Int := if on then heardOnL s o agree else heardOffL s o

/-- The side behind what is wanted; what is sent. -/
def askL (s : Int) (o on : Bool) : Int × Bool × Int :=
  if s = 0 then (if on then (3, false, 1) else (0, o, 0)) else if s = 1 then (if on then (1, o, 0) else (2, false, -1)) else if s = 2 then (2, on, 0) else (3, !on, 0)

theorem valid_cases {s : Int} {o : Bool} (h : validB s o = true) : (s = 0 ∧ o = false) ∨ (s = 1 ∧ o = false) ∨ s = 2 ∨ s = 3 := by
  unfold validB at h
  cases o <;> simp at h ⊢ <;> omega

set_option maxHeartbeats 800000 in
theorem side_valid (s : Int) (o : Bool) (w : World) :
    Calls Try.prog 62 #[.agg #[.int .i64 s, .bool o]] w fun e w' => e = .returned (.bool (validB s o)) ∧ Below w.heap.size w w' := by
  by_cases h0 : s = 0
  · subst h0
    go_enter Try.func62, Try.ntmps62
    go_wp2_with fail
    go_ret
    exact ⟨by cases o <;> rfl, (Below.refl _ _).alloc (Nat.le_refl _) _⟩
  by_cases h1 : s = 1
  · subst h1
    go_enter Try.func62, Try.ntmps62
    go_wp2_with fail
    go_ret
    exact ⟨by cases o <;> rfl, (Below.refl _ _).alloc (Nat.le_refl _) _⟩
  by_cases h2 : s = 2
  · subst h2
    go_enter Try.func62, Try.ntmps62
    go_wp2_with fail
    go_ret
    exact ⟨by cases o <;> rfl, (Below.refl _ _).alloc (Nat.le_refl _) _⟩
  by_cases h3 : s = 3
  · subst h3
    go_enter Try.func62, Try.ntmps62
    go_wp2_with fail
    go_ret
    exact ⟨by cases o <;> rfl, (Below.refl _ _).alloc (Nat.le_refl _) _⟩
  have d0 : (s == 0) = false := by simpa using h0
  have d1 : (s == 1) = false := by simpa using h1
  have d2 : (s == 2) = false := by simpa using h2
  have d3 : (s == 3) = false := by simpa using h3
  have E := Lib.hid (show validB s o = false by unfold validB; simp [h0, h1, h2, h3])
  clear h0 h1 h2 h3
  go_enter Try.func62, Try.ntmps62
  go_wp2_with fail
  go_ret
  exact ⟨by rw [E.out]; rfl, (Below.refl _ _).alloc (Nat.le_refl _) _⟩

set_option maxHeartbeats 800000 in
theorem side_heardOn (s : Int) (o agree : Bool) (w : World) (h : validB s o = true) :
    Calls Try.prog 78 #[.agg #[.int .i64 s, .bool o], .bool agree] w fun e w' => e = .returned (.tuple #[.agg #[.int .i64 (heardOnL s o agree).1, .bool false], .int .i64 (heardOnL s o agree).2]) ∧ Below w.heap.size w w' := by
  rcases valid_cases h with ⟨rfl, rfl⟩ | ⟨rfl, rfl⟩ | rfl | rfl <;> clear h <;> cases agree <;> try cases o
  all_goals
    simp only [heardOnL, if_true, if_false, Int.reduceEq, Bool.false_eq_true]
    go_enter Try.func78, Try.ntmps78
    go_wp2_with fail
    refine bodyPost_ret (v := .tuple #[.agg #[.int .i64 _, .bool false], .int .i64 _]) (by simp [results, Try.results78, go_sem]) rfl ⟨rfl, ?_⟩
    repeat (first | exact Below.refl _ _ | (refine Below.setCell ?_ (by simp) _) | (refine Below.alloc ?_ (by simp) _))

set_option maxHeartbeats 800000 in
theorem side_heardOff (s : Int) (o : Bool) (w : World) (h : validB s o = true) :
    Calls Try.prog 79 #[.agg #[.int .i64 s, .bool o]] w fun e w' => e = .returned (.tuple #[.agg #[.int .i64 (heardOffL s o).1, .bool false], .int .i64 (heardOffL s o).2]) ∧ Below w.heap.size w w' := by
  rcases valid_cases h with ⟨rfl, rfl⟩ | ⟨rfl, rfl⟩ | rfl | rfl <;> clear h <;> try cases o
  all_goals
    simp only [heardOffL, if_true, if_false, Int.reduceEq, Bool.false_eq_true]
    go_enter Try.func79, Try.ntmps79
    go_wp2_with fail
    refine bodyPost_ret (v := .tuple #[.agg #[.int .i64 _, .bool false], .int .i64 _]) (by simp [results, Try.results79, go_sem]) rfl ⟨rfl, ?_⟩
    repeat (first | exact Below.refl _ _ | (refine Below.setCell ?_ (by simp) _) | (refine Below.alloc ?_ (by simp) _))

end Go.Proofs.Ytmkgcmnimpkmjaa
