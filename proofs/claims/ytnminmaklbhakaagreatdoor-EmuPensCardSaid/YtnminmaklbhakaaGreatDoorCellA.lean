/- cell: Blank, the document's ValidAttr and Blank; the law's alive. Own work. -/
import Derived.Test.YtnminmaklbhakaaGreatDoorCellSs
namespace Go.Proofs.YtnminmaklbhakaaGreatDoor
set_option linter.unusedVariables false
set_option linter.unusedSimpArgs false
open Go.RowKit

theorem below_box (w : World) (o : Obj) : Below w.heap.size w (w.alloc o) := (Below.refl _ w).alloc (Nat.le_refl _) _

theorem own_newone (w : World) (u : Value) (e : TypeId) {g B : Nat} (hg : g = w.heap.size) (hB : B ≤ g) : (w.alloc (.cells #[u] e)).ownsRow B e 1 (.slice (some ⟨g, 0, none⟩) 1 1) 1 [u] := by
  subst hg
  exact ⟨rfl, .inr ⟨w.heap.size, 1, #[u], rfl, hB, heap_alloc_new w _, by omega, by unfold maxLen; omega, by simp, by simp⟩⟩

set_option maxHeartbeats 800000 in
theorem cell_blank (a : At) (w : World) :
    Calls Tryz.prog 48 #[a.v] w fun e w' => e = .returned (CellM.v ⟨32, ⟨0, a.bg, false, false, false⟩⟩) ∧ Below w.heap.size w w' := by
  obtain ⟨f, g, b, u, i⟩ := a
  simp only [At.v, CellM.v]
  go_enter Tryz.func48, Tryz.ntmps48
  go_wp2_with fail
  refine bodyPost_ret (v := .agg #[.int .i32 32, .int .i64 0, .int .i64 g, .bool false, .bool false, .bool false]) (by simp [results, Tryz.results48, go_sem]) rfl ⟨rfl, ?_⟩
  repeat (first | exact Below.refl _ _ | (refine Below.setCell ?_ (by simp) _) | (refine Below.alloc ?_ (by simp) _))

set_option maxHeartbeats 800000 in
theorem ref_blank (a : At) (w : World) :
    Calls Tryz.prog 15 #[a.v] w fun e w' => e = .returned (CellM.v ⟨32, ⟨0, a.bg, false, false, false⟩⟩) ∧ Below w.heap.size w w' := by
  obtain ⟨f, g, b, u, i⟩ := a
  simp only [At.v, CellM.v]
  go_enter Tryz.func15, Tryz.ntmps15
  go_wp2_with fail
  refine bodyPost_ret (v := .agg #[.int .i32 32, .int .i64 0, .int .i64 g, .bool false, .bool false, .bool false]) (by simp [results, Tryz.results15, go_sem]) rfl ⟨rfl, ?_⟩
  repeat (first | exact Below.refl _ _ | (refine Below.setCell ?_ (by simp) _) | (refine Below.alloc ?_ (by simp) _))

set_option maxHeartbeats 800000 in
theorem ref_valid (a : At) (w : World) (r : Bool) (hr : decide a.ok = r) :
    Calls Tryz.prog 31 #[a.v] w fun e w' => e = .returned (.bool r) ∧ Below w.heap.size w w' := by
  obtain ⟨f, g, b, u, i⟩ := a
  simp only [At.v]
  have hc : (0 ≤ f ∧ f ≤ 16 ∧ 0 ≤ g ∧ g ≤ 16 ∧ r = true) ∨ (¬ 0 ≤ f ∧ r = false) ∨ (0 ≤ f ∧ ¬ f ≤ 16 ∧ r = false) ∨ (0 ≤ f ∧ f ≤ 16 ∧ ¬ 0 ≤ g ∧ r = false) ∨ (0 ≤ f ∧ f ≤ 16 ∧ 0 ≤ g ∧ ¬ g ≤ 16 ∧ r = false) := by
    cases r
    · have := of_decide_eq_false hr
      simp only [At.ok] at this
      simp only [reduceCtorEq, and_false, and_true, or_false, false_or]
      omega
    · have := of_decide_eq_true hr
      simp only [At.ok] at this
      simp only [reduceCtorEq, and_false, and_true, or_false, false_or]
      omega
  clear hr
  rcases hc with ⟨h1, h2, h3, h4, rfl⟩ | ⟨h1, rfl⟩ | ⟨h1, h2, rfl⟩ | ⟨h1, h2, h3, rfl⟩ | ⟨h1, h2, h3, h4, rfl⟩
  all_goals
    go_enter Tryz.func31, Tryz.ntmps31
    go_wp2_with fail
    go_ret
    exact ⟨rfl, below_box ..⟩

theorem sgr_alive : sgrL .z [1, 31] = ⟨2, 0, true, false, false⟩ := rfl

end Go.Proofs.YtnminmaklbhakaaGreatDoor

