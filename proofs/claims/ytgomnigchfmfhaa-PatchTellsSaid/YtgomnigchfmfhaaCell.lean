/- cell: Valid, color, change, choose. Own work. -/
import Derived.Test.YtgomnigchfmfhaaGrids
import Derived.Test.YtgomnigchfmfhaaBase
import Derived.Deep.CutRange
import Derived.Deep.RegionLaw
import Derived.Deep.Cut
namespace Go.Proofs.Ytgomnigchfmfhaa
set_option linter.unusedVariables false
set_option linter.unusedSimpArgs false
open Go.RowKit

set_option maxHeartbeats 800000 in
theorem cell_isColor (n : Int) (w : World) (r : Bool) (hr : decide (0 ≤ n ∧ n ≤ 16) = r) :
    Calls Try.prog 65 #[.int .i64 n] w fun e w' => e = .returned (.bool r) ∧ w' = w := by
  subst hr
  by_cases h1 : 0 ≤ n
  · by_cases h2 : n ≤ 16
    · rw [decide_eq_true (show 0 ≤ n ∧ n ≤ 16 from ⟨h1, h2⟩)]
      go_enter Try.func65, Try.ntmps65
      go_wp2_with fail
      go_ret
      exact ⟨rfl, rfl⟩
    · rw [decide_eq_false (show ¬ (0 ≤ n ∧ n ≤ 16) from fun x => h2 x.2)]
      go_enter Try.func65, Try.ntmps65
      go_wp2_with fail
      go_ret
      exact ⟨rfl, rfl⟩
  · rw [decide_eq_false (show ¬ (0 ≤ n ∧ n ≤ 16) from fun x => h1 x.1)]
    go_enter Try.func65, Try.ntmps65
    go_wp2_with fail
    go_ret
    exact ⟨rfl, rfl⟩

set_option maxHeartbeats 800000 in
theorem cell_valid (a : At) (w : World) (r : Bool) (hr : decide a.ok = r) :
    Calls Try.prog 51 #[a.v] w fun e w' => e = .returned (.bool r) ∧ Below w.heap.size w w' := by
  obtain ⟨f, g, b, u, i⟩ := a
  simp only [At.v]
  have hb : Hid (Below w.heap.size w (w.alloc (.cells #[.int .i64 f, .int .i64 g, .bool b, .bool u, .bool i] 38))) := (Below.refl _ w).alloc (Nat.le_refl _) _
  by_cases h1 : 0 ≤ f ∧ f ≤ 16
  · by_cases h2 : 0 ≤ g ∧ g ≤ 16
    · obtain rfl : r = true := by rw [← hr]; exact decide_eq_true ⟨h1.1, h1.2, h2.1, h2.2⟩
      have d1 := decide_eq_true h1
      have d2 := decide_eq_true h2
      clear hr h1 h2
      go_enter Try.func51, Try.ntmps51
      go_wp2_with fail
      refine (cell_isColor _ _ _ d1).mono ?_
      rintro e w1 ⟨rfl, rfl⟩
      go_wp2_with fail
      refine (cell_isColor _ _ _ d2).mono ?_
      rintro e w1 ⟨rfl, rfl⟩
      go_wp2_with fail
      go_ret
      exact ⟨rfl, hb.out⟩
    · obtain rfl : r = false := by rw [← hr]; exact decide_eq_false fun x => h2 x.2.2
      have d1 := decide_eq_true h1
      have d2 := decide_eq_false h2
      clear hr h1 h2
      go_enter Try.func51, Try.ntmps51
      go_wp2_with fail
      refine (cell_isColor _ _ _ d1).mono ?_
      rintro e w1 ⟨rfl, rfl⟩
      go_wp2_with fail
      refine (cell_isColor _ _ _ d2).mono ?_
      rintro e w1 ⟨rfl, rfl⟩
      go_wp2_with fail
      go_ret
      exact ⟨rfl, hb.out⟩
  · obtain rfl : r = false := by rw [← hr]; exact decide_eq_false fun x => h1 ⟨x.1, x.2.1⟩
    have d1 := decide_eq_false h1
    clear hr h1
    go_enter Try.func51, Try.ntmps51
    go_wp2_with fail
    refine (cell_isColor _ _ _ d1).mono ?_
    rintro e w1 ⟨rfl, rfl⟩
    go_wp2_with fail
    go_ret
    exact ⟨rfl, hb.out⟩

/-- Two blocks of five cells that were just laid. -/
theorem box5 (w : World) (x0 x1 x2 x3 x4 y0 y1 y2 y3 y4 : Value) (t1 t2 : TypeId) : Below w.heap.size w ((w.alloc (.cells #[x0, x1, x2, x3, x4] t1)).alloc (.cells #[y0, y1, y2, y3, y4] t2)) :=
  ((Below.refl w.heap.size w).alloc (Nat.le_refl _) _).alloc (by simp) _

def othN (n : Int) : Prop := (n == -1) = false ∧ (n == 0) = false ∧ (n == 1) = false ∧ (n == 22) = false ∧ (n == 4) = false ∧ (n == 24) = false ∧ (n == 7) = false ∧ (n == 27) = false
theorem oth_of {n : Int} (h : n ≠ -1 ∧ n ≠ 0 ∧ n ≠ 1 ∧ n ≠ 22 ∧ n ≠ 4 ∧ n ≠ 24 ∧ n ≠ 7 ∧ n ≠ 27) : othN n := by
  unfold othN
  simp only [beq_eq_false_iff_ne]
  exact h

end Go.Proofs.Ytgomnigchfmfhaa

