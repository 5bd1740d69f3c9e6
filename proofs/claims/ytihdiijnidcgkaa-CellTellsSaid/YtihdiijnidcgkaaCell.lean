/- cell: Valid, color, change, choose. Own work. -/
import Derived.Test.YtihdiijnidcgkaaCellM
import Derived.Test.YtihdiijnidcgkaaBase
import Derived.Deep.CutRange
import Derived.Deep.RegionLaw
import Derived.Deep.Cut
namespace Go.Proofs.Ytihdiijnidcgkaa
set_option linter.unusedVariables false
set_option linter.unusedSimpArgs false
open Go.RowKit

set_option maxHeartbeats 800000 in
theorem cell_isColor (n : Int) (w : World) (r : Bool) (hr : decide (0 ≤ n ∧ n ≤ 16) = r) :
    Calls Try.prog 38 #[.int .i64 n] w fun e w' => e = .returned (.bool r) ∧ w' = w := by
  subst hr
  by_cases h1 : 0 ≤ n
  · by_cases h2 : n ≤ 16
    · rw [decide_eq_true (show 0 ≤ n ∧ n ≤ 16 from ⟨h1, h2⟩)]
      go_enter Try.func38, Try.ntmps38
      go_wp2_with fail
      go_ret
      exact ⟨rfl, rfl⟩
    · rw [decide_eq_false (show ¬ (0 ≤ n ∧ n ≤ 16) from fun x => h2 x.2)]
      go_enter Try.func38, Try.ntmps38
      go_wp2_with fail
      go_ret
      exact ⟨rfl, rfl⟩
  · rw [decide_eq_false (show ¬ (0 ≤ n ∧ n ≤ 16) from fun x => h1 x.1)]
    go_enter Try.func38, Try.ntmps38
    go_wp2_with fail
    go_ret
    exact ⟨rfl, rfl⟩

set_option maxHeartbeats 800000 in
theorem cell_valid (a : At) (w : World) (r : Bool) (hr : decide a.ok = r) :
    Calls Try.prog 15 #[a.v] w fun e w' => e = .returned (.bool r) ∧ Below w.heap.size w w' := by
  obtain ⟨f, g, b, u, i⟩ := a
  simp only [At.v]
  have hb : Hid (Below w.heap.size w (w.alloc (.cells #[.int .i64 f, .int .i64 g, .bool b, .bool u, .bool i] 23))) := (Below.refl _ w).alloc (Nat.le_refl _) _
  by_cases h1 : 0 ≤ f ∧ f ≤ 16
  · by_cases h2 : 0 ≤ g ∧ g ≤ 16
    · obtain rfl : r = true := by rw [← hr]; exact decide_eq_true ⟨h1.1, h1.2, h2.1, h2.2⟩
      have d1 := decide_eq_true h1
      have d2 := decide_eq_true h2
      clear hr h1 h2
      go_enter Try.func15, Try.ntmps15
      go_wp2_with fail
      refine (cell_isColor _ _ _ d1).mono ?_
      rintro e w1 ⟨rfl, rfl⟩
      go_wp2_with fail
      refine (cell_isColor _ _ _ d2).mono ?_
      rintro e w1 ⟨rfl, rfl⟩
      go_wp2_with fail
      go_ret
      exact ⟨rfl, hb.out⟩
    · obtain rfl : r = false := by rw [← hr]; exact decide_eq_false fun x => h2 x.2.2
      have d1 := decide_eq_true h1
      have d2 := decide_eq_false h2
      clear hr h1 h2
      go_enter Try.func15, Try.ntmps15
      go_wp2_with fail
      refine (cell_isColor _ _ _ d1).mono ?_
      rintro e w1 ⟨rfl, rfl⟩
      go_wp2_with fail
      refine (cell_isColor _ _ _ d2).mono ?_
      rintro e w1 ⟨rfl, rfl⟩
      go_wp2_with fail
      go_ret
      exact ⟨rfl, hb.out⟩
  · obtain rfl : r = false := by rw [← hr]; exact decide_eq_false fun x => h1 ⟨x.1, x.2.1⟩
    have d1 := decide_eq_false h1
    clear hr h1
    go_enter Try.func15, Try.ntmps15
    go_wp2_with fail
    refine (cell_isColor _ _ _ d1).mono ?_
    rintro e w1 ⟨rfl, rfl⟩
    go_wp2_with fail
    go_ret
    exact ⟨rfl, hb.out⟩

set_option maxHeartbeats 800000 in
theorem cell_color (n : Int) (w : World) (c : Int) (o : Bool) (hr : colorL n = (c, o)) :
    Calls Try.prog 53 #[.int .i64 n] w fun e w' => e = .returned (.tuple #[.int .i64 c, .bool o]) ∧ w' = w := by
  have hc : (30 ≤ n ∧ n ≤ 37 ∧ c = n - 29 ∧ o = true) ∨ (90 ≤ n ∧ n ≤ 97 ∧ c = n - 81 ∧ o = true) ∨ (n = 39 ∧ c = 0 ∧ o = true) ∨ (n < 30 ∧ c = 0 ∧ o = false) ∨ (37 < n ∧ n < 90 ∧ n ≠ 39 ∧ c = 0 ∧ o = false) ∨ (97 < n ∧ c = 0 ∧ o = false) := by
    unfold colorL at hr
    repeat' split at hr
    all_goals
      injection hr with e1 e2
      subst e1 e2
      simp only [and_true, reduceCtorEq, and_false, or_false, false_or]
      omega
  clear hr
  rcases hc with ⟨h1, h2, rfl, rfl⟩ | ⟨h1, h2, rfl, rfl⟩ | ⟨rfl, rfl, rfl⟩ | ⟨h1, rfl, rfl⟩ | ⟨h1, h2, h3, rfl, rfl⟩ | ⟨h1, rfl, rfl⟩
  · go_enter Try.func53, Try.ntmps53
    go_wp2_with fail
    go_ret2
    exact ⟨by rw [show n - 30 + 1 = n - 29 by omega]; rfl, rfl⟩
  · have k1 : ¬ n ≤ 37 := by omega
    have k2 : 30 ≤ n := by omega
    go_enter Try.func53, Try.ntmps53
    go_wp2_with fail
    go_ret2
    exact ⟨by rw [show n - 90 + 9 = n - 81 by omega]; rfl, rfl⟩
  · go_enter Try.func53, Try.ntmps53
    go_wp2_with fail
    go_ret2
    exact ⟨rfl, rfl⟩
  · have k1 : ¬ 30 ≤ n := by omega
    have k2 : ¬ 90 ≤ n := by omega
    have k3 : (n == 39) = false := by simp; omega
    go_enter Try.func53, Try.ntmps53
    go_wp2_with fail
    go_ret2
    exact ⟨rfl, rfl⟩
  · have k0 : 30 ≤ n := by omega
    have k1 : ¬ n ≤ 37 := by omega
    have k2 : ¬ 90 ≤ n := by omega
    have k3 : (n == 39) = false := by simp; omega
    go_enter Try.func53, Try.ntmps53
    go_wp2_with fail
    go_ret2
    exact ⟨rfl, rfl⟩
  · have k0 : 30 ≤ n := by omega
    have k1 : ¬ n ≤ 37 := by omega
    have k2 : 90 ≤ n := by omega
    have k4 : ¬ n ≤ 97 := by omega
    have k3 : (n == 39) = false := by simp; omega
    go_enter Try.func53, Try.ntmps53
    go_wp2_with fail
    go_ret2
    exact ⟨rfl, rfl⟩

/-- Two blocks of five cells that were just laid. -/
theorem box5 (w : World) (x0 x1 x2 x3 x4 y0 y1 y2 y3 y4 : Value) (t1 t2 : TypeId) : Below w.heap.size w ((w.alloc (.cells #[x0, x1, x2, x3, x4] t1)).alloc (.cells #[y0, y1, y2, y3, y4] t2)) :=
  ((Below.refl w.heap.size w).alloc (Nat.le_refl _) _).alloc (by simp) _

def othN (n : Int) : Prop := (n == -1) = false ∧ (n == 0) = false ∧ (n == 1) = false ∧ (n == 22) = false ∧ (n == 4) = false ∧ (n == 24) = false ∧ (n == 7) = false ∧ (n == 27) = false
theorem oth_of {n : Int} (h : n ≠ -1 ∧ n ≠ 0 ∧ n ≠ 1 ∧ n ≠ 22 ∧ n ≠ 4 ∧ n ≠ 24 ∧ n ≠ 7 ∧ n ≠ 27) : othN n := by
  unfold othN
  simp only [beq_eq_false_iff_ne]
  exact h

set_option maxHeartbeats 3200000 in
theorem cell_change (a : At) (n : Int) (w : World) (hn1 : -9223372036854775808 ≤ n) (hn2 : n ≤ 9223372036854775807) :
    Calls Try.prog 40 #[a.v, .int .i64 n] w fun e w' => e = .returned (changeL a n).v ∧ Below w.heap.size w w' := by
  obtain ⟨m, hm1, hm2⟩ : ∃ m, wrap64 (n - 10) = m ∧ IntKind.i64.wrap (n - 10) = m := ⟨_, rfl, IntWalk.i64_left _⟩
  have hc : (n = -1) ∨ (n = 0) ∨ n = 1 ∨ n = 22 ∨ n = 4 ∨ n = 24 ∨ n = 7 ∨ n = 27 ∨ (30 ≤ n ∧ n ≤ 37) ∨ (90 ≤ n ∧ n ≤ 97) ∨ (40 ≤ n ∧ n ≤ 47) ∨ (100 ≤ n ∧ n ≤ 107) ∨ n = 39 ∨ n = 49 ∨
      ((n ≠ -1 ∧ n ≠ 0 ∧ n ≠ 1 ∧ n ≠ 22 ∧ n ≠ 4 ∧ n ≠ 24 ∧ n ≠ 7 ∧ n ≠ 27) ∧ ¬ (30 ≤ n ∧ n ≤ 37) ∧ ¬ (90 ≤ n ∧ n ≤ 97) ∧ ¬ (40 ≤ n ∧ n ≤ 47) ∧ ¬ (100 ≤ n ∧ n ≤ 107) ∧ n ≠ 39 ∧ n ≠ 49) := by omega
  obtain ⟨f, g, b, u, i⟩ := a
  rcases hc with rfl | rfl | rfl | rfl | rfl | rfl | rfl | rfl | h | h | h | h | rfl | rfl | ⟨h, k1, k2, k3, k4, k5, k6⟩
  iterate 2
    · clear hm1 hm2 hn1 hn2
      have e : changeL ⟨f, g, b, u, i⟩ 0 = .z ∧ changeL ⟨f, g, b, u, i⟩ (-1) = .z := ⟨rfl, rfl⟩
      simp only [e.1, e.2, At.v, At.z]
      clear e
      go_enter Try.func40, Try.ntmps40
      go_wp2_with fail
      refine bodyPost_ret (v := .agg #[.int .i64 _, .int .i64 _, .bool _, .bool _, .bool _]) (by simp [results, Try.results40, go_sem]) rfl ⟨rfl, ?_⟩
      repeat (first | exact box5 .. | (refine Below.setCell ?_ (by simp) _))
  iterate 6
    · obtain rfl : m = _ := hm1.symm
      clear hm1 hm2 hn1 hn2
      simp only [changeL, At.v, Int.reduceEq, Int.reduceNeg, or_self, or_false, or_true, false_or, true_or, if_true, if_false, reduceIte, reduceCtorEq]
      go_enter Try.func40, Try.ntmps40
      go_wp2_with fail
      refine (cell_color _ _ 0 false (by decide)).mono ?_
      rintro e w1 ⟨rfl, rfl⟩
      go_wp2_with fail
      refine (cell_color _ _ 0 false (by decide)).mono ?_
      rintro e w1 ⟨rfl, rfl⟩
      go_wp2_with fail
      refine bodyPost_ret (v := .agg #[.int .i64 _, .int .i64 _, .bool _, .bool _, .bool _]) (by simp [results, Try.results40, go_sem]) rfl ⟨rfl, ?_⟩
      repeat (first | exact box5 .. | (refine Below.setCell ?_ (by simp) _))
  · obtain ⟨q0, q1, q2, q3, q4, q5, q6, q7⟩ : othN n := oth_of (by omega)
    have e1 : colorL n = (n - 29, true) := by
      unfold colorL; repeat' split
      all_goals first | rfl | (exfalso; omega)
    have e2 : colorL m = (0, false) := by
      have hm : m = n - 10 := by rw [← hm1]; unfold wrap64; omega
      unfold colorL; repeat' split
      all_goals first | rfl | (exfalso; omega) | (simp only [Prod.mk.injEq, and_true]; omega)
    have e3 : changeL ⟨f, g, b, u, i⟩ n = ⟨n - 29, g, b, u, i⟩ := by
      unfold changeL
      repeat' split
      all_goals first | rfl | (exfalso; omega)
    rw [e3]
    have H1 := Lib.hid e1
    have H2 := Lib.hid e2
    clear e1 e2 e3 hn1 hn2
    simp only [At.v]
    go_enter Try.func40, Try.ntmps40
    go_wp2_with fail
    refine (cell_color _ _ _ _ H1.out).mono ?_
    rintro e w1 ⟨rfl, rfl⟩
    go_wp2_with fail
    (try simp only [hm1, hm2])
    refine (cell_color _ _ _ _ H2.out).mono ?_
    rintro e w1 ⟨rfl, rfl⟩
    go_wp2_with fail
    refine bodyPost_ret (v := .agg #[.int .i64 _, .int .i64 _, .bool _, .bool _, .bool _]) (by simp [results, Try.results40, go_sem]) rfl ⟨rfl, ?_⟩
    repeat (first | exact box5 .. | (refine Below.setCell ?_ (by simp) _))
  · obtain ⟨q0, q1, q2, q3, q4, q5, q6, q7⟩ : othN n := oth_of (by omega)
    have e1 : colorL n = (n - 81, true) := by
      unfold colorL; repeat' split
      all_goals first | rfl | (exfalso; omega)
    have e2 : colorL m = (0, false) := by
      have hm : m = n - 10 := by rw [← hm1]; unfold wrap64; omega
      unfold colorL; repeat' split
      all_goals first | rfl | (exfalso; omega) | (simp only [Prod.mk.injEq, and_true]; omega)
    have e3 : changeL ⟨f, g, b, u, i⟩ n = ⟨n - 81, g, b, u, i⟩ := by
      unfold changeL
      repeat' split
      all_goals first | rfl | (exfalso; omega)
    rw [e3]
    have H1 := Lib.hid e1
    have H2 := Lib.hid e2
    clear e1 e2 e3 hn1 hn2
    simp only [At.v]
    go_enter Try.func40, Try.ntmps40
    go_wp2_with fail
    refine (cell_color _ _ _ _ H1.out).mono ?_
    rintro e w1 ⟨rfl, rfl⟩
    go_wp2_with fail
    (try simp only [hm1, hm2])
    refine (cell_color _ _ _ _ H2.out).mono ?_
    rintro e w1 ⟨rfl, rfl⟩
    go_wp2_with fail
    refine bodyPost_ret (v := .agg #[.int .i64 _, .int .i64 _, .bool _, .bool _, .bool _]) (by simp [results, Try.results40, go_sem]) rfl ⟨rfl, ?_⟩
    repeat (first | exact box5 .. | (refine Below.setCell ?_ (by simp) _))
  · obtain ⟨q0, q1, q2, q3, q4, q5, q6, q7⟩ : othN n := oth_of (by omega)
    have e1 : colorL n = (0, false) := by
      unfold colorL; repeat' split
      all_goals first | rfl | (exfalso; omega)
    have e2 : colorL m = (n - 39, true) := by
      have hm : m = n - 10 := by rw [← hm1]; unfold wrap64; omega
      unfold colorL; repeat' split
      all_goals first | rfl | (exfalso; omega) | (simp only [Prod.mk.injEq, and_true]; omega)
    have e3 : changeL ⟨f, g, b, u, i⟩ n = ⟨f, n - 39, b, u, i⟩ := by
      unfold changeL
      repeat' split
      all_goals first | rfl | (exfalso; omega)
    rw [e3]
    have H1 := Lib.hid e1
    have H2 := Lib.hid e2
    clear e1 e2 e3 hn1 hn2
    simp only [At.v]
    go_enter Try.func40, Try.ntmps40
    go_wp2_with fail
    refine (cell_color _ _ _ _ H1.out).mono ?_
    rintro e w1 ⟨rfl, rfl⟩
    go_wp2_with fail
    (try simp only [hm1, hm2])
    refine (cell_color _ _ _ _ H2.out).mono ?_
    rintro e w1 ⟨rfl, rfl⟩
    go_wp2_with fail
    refine bodyPost_ret (v := .agg #[.int .i64 _, .int .i64 _, .bool _, .bool _, .bool _]) (by simp [results, Try.results40, go_sem]) rfl ⟨rfl, ?_⟩
    repeat (first | exact box5 .. | (refine Below.setCell ?_ (by simp) _))
  · obtain ⟨q0, q1, q2, q3, q4, q5, q6, q7⟩ : othN n := oth_of (by omega)
    have e1 : colorL n = (0, false) := by
      unfold colorL; repeat' split
      all_goals first | rfl | (exfalso; omega)
    have e2 : colorL m = (n - 91, true) := by
      have hm : m = n - 10 := by rw [← hm1]; unfold wrap64; omega
      unfold colorL; repeat' split
      all_goals first | rfl | (exfalso; omega) | (simp only [Prod.mk.injEq, and_true]; omega)
    have e3 : changeL ⟨f, g, b, u, i⟩ n = ⟨f, n - 91, b, u, i⟩ := by
      unfold changeL
      repeat' split
      all_goals first | rfl | (exfalso; omega)
    rw [e3]
    have H1 := Lib.hid e1
    have H2 := Lib.hid e2
    clear e1 e2 e3 hn1 hn2
    simp only [At.v]
    go_enter Try.func40, Try.ntmps40
    go_wp2_with fail
    refine (cell_color _ _ _ _ H1.out).mono ?_
    rintro e w1 ⟨rfl, rfl⟩
    go_wp2_with fail
    (try simp only [hm1, hm2])
    refine (cell_color _ _ _ _ H2.out).mono ?_
    rintro e w1 ⟨rfl, rfl⟩
    go_wp2_with fail
    refine bodyPost_ret (v := .agg #[.int .i64 _, .int .i64 _, .bool _, .bool _, .bool _]) (by simp [results, Try.results40, go_sem]) rfl ⟨rfl, ?_⟩
    repeat (first | exact box5 .. | (refine Below.setCell ?_ (by simp) _))
  · clear hm1 hm2 hn1 hn2
    simp only [changeL, At.v, Int.reduceEq, Int.reduceNeg, Int.reduceLE, and_false, false_and, or_self, or_false, or_true, false_or, true_or, if_true, if_false, reduceIte, reduceCtorEq, and_self, true_and, and_true]
    go_enter Try.func40, Try.ntmps40
    go_wp2_with fail
    refine (cell_color _ _ 0 true (by decide)).mono ?_
    rintro e w1 ⟨rfl, rfl⟩
    go_wp2_with fail
    refine (cell_color _ _ 0 false (by decide)).mono ?_
    rintro e w1 ⟨rfl, rfl⟩
    go_wp2_with fail
    refine bodyPost_ret (v := .agg #[.int .i64 _, .int .i64 _, .bool _, .bool _, .bool _]) (by simp [results, Try.results40, go_sem]) rfl ⟨rfl, ?_⟩
    repeat (first | exact box5 .. | (refine Below.setCell ?_ (by simp) _))
  · clear hm1 hm2 hn1 hn2
    simp only [changeL, At.v, Int.reduceEq, Int.reduceNeg, Int.reduceLE, and_false, false_and, or_self, or_false, or_true, false_or, true_or, if_true, if_false, reduceIte, reduceCtorEq, and_self, true_and, and_true]
    go_enter Try.func40, Try.ntmps40
    go_wp2_with fail
    refine (cell_color _ _ 0 false (by decide)).mono ?_
    rintro e w1 ⟨rfl, rfl⟩
    go_wp2_with fail
    refine (cell_color _ _ 0 true (by decide)).mono ?_
    rintro e w1 ⟨rfl, rfl⟩
    go_wp2_with fail
    refine bodyPost_ret (v := .agg #[.int .i64 _, .int .i64 _, .bool _, .bool _, .bool _]) (by simp [results, Try.results40, go_sem]) rfl ⟨rfl, ?_⟩
    repeat (first | exact box5 .. | (refine Below.setCell ?_ (by simp) _))
  · obtain ⟨q0, q1, q2, q3, q4, q5, q6, q7⟩ : othN n := oth_of (by omega)
    have e1 : colorL n = (0, false) := by
      unfold colorL; repeat' split
      all_goals first | rfl | (exfalso; omega)
    have e2 : colorL m = (0, false) := by
      have hm : m = n - 10 ∨ 1000 < m := by rw [← hm1]; unfold wrap64; omega
      unfold colorL; repeat' split
      all_goals first | rfl | (exfalso; omega) | (simp only [Prod.mk.injEq, and_true]; omega)
    have e3 : changeL ⟨f, g, b, u, i⟩ n = ⟨f, g, b, u, i⟩ := by
      unfold changeL
      repeat' split
      all_goals first | rfl | (exfalso; omega)
    rw [e3]
    have H1 := Lib.hid e1
    have H2 := Lib.hid e2
    clear e1 e2 e3 hn1 hn2
    simp only [At.v]
    go_enter Try.func40, Try.ntmps40
    go_wp2_with fail
    refine (cell_color _ _ _ _ H1.out).mono ?_
    rintro e w1 ⟨rfl, rfl⟩
    go_wp2_with fail
    (try simp only [hm1, hm2])
    refine (cell_color _ _ _ _ H2.out).mono ?_
    rintro e w1 ⟨rfl, rfl⟩
    go_wp2_with fail
    refine bodyPost_ret (v := .agg #[.int .i64 _, .int .i64 _, .bool _, .bool _, .bool _]) (by simp [results, Try.results40, go_sem]) rfl ⟨rfl, ?_⟩
    repeat (first | exact box5 .. | (refine Below.setCell ?_ (by simp) _))

end Go.Proofs.Ytihdiijnidcgkaa
