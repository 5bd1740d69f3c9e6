/- cell: Valid, color, change, choose. Own work. cell: choose, Sgr. Own work. -/
import Derived.Test.YtnminmaklbhakaaGreatDoorGrids
import Derived.Test.YtnminmaklbhakaaGreatDoorBase
import Derived.Deep.CutRange
import Derived.Deep.RegionLaw
import Derived.Deep.Cut
set_option linter.unusedVariables false
set_option linter.unusedSimpArgs false
namespace Go.Proofs.YtnminmaklbhakaaGreatDoor
set_option linter.unusedVariables false
set_option linter.unusedSimpArgs false
open Go.RowKit

set_option maxHeartbeats 800000 in
theorem cell_color (n : Int) (w : World) (c : Int) (o : Bool) (hr : colorL n = (c, o)) :
    Calls Tryz.prog 144 #[.int .i64 n] w fun e w' => e = .returned (.tuple #[.int .i64 c, .bool o]) ∧ w' = w := by
  have hc : (30 ≤ n ∧ n ≤ 37 ∧ c = n - 29 ∧ o = true) ∨ (90 ≤ n ∧ n ≤ 97 ∧ c = n - 81 ∧ o = true) ∨ (n = 39 ∧ c = 0 ∧ o = true) ∨ (n < 30 ∧ c = 0 ∧ o = false) ∨ (37 < n ∧ n < 90 ∧ n ≠ 39 ∧ c = 0 ∧ o = false) ∨ (97 < n ∧ c = 0 ∧ o = false) := by
    unfold colorL at hr
    repeat' split at hr
    all_goals
      injection hr with e1 e2
      subst e1 e2
      simp only [and_true, reduceCtorEq, and_false, or_false, false_or]
      omega
  clear hr
  rcases hc with ⟨h1, h2, rfl, rfl⟩ | ⟨h1, h2, rfl, rfl⟩ | ⟨rfl, rfl, rfl⟩ | ⟨h1, rfl, rfl⟩ | ⟨h1, h2, h3, rfl, rfl⟩ | ⟨h1, rfl, rfl⟩
  · go_enter Tryz.func144, Tryz.ntmps144
    go_wp2_with fail
    go_ret2
    exact ⟨by rw [show n - 30 + 1 = n - 29 by omega]; rfl, rfl⟩
  · have k1 : ¬ n ≤ 37 := by omega
    have k2 : 30 ≤ n := by omega
    go_enter Tryz.func144, Tryz.ntmps144
    go_wp2_with fail
    go_ret2
    exact ⟨by rw [show n - 90 + 9 = n - 81 by omega]; rfl, rfl⟩
  · go_enter Tryz.func144, Tryz.ntmps144
    go_wp2_with fail
    go_ret2
    exact ⟨rfl, rfl⟩
  · have k1 : ¬ 30 ≤ n := by omega
    have k2 : ¬ 90 ≤ n := by omega
    have k3 : (n == 39) = false := by simp; omega
    go_enter Tryz.func144, Tryz.ntmps144
    go_wp2_with fail
    go_ret2
    exact ⟨rfl, rfl⟩
  · have k0 : 30 ≤ n := by omega
    have k1 : ¬ n ≤ 37 := by omega
    have k2 : ¬ 90 ≤ n := by omega
    have k3 : (n == 39) = false := by simp; omega
    go_enter Tryz.func144, Tryz.ntmps144
    go_wp2_with fail
    go_ret2
    exact ⟨rfl, rfl⟩
  · have k0 : 30 ≤ n := by omega
    have k1 : ¬ n ≤ 37 := by omega
    have k2 : 90 ≤ n := by omega
    have k4 : ¬ n ≤ 97 := by omega
    have k3 : (n == 39) = false := by simp; omega
    go_enter Tryz.func144, Tryz.ntmps144
    go_wp2_with fail
    go_ret2
    exact ⟨rfl, rfl⟩

/-- Two blocks of five cells that were just laid. -/
theorem box5 (w : World) (x0 x1 x2 x3 x4 y0 y1 y2 y3 y4 : Value) (t1 t2 : TypeId) : Below w.heap.size w ((w.alloc (.cells #[x0, x1, x2, x3, x4] t1)).alloc (.cells #[y0, y1, y2, y3, y4] t2)) :=
  ((Below.refl w.heap.size w).alloc (Nat.le_refl _) _).alloc (by simp) _

def othN (n : Int) : Prop := (n == -1) = false ∧ (n == 0) = false ∧ (n == 1) = false ∧ (n == 22) = false ∧ (n == 4) = false ∧ (n == 24) = false ∧ (n == 7) = false ∧ (n == 27) = false
theorem oth_of {n : Int} (h : n ≠ -1 ∧ n ≠ 0 ∧ n ≠ 1 ∧ n ≠ 22 ∧ n ≠ 4 ∧ n ≠ 24 ∧ n ≠ 7 ∧ n ≠ 27) : othN n := by
  unfold othN
  simp only [beq_eq_false_iff_ne]
  exact h

set_option maxHeartbeats 3200000 in
theorem cell_change (a : At) (n : Int) (w : World) (hn1 : -9223372036854775808 ≤ n) (hn2 : n ≤ 9223372036854775807) :
    Calls Tryz.prog 131 #[a.v, .int .i64 n] w fun e w' => e = .returned (changeL a n).v ∧ Below w.heap.size w w' := by
  obtain ⟨m, hm1, hm2⟩ : ∃ m, wrap64 (n - 10) = m ∧ IntKind.i64.wrap (n - 10) = m := ⟨_, rfl, IntWalk.i64_left _⟩
  have hc : (n = -1) ∨ (n = 0) ∨ n = 1 ∨ n = 22 ∨ n = 4 ∨ n = 24 ∨ n = 7 ∨ n = 27 ∨ (30 ≤ n ∧ n ≤ 37) ∨ (90 ≤ n ∧ n ≤ 97) ∨ (40 ≤ n ∧ n ≤ 47) ∨ (100 ≤ n ∧ n ≤ 107) ∨ n = 39 ∨ n = 49 ∨
      ((n ≠ -1 ∧ n ≠ 0 ∧ n ≠ 1 ∧ n ≠ 22 ∧ n ≠ 4 ∧ n ≠ 24 ∧ n ≠ 7 ∧ n ≠ 27) ∧ ¬ (30 ≤ n ∧ n ≤ 37) ∧ ¬ (90 ≤ n ∧ n ≤ 97) ∧ ¬ (40 ≤ n ∧ n ≤ 47) ∧ ¬ (100 ≤ n ∧ n ≤ 107) ∧ n ≠ 39 ∧ n ≠ 49) := by omega
  obtain ⟨f, g, b, u, i⟩ := a
  rcases hc with rfl | rfl | rfl | rfl | rfl | rfl | rfl | rfl | h | h | h | h | rfl | rfl | ⟨h, k1, k2, k3, k4, k5, k6⟩
  iterate 2
    · clear hm1 hm2 hn1 hn2
      have e : changeL ⟨f, g, b, u, i⟩ 0 = .z ∧ changeL ⟨f, g, b, u, i⟩ (-1) = .z := ⟨rfl, rfl⟩
      simp only [e.1, e.2, At.v, At.z]
      clear e
      go_enter Tryz.func131, Tryz.ntmps131
      go_wp2_with fail
      refine bodyPost_ret (v := .agg #[.int .i64 _, .int .i64 _, .bool _, .bool _, .bool _]) (by simp [results, Tryz.results131, go_sem]) rfl ⟨rfl, ?_⟩
      repeat (first | exact box5 .. | (refine Below.setCell ?_ (by simp) _))
  iterate 6
    · obtain rfl : m = _ := hm1.symm
      clear hm1 hm2 hn1 hn2
      simp only [changeL, At.v, Int.reduceEq, Int.reduceNeg, or_self, or_false, or_true, false_or, true_or, if_true, if_false, reduceIte, reduceCtorEq]
      go_enter Tryz.func131, Tryz.ntmps131
      go_wp2_with fail
      refine (cell_color _ _ 0 false (by decide)).mono ?_
      rintro e w1 ⟨rfl, rfl⟩
      go_wp2_with fail
      refine (cell_color _ _ 0 false (by decide)).mono ?_
      rintro e w1 ⟨rfl, rfl⟩
      go_wp2_with fail
      refine bodyPost_ret (v := .agg #[.int .i64 _, .int .i64 _, .bool _, .bool _, .bool _]) (by simp [results, Tryz.results131, go_sem]) rfl ⟨rfl, ?_⟩
      repeat (first | exact box5 .. | (refine Below.setCell ?_ (by simp) _))
  · obtain ⟨q0, q1, q2, q3, q4, q5, q6, q7⟩ : othN n := oth_of (by omega)
    have e1 : colorL n = (n - 29, true) := by
      unfold colorL; repeat' split
      all_goals first | rfl | (exfalso; omega)
    have e2 : colorL m = (0, false) := by
      have hm : m = n - 10 := by rw [← hm1]; unfold wrap64; omega
      unfold colorL; repeat' split
      all_goals first | rfl | (exfalso; omega) | (simp only [Prod.mk.injEq, and_true]; omega)
    have e3 : changeL ⟨f, g, b, u, i⟩ n = ⟨n - 29, g, b, u, i⟩ := by
      unfold changeL
      repeat' split
      all_goals first | rfl | (exfalso; omega)
    rw [e3]
    have H1 := Lib.hid e1
    have H2 := Lib.hid e2
    clear e1 e2 e3 hn1 hn2
    simp only [At.v]
    go_enter Tryz.func131, Tryz.ntmps131
    go_wp2_with fail
    refine (cell_color _ _ _ _ H1.out).mono ?_
    rintro e w1 ⟨rfl, rfl⟩
    go_wp2_with fail
    (try simp only [hm1, hm2])
    refine (cell_color _ _ _ _ H2.out).mono ?_
    rintro e w1 ⟨rfl, rfl⟩
    go_wp2_with fail
    refine bodyPost_ret (v := .agg #[.int .i64 _, .int .i64 _, .bool _, .bool _, .bool _]) (by simp [results, Tryz.results131, go_sem]) rfl ⟨rfl, ?_⟩
    repeat (first | exact box5 .. | (refine Below.setCell ?_ (by simp) _))
  · obtain ⟨q0, q1, q2, q3, q4, q5, q6, q7⟩ : othN n := oth_of (by omega)
    have e1 : colorL n = (n - 81, true) := by
      unfold colorL; repeat' split
      all_goals first | rfl | (exfalso; omega)
    have e2 : colorL m = (0, false) := by
      have hm : m = n - 10 := by rw [← hm1]; unfold wrap64; omega
      unfold colorL; repeat' split
      all_goals first | rfl | (exfalso; omega) | (simp only [Prod.mk.injEq, and_true]; omega)
    have e3 : changeL ⟨f, g, b, u, i⟩ n = ⟨n - 81, g, b, u, i⟩ := by
      unfold changeL
      repeat' split
      all_goals first | rfl | (exfalso; omega)
    rw [e3]
    have H1 := Lib.hid e1
    have H2 := Lib.hid e2
    clear e1 e2 e3 hn1 hn2
    simp only [At.v]
    go_enter Tryz.func131, Tryz.ntmps131
    go_wp2_with fail
    refine (cell_color _ _ _ _ H1.out).mono ?_
    rintro e w1 ⟨rfl, rfl⟩
    go_wp2_with fail
    (try simp only [hm1, hm2])
    refine (cell_color _ _ _ _ H2.out).mono ?_
    rintro e w1 ⟨rfl, rfl⟩
    go_wp2_with fail
    refine bodyPost_ret (v := .agg #[.int .i64 _, .int .i64 _, .bool _, .bool _, .bool _]) (by simp [results, Tryz.results131, go_sem]) rfl ⟨rfl, ?_⟩
    repeat (first | exact box5 .. | (refine Below.setCell ?_ (by simp) _))
  · obtain ⟨q0, q1, q2, q3, q4, q5, q6, q7⟩ : othN n := oth_of (by omega)
    have e1 : colorL n = (0, false) := by
      unfold colorL; repeat' split
      all_goals first | rfl | (exfalso; omega)
    have e2 : colorL m = (n - 39, true) := by
      have hm : m = n - 10 := by rw [← hm1]; unfold wrap64; omega
      unfold colorL; repeat' split
      all_goals first | rfl | (exfalso; omega) | (simp only [Prod.mk.injEq, and_true]; omega)
    have e3 : changeL ⟨f, g, b, u, i⟩ n = ⟨f, n - 39, b, u, i⟩ := by
      unfold changeL
      repeat' split
      all_goals first | rfl | (exfalso; omega)
    rw [e3]
    have H1 := Lib.hid e1
    have H2 := Lib.hid e2
    clear e1 e2 e3 hn1 hn2
    simp only [At.v]
    go_enter Tryz.func131, Tryz.ntmps131
    go_wp2_with fail
    refine (cell_color _ _ _ _ H1.out).mono ?_
    rintro e w1 ⟨rfl, rfl⟩
    go_wp2_with fail
    (try simp only [hm1, hm2])
    refine (cell_color _ _ _ _ H2.out).mono ?_
    rintro e w1 ⟨rfl, rfl⟩
    go_wp2_with fail
    refine bodyPost_ret (v := .agg #[.int .i64 _, .int .i64 _, .bool _, .bool _, .bool _]) (by simp [results, Tryz.results131, go_sem]) rfl ⟨rfl, ?_⟩
    repeat (first | exact box5 .. | (refine Below.setCell ?_ (by simp) _))
  · obtain ⟨q0, q1, q2, q3, q4, q5, q6, q7⟩ : othN n := oth_of (by omega)
    have e1 : colorL n = (0, false) := by
      unfold colorL; repeat' split
      all_goals first | rfl | (exfalso; omega)
    have e2 : colorL m = (n - 91, true) := by
      have hm : m = n - 10 := by rw [← hm1]; unfold wrap64; omega
      unfold colorL; repeat' split
      all_goals first | rfl | (exfalso; omega) | (simp only [Prod.mk.injEq, and_true]; omega)
    have e3 : changeL ⟨f, g, b, u, i⟩ n = ⟨f, n - 91, b, u, i⟩ := by
      unfold changeL
      repeat' split
      all_goals first | rfl | (exfalso; omega)
    rw [e3]
    have H1 := Lib.hid e1
    have H2 := Lib.hid e2
    clear e1 e2 e3 hn1 hn2
    simp only [At.v]
    go_enter Tryz.func131, Tryz.ntmps131
    go_wp2_with fail
    refine (cell_color _ _ _ _ H1.out).mono ?_
    rintro e w1 ⟨rfl, rfl⟩
    go_wp2_with fail
    (try simp only [hm1, hm2])
    refine (cell_color _ _ _ _ H2.out).mono ?_
    rintro e w1 ⟨rfl, rfl⟩
    go_wp2_with fail
    refine bodyPost_ret (v := .agg #[.int .i64 _, .int .i64 _, .bool _, .bool _, .bool _]) (by simp [results, Tryz.results131, go_sem]) rfl ⟨rfl, ?_⟩
    repeat (first | exact box5 .. | (refine Below.setCell ?_ (by simp) _))
  · clear hm1 hm2 hn1 hn2
    simp only [changeL, At.v, Int.reduceEq, Int.reduceNeg, Int.reduceLE, and_false, false_and, or_self, or_false, or_true, false_or, true_or, if_true, if_false, reduceIte, reduceCtorEq, and_self, true_and, and_true]
    go_enter Tryz.func131, Tryz.ntmps131
    go_wp2_with fail
    refine (cell_color _ _ 0 true (by decide)).mono ?_
    rintro e w1 ⟨rfl, rfl⟩
    go_wp2_with fail
    refine (cell_color _ _ 0 false (by decide)).mono ?_
    rintro e w1 ⟨rfl, rfl⟩
    go_wp2_with fail
    refine bodyPost_ret (v := .agg #[.int .i64 _, .int .i64 _, .bool _, .bool _, .bool _]) (by simp [results, Tryz.results131, go_sem]) rfl ⟨rfl, ?_⟩
    repeat (first | exact box5 .. | (refine Below.setCell ?_ (by simp) _))
  · clear hm1 hm2 hn1 hn2
    simp only [changeL, At.v, Int.reduceEq, Int.reduceNeg, Int.reduceLE, and_false, false_and, or_self, or_false, or_true, false_or, true_or, if_true, if_false, reduceIte, reduceCtorEq, and_self, true_and, and_true]
    go_enter Tryz.func131, Tryz.ntmps131
    go_wp2_with fail
    refine (cell_color _ _ 0 false (by decide)).mono ?_
    rintro e w1 ⟨rfl, rfl⟩
    go_wp2_with fail
    refine (cell_color _ _ 0 true (by decide)).mono ?_
    rintro e w1 ⟨rfl, rfl⟩
    go_wp2_with fail
    refine bodyPost_ret (v := .agg #[.int .i64 _, .int .i64 _, .bool _, .bool _, .bool _]) (by simp [results, Tryz.results131, go_sem]) rfl ⟨rfl, ?_⟩
    repeat (first | exact box5 .. | (refine Below.setCell ?_ (by simp) _))
  · obtain ⟨q0, q1, q2, q3, q4, q5, q6, q7⟩ : othN n := oth_of (by omega)
    have e1 : colorL n = (0, false) := by
      unfold colorL; repeat' split
      all_goals first | rfl | (exfalso; omega)
    have e2 : colorL m = (0, false) := by
      have hm : m = n - 10 ∨ 1000 < m := by rw [← hm1]; unfold wrap64; omega
      unfold colorL; repeat' split
      all_goals first | rfl | (exfalso; omega) | (simp only [Prod.mk.injEq, and_true]; omega)
    have e3 : changeL ⟨f, g, b, u, i⟩ n = ⟨f, g, b, u, i⟩ := by
      unfold changeL
      repeat' split
      all_goals first | rfl | (exfalso; omega)
    rw [e3]
    have H1 := Lib.hid e1
    have H2 := Lib.hid e2
    clear e1 e2 e3 hn1 hn2
    simp only [At.v]
    go_enter Tryz.func131, Tryz.ntmps131
    go_wp2_with fail
    refine (cell_color _ _ _ _ H1.out).mono ?_
    rintro e w1 ⟨rfl, rfl⟩
    go_wp2_with fail
    (try simp only [hm1, hm2])
    refine (cell_color _ _ _ _ H2.out).mono ?_
    rintro e w1 ⟨rfl, rfl⟩
    go_wp2_with fail
    refine bodyPost_ret (v := .agg #[.int .i64 _, .int .i64 _, .bool _, .bool _, .bool _]) (by simp [results, Tryz.results131, go_sem]) rfl ⟨rfl, ?_⟩
    repeat (first | exact box5 .. | (refine Below.setCell ?_ (by simp) _))

end Go.Proofs.YtnminmaklbhakaaGreatDoor
namespace Go.Proofs.YtnminmaklbhakaaGreatDoor
set_option linter.unusedVariables false
set_option linter.unusedSimpArgs false
open Go.RowKit

set_option maxHeartbeats 1600000 in
theorem cell_choose (was : Int) (A : Option Addr) (n c : Nat) (xs : List Int) (w : World) (h : Src w A n (xs.map (Value.int .i64))) :
    Calls Tryz.prog 130 #[.int .i64 was, .slice A n c] w fun e w' => e = .returned (.tuple #[.int .i64 (chooseL was xs).1, .int .i64 ((chooseL was xs).2 : Nat)]) ∧ w' = w := by
  have hl : xs.length = n := by have := h.1; rwa [List.length_map] at this
  by_cases h2 : n < 2
  · have e : chooseL was xs = (was, 1) := by unfold chooseL; rw [if_pos (by omega)]
    rw [e]
    have h2' : (n : Int) < 2 := by omega
    clear e h hl h2
    go_enter Tryz.func130, Tryz.ntmps130
    go_wp2_with fail
    go_ret2
    exact ⟨rfl, rfl⟩
  · obtain ⟨b, off, rfl, hb, hc⟩ := h.2 (by omega)
    obtain ⟨y, hy⟩ : ∃ y, xs[1]? = some y := ⟨xs[1]'(by omega), List.getElem?_eq_getElem _⟩
    have c1 : w.cell? ⟨b, off + 1, none⟩ = some (.int .i64 y) := hc 1 _ (by rw [List.getElem?_map, hy]; rfl)
    have hg : xs.getD 1 0 = y := by rw [List.getD_eq_getElem?_getD, hy]; rfl
    have h2' : ¬ (n : Int) < 2 := by omega
    have h2n : (1 : Int) < (n : Int) := by omega
    by_cases h5 : y = 5
    · subst h5
      by_cases h3 : 2 < n
      · obtain ⟨z, hz⟩ : ∃ z, xs[2]? = some z := ⟨xs[2]'(by omega), List.getElem?_eq_getElem _⟩
        have c2 : w.cell? ⟨b, off + 2, none⟩ = some (.int .i64 z) := hc 2 _ (by rw [List.getElem?_map, hz]; rfl)
        have hgz : xs.getD 2 0 = z := by rw [List.getD_eq_getElem?_getD, hz]; rfl
        have h3' : (n : Int) > 2 := by omega
        have h3n : (2 : Int) < (n : Int) := by omega
        have e : chooseL was xs = if 0 ≤ z ∧ z ≤ 15 then (z + 1, 3) else (was, 3) := by
          unfold chooseL
          rw [if_neg (by omega), hg, if_pos rfl, hgz]
          have : 2 < xs.length := by omega
          simp only [this, true_and]
        rw [e]
        clear e hy hz hg hgz h hl hc h2 h3
        by_cases z1 : 0 ≤ z
        · by_cases z2 : z ≤ 15
          · rw [if_pos ⟨z1, z2⟩]
            go_enter Tryz.func130, Tryz.ntmps130
            go_wp2_with fail
            go_ret2
            exact ⟨rfl, rfl⟩
          · rw [if_neg (fun x => z2 x.2)]
            go_enter Tryz.func130, Tryz.ntmps130
            go_wp2_with fail
            go_ret2
            exact ⟨rfl, rfl⟩
        · rw [if_neg (fun x => z1 x.1)]
          go_enter Tryz.func130, Tryz.ntmps130
          go_wp2_with fail
          go_ret2
          exact ⟨rfl, rfl⟩
      · have h3' : ¬ (n : Int) > 2 := by omega
        have e : chooseL was xs = (was, 3) := by
          unfold chooseL
          rw [if_neg (by omega), hg, if_pos rfl, if_neg (by omega)]
        rw [e]
        clear e hy hg h hl hc h2 h3
        go_enter Tryz.func130, Tryz.ntmps130
        go_wp2_with fail
        go_ret2
        exact ⟨rfl, rfl⟩
    · have t5 : (y == 5) = false := by simpa using h5
      by_cases hy2 : y = 2
      · subst hy2
        have e : chooseL was xs = (was, 5) := by
          unfold chooseL
          rw [if_neg (by omega), hg, if_neg (by omega), if_pos rfl]
        rw [e]
        clear e hy hg h hl hc h2 h5
        go_enter Tryz.func130, Tryz.ntmps130
        go_wp2_with fail
        go_ret2
        exact ⟨rfl, rfl⟩
      · have t2 : (y == 2) = false := by simpa using hy2
        have e : chooseL was xs = (was, 1) := by
          unfold chooseL
          rw [if_neg (by omega), hg, if_neg h5, if_neg hy2]
        rw [e]
        clear e hy hg h hl hc h2 h5 hy2
        go_enter Tryz.func130, Tryz.ntmps130
        go_wp2_with fail
        go_ret2
        exact ⟨rfl, rfl⟩

/-- The numbers from the k-th on. -/
theorem src_drop {w : World} {A O : Option Addr} {n c q : Nat} {us : List Value} (h : Src w A n us) (hq : q ≤ n) (hc : n ≤ c) (hO : O = if c = q then A else A.map (·.add q)) : Src w O (n - q) (us.drop q) := by
  refine ⟨by rw [List.length_drop, h.1], fun h0 => ?_⟩
  obtain ⟨b, off, rfl, hb, hcs⟩ := h.2 (by omega)
  rw [if_neg (by omega)] at hO
  refine ⟨b, off + q, by rw [hO]; simp [add_mk], hb, fun i v hi => ?_⟩
  rw [List.getElem?_drop] at hi
  rw [Nat.add_assoc]
  exact hcs _ _ hi

def slLen : Value → Nat
  | .slice _ n _ => n
  | _ => 0

def attrO (a : At) : Obj := .cells #[.int .i64 a.fg, .int .i64 a.bg, .bool a.b, .bool a.u, .bool a.i] 43

set_option maxRecDepth 100000 in
set_option maxHeartbeats 3200000 in
theorem cell_sgr (a : At) (A : Option Addr) (n c : Nat) (xs : List Int) (w : World) (h : Src w A n (xs.map (Value.int .i64))) (hc : n ≤ c) (hn : n ≤ 1099511627776) (hb : ∀ x ∈ xs, -9223372036854775808 ≤ x ∧ x ≤ 9223372036854775807) :
    Calls Tryz.prog 104 #[a.v, .slice A n c] w fun e w' => e = .returned (sgrL a xs).v ∧ Below w.heap.size w w' := by
  have hl : xs.length = n := by have := h.1; rwa [List.length_map] at this
  by_cases h0 : n = 0
  · subst h0
    have : xs = [] := List.eq_nil_of_length_eq_zero hl
    subst this
    obtain ⟨f, g, b, u, i⟩ := a
    simp only [sgrL, if_true, At.v, At.z]
    clear h hl hc hn hb
    go_enter Tryz.func104, Tryz.ntmps104
    go_wp2_with fail
    refine bodyPost_ret (v := .agg #[.int .i64 _, .int .i64 _, .bool _, .bool _, .bool _]) (by simp [results, Tryz.results104, go_sem]) rfl ⟨rfl, ?_⟩
    repeat (first | exact box5 .. | (refine Below.setCell ?_ (by simp) _))
  · have hn0 : ((n : Int) == 0) = false := by simp; omega
    have H := Lib.hid h
    have HL := Lib.hid hl
    have HB := Lib.hid hb
    have HS : Hid (sgrL a xs = sgrOn a xs) := Lib.hid (by unfold sgrL; rw [if_neg (fun e => by rw [e] at hl; simp at hl; omega)])
    rw [HS.out]
    obtain ⟨f, g, b, u, i⟩ := a
    obtain ⟨p, hp⟩ : ∃ p, p = w.heap.size := ⟨_, rfl⟩
    have HP := Lib.hid hp
    have HAB : Hid (∀ i, blk A = some i → i < p) := Lib.hid (fun i hi => by obtain ⟨bb, off, rfl, hlt, _⟩ := h.2 (by omega); simp [blk] at hi; omega)
    clear h hl hb hp
    simp only [At.v]
    go_enter Tryz.func104, Tryz.ntmps104
    go_wp2_with fail
    rw [← HP.out]
    go_loopw [1] (fun s wr => ∃ (a1 : At) (m : Nat) (ys : List Int) (A1 : Option Addr) (c1 : Nat), s = .slice A1 m c1 ∧ m ≤ n ∧ m ≤ c1 ∧ Hid (Src wr A1 m (ys.map (Value.int .i64))) ∧ Hid (wr.heap[p]? = some (attrO a1)) ∧ Hid (wr.heap[p + 1]? = some (attrO .z)) ∧ Hid (Below p w wr) ∧ Hid (sgrOn ⟨f, g, b, u, i⟩ xs = sgrOn a1 ys) ∧ Hid (∀ x ∈ ys, -9223372036854775808 ≤ x ∧ x ≤ 9223372036854775807) ∧ Hid (∀ i, blk A1 = some i → i < p))
      (fun s _ => slLen s)
    case atStart =>
      refine ⟨⟨f, g, b, u, i⟩, n, xs, A, c, rfl, Nat.le_refl _, hc, ?_, ?_, ?_, ?_, rfl, HB, HAB⟩
      · exact (H.out.keep (((Keep.refl _ w).alloc _).alloc _))
      · show _ = _
        rw [HP.out]
        exact heap_alloc (heap_alloc_new w _) _
      · show _ = _
        have := heap_alloc_new (w.alloc (attrO ⟨f, g, b, u, i⟩)) (attrO .z)
        rw [show (w.alloc (attrO ⟨f, g, b, u, i⟩)).heap.size = p + 1 from by simp [HP.out]] at this
        exact this
      · show Below _ _ _
        rw [HP.out]
        exact box5 ..
    case round =>
      obtain ⟨a1, m, ys, A1, c1, rfl, hk, hkc, HX, HA, HZ, HW, HR, HY, HAP⟩ := hrel
      have hly := Lib.hid (show ys.length = m from by have := HX.out.1; rwa [List.length_map] at this)
      obtain ⟨f1, g1, b1, u1, i1⟩ := a1
      have d0 : wr.cell? ⟨p, 0, none⟩ = some (.int .i64 f1) := cell_at HA.out 0
      have d1 : wr.cell? ⟨p, 1, none⟩ = some (.int .i64 g1) := cell_at HA.out 1
      have d2 : wr.cell? ⟨p, 2, none⟩ = some (.bool b1) := cell_at HA.out 2
      have d3 : wr.cell? ⟨p, 3, none⟩ = some (.bool u1) := cell_at HA.out 3
      have d4 : wr.cell? ⟨p, 4, none⟩ = some (.bool i1) := cell_at HA.out 4
      have z0 : wr.cell? ⟨p + 1, 0, none⟩ = some (.int .i64 0) := cell_at HZ.out 0
      have z1 : wr.cell? ⟨p + 1, 1, none⟩ = some (.int .i64 0) := cell_at HZ.out 1
      have z2 : wr.cell? ⟨p + 1, 2, none⟩ = some (.bool false) := cell_at HZ.out 2
      have z3 : wr.cell? ⟨p + 1, 3, none⟩ = some (.bool false) := cell_at HZ.out 3
      have z4 : wr.cell? ⟨p + 1, 4, none⟩ = some (.bool false) := cell_at HZ.out 4
      have e0 := free_at HA.out 0
      have e1 := free_at HA.out 1
      have e2 := free_at HA.out 2
      have e3 := free_at HA.out 3
      have e4 := free_at HA.out 4
      have y0 := free_at HZ.out 0
      have y1 := free_at HZ.out 1
      have y2 := free_at HZ.out 2
      have y3 := free_at HZ.out 3
      have y4 := free_at HZ.out 4
      by_cases hm : 0 < m
      · obtain ⟨bb, off, rfl, hbb, hcs⟩ := HX.out.2 hm
        obtain ⟨x, hx⟩ : ∃ x, ys[0]? = some x := ⟨ys[0]'(by rw [hly.out]; exact hm), List.getElem?_eq_getElem _⟩
        have hcx : wr.cell? ⟨bb, off, none⟩ = some (.int .i64 x) := hcs 0 _ (by rw [List.getElem?_map, hx]; rfl)
        have hgx := Lib.hid (show ys.getD 0 0 = x from by rw [List.getD_eq_getElem?_getD, hx]; rfl)
        have hxb := HY.out x (List.mem_of_getElem? hx)
        have hm1 : (m : Int) > 0 := by omega
        have hbp : bb < p := HAP.out bb rfl
        have HNP : Hid (∀ (d i : Nat), blk (if c1 = d then (some ⟨bb, off, none⟩ : Option Addr) else some ⟨bb, off + d, none⟩) = some i → ¬ i = p) := Lib.hid (fun d i hi => by split at hi <;> simp [blk] at hi <;> omega)
        have HNB : Hid (∀ (d i : Nat), blk (if c1 = d then (some ⟨bb, off, none⟩ : Option Addr) else some ⟨bb, off + d, none⟩) = some i → i < p) := Lib.hid (fun d i hi => by split at hi <;> simp [blk] at hi <;> omega)
        clear hcs hx
        by_cases h38 : x = 38
        · subst h38
          obtain ⟨r, d, hch⟩ : ∃ r d, chooseL f1 ys = (r, d) := ⟨_, _, rfl⟩
          have HC := Lib.hid (hch ▸ cell_choose f1 (some ⟨bb, off, none⟩) m c1 ys wr HX.out)
          have hd := hch ▸ chooseL_pos f1 ys
          have hq : min (d : Int) (m : Int) = ((min d m : Nat) : Int) := by omega
          have hql : min d m ≤ m := by omega
          have hq0 : 0 < min d m := by omega
          have HST : Hid (sgrOn ⟨f1, g1, b1, u1, i1⟩ ys = sgrOn ⟨r, g1, b1, u1, i1⟩ (ys.drop (min d m))) := by
            show _ = _
            rw [sgrOn_step _ ys (fun e => by have := hly.out; rw [e] at this; simp at this; omega)]
            have e : stepL ⟨f1, g1, b1, u1, i1⟩ ys = (⟨r, g1, b1, u1, i1⟩, d) := by
              unfold stepL
              rw [hgx.out]
              simp [hch]
            rw [e]
            simp only
            by_cases hdm : d ≤ m
            · rw [Nat.min_eq_left hdm]
            · rw [Nat.min_eq_right (by omega), List.drop_of_length_le (by rw [hly.out]; omega), List.drop_of_length_le (by rw [hly.out]; omega)]
          clear hch
          go_wp2_with fail
          refine HC.out.mono ?_
          rintro e w1 ⟨rfl, rfl⟩
          go_wp2_with fail
          refine ⟨⟨⟨r, g1, b1, u1, i1⟩, m - min d m, ys.drop (min d m), _, c1 - min d m, rfl, by omega, by omega, ?_, ?_, ?_, ?_, ?_, ?_, ?_⟩, by simp only [slLen]; omega⟩
          · show Src _ _ _ _
            rw [List.map_drop]
            refine (src_drop HX.out hql hkc (O := if c1 = min d m then some ⟨bb, off, none⟩ else some ⟨bb, off + min d m, none⟩) (by simp [add_mk])).of_keep (S := (· = p)) (keep_set _ p 0 _) ?_
            exact HNP.out (min d m)
          · exact heap_set HA.out 0 _
          · exact heap_far HZ.out (show p + 1 ≠ p by omega) _
          · exact HW.out.setCell (by simp) _
          · exact HR.out.trans HST.out
          · exact fun x hx => HY.out x (List.mem_of_mem_drop hx)
          · exact HNB.out (min d m)
        · by_cases h48 : x = 48
          · subst h48
            obtain ⟨r, d, hch⟩ : ∃ r d, chooseL g1 ys = (r, d) := ⟨_, _, rfl⟩
            have HC := Lib.hid (hch ▸ cell_choose g1 (some ⟨bb, off, none⟩) m c1 ys wr HX.out)
            have hd := hch ▸ chooseL_pos g1 ys
            have hq : min (d : Int) (m : Int) = ((min d m : Nat) : Int) := by omega
            have hql : min d m ≤ m := by omega
            have hq0 : 0 < min d m := by omega
            have HST : Hid (sgrOn ⟨f1, g1, b1, u1, i1⟩ ys = sgrOn ⟨f1, r, b1, u1, i1⟩ (ys.drop (min d m))) := by
              show _ = _
              rw [sgrOn_step _ ys (fun e => by have := hly.out; rw [e] at this; simp at this; omega)]
              have e : stepL ⟨f1, g1, b1, u1, i1⟩ ys = (⟨f1, r, b1, u1, i1⟩, d) := by
                unfold stepL
                rw [hgx.out]
                simp [hch]
              rw [e]
              simp only
              by_cases hdm : d ≤ m
              · rw [Nat.min_eq_left hdm]
              · rw [Nat.min_eq_right (by omega), List.drop_of_length_le (by rw [hly.out]; omega), List.drop_of_length_le (by rw [hly.out]; omega)]
            clear hch
            go_wp2_with fail
            refine HC.out.mono ?_
            rintro e w1 ⟨rfl, rfl⟩
            go_wp2_with fail
            refine ⟨⟨⟨f1, r, b1, u1, i1⟩, m - min d m, ys.drop (min d m), _, c1 - min d m, rfl, by omega, by omega, ?_, ?_, ?_, ?_, ?_, ?_, ?_⟩, by simp only [slLen]; omega⟩
            · show Src _ _ _ _
              rw [List.map_drop]
              refine (src_drop HX.out hql hkc (O := if c1 = min d m then some ⟨bb, off, none⟩ else some ⟨bb, off + min d m, none⟩) (by simp [add_mk])).of_keep (S := (· = p)) (keep_set _ p 1 _) ?_
              exact HNP.out (min d m)
            · exact heap_set HA.out 1 _
            · exact heap_far HZ.out (show p + 1 ≠ p by omega) _
            · exact HW.out.setCell (by simp) _
            · exact HR.out.trans HST.out
            · exact fun x hx => HY.out x (List.mem_of_mem_drop hx)
            · exact HNB.out (min d m)
          · have t38 : (x == 38) = false := by simpa using h38
            have t48 : (x == 48) = false := by simpa using h48
            obtain ⟨⟨f2, g2, b2, u2, i2⟩, hch⟩ : ∃ a2, changeL ⟨f1, g1, b1, u1, i1⟩ x = a2 := ⟨_, rfl⟩
            have HC : Hid (∀ W, Calls Tryz.prog 131 #[.agg #[.int .i64 f1, .int .i64 g1, .bool b1, .bool u1, .bool i1], .int .i64 x] W fun e w' => e = .returned (.agg #[.int .i64 f2, .int .i64 g2, .bool b2, .bool u2, .bool i2]) ∧ Below W.heap.size W w') :=
              Lib.hid (fun W => by have := cell_change ⟨f1, g1, b1, u1, i1⟩ x W hxb.1 hxb.2; rw [hch] at this; exact this)
            have h1m : min (1 : Int) (m : Int) = 1 := by omega
            have hpl : p < wr.heap.size := lt_heap HA.out
            have HST : Hid (sgrOn ⟨f1, g1, b1, u1, i1⟩ ys = sgrOn ⟨f2, g2, b2, u2, i2⟩ (ys.drop 1)) := by
              show _ = _
              rw [sgrOn_step _ ys (fun e => by have := hly.out; rw [e] at this; simp at this; omega)]
              have e : stepL ⟨f1, g1, b1, u1, i1⟩ ys = (⟨f2, g2, b2, u2, i2⟩, 1) := by
                unfold stepL
                rw [hgx.out]
                simp [h38, h48, hch]
              rw [e]
            clear hch
            go_upto_region 6 with fail
            go_region_law (first | (go_simp; go_at_call 131; refine (HC.out _).mono ?_; rintro e w1 ⟨rfl, hbe⟩; have hb0 := (hbe.cell (p := ⟨p, 0, none⟩) hpl).trans d0; have hb1 := (hbe.cell (p := ⟨p, 1, none⟩) hpl).trans d1; have hb2 := (hbe.cell (p := ⟨p, 2, none⟩) hpl).trans d2; have hb3 := (hbe.cell (p := ⟨p, 3, none⟩) hpl).trans d3; have hb4 := (hbe.cell (p := ⟨p, 4, none⟩) hpl).trans d4; have hf0 := (hbe.frozen (p := ⟨p, 0, none⟩) hpl).trans e0; have hf1 := (hbe.frozen (p := ⟨p, 1, none⟩) hpl).trans e1; have hf2 := (hbe.frozen (p := ⟨p, 2, none⟩) hpl).trans e2; have hf3 := (hbe.frozen (p := ⟨p, 3, none⟩) hpl).trans e3; have hf4 := (hbe.frozen (p := ⟨p, 4, none⟩) hpl).trans e4) | fail)
            all_goals
              have HK : Hid (Keep (· = p) wr (((((w1.setCell ⟨p, 0, none⟩ (.int .i64 f2)).setCell ⟨p, 1, none⟩ (.int .i64 g2)).setCell ⟨p, 2, none⟩ (.bool b2)).setCell ⟨p, 3, none⟩ (.bool u2)).setCell ⟨p, 4, none⟩ (.bool i2))) :=
                Lib.hid ((((((⟨hbe.os, hbe.tape, hbe.output, hbe.size, fun i hi _ => hbe.block i hi⟩ : Keep (· = p) wr w1).own 0 _).own 1 _).own 2 _).own 3 _).own 4 _)
              have HA2 : Hid ((((((w1.setCell ⟨p, 0, none⟩ (.int .i64 f2)).setCell ⟨p, 1, none⟩ (.int .i64 g2)).setCell ⟨p, 2, none⟩ (.bool b2)).setCell ⟨p, 3, none⟩ (.bool u2)).setCell ⟨p, 4, none⟩ (.bool i2)).heap[p]? = some (attrO ⟨f2, g2, b2, u2, i2⟩)) :=
                Lib.hid (heap_set (heap_set (heap_set (heap_set (heap_set ((hbe.block p hpl).trans HA.out) 0 _) 1 _) 2 _) 3 _) 4 _)
              go_wp2_with fail
              refine ⟨⟨⟨f2, g2, b2, u2, i2⟩, m - 1, ys.drop 1, _, c1 - 1, rfl, by omega, by omega, ?_, HA2, ?_, ?_, ?_, ?_, ?_⟩, by simp only [slLen]; omega⟩
              · show Src _ _ _ _
                rw [List.map_drop]
                exact (src_drop HX.out hm hkc (O := if c1 = 1 then some ⟨bb, off, none⟩ else some ⟨bb, off + 1, none⟩) (by simp [add_mk])).of_keep HK.out (HNP.out 1)
              · exact HK.out.heap HZ.out (show p + 1 ≠ p by omega)
              · exact (HW.out).trans (HK.out.below (by omega) fun k hk e => by omega)
              · exact HR.out.trans HST.out
              · exact fun x hx => HY.out x (List.mem_of_mem_drop hx)
              · exact HNB.out 1
      · have hm0 : ¬ (m : Int) > 0 := by omega
        have hfin := HR.out
        have : ys = [] := List.eq_nil_of_length_eq_zero (by rw [hly.out]; omega)
        rw [this, sgrOn_nil] at hfin
        have HF := Lib.hid hfin
        clear hfin this
        have Z0 : Cell wr (p + 1) 0 _ := ⟨z0, y0⟩
        have Z1 : Cell wr (p + 1) 1 _ := ⟨z1, y1⟩
        have Z2 : Cell wr (p + 1) 2 _ := ⟨z2, y2⟩
        have Z3 : Cell wr (p + 1) 3 _ := ⟨z3, y3⟩
        have Z4 : Cell wr (p + 1) 4 _ := ⟨z4, y4⟩
        have s0 : ∀ v0, (wr.setCell ⟨p + 1, 0, none⟩ v0).cell? ⟨p + 1, 0, none⟩ = some v0 := fun v0 => (Z0.set v0).1
        have s1 : ∀ v0 v1, ((wr.setCell ⟨p + 1, 0, none⟩ v0).setCell ⟨p + 1, 1, none⟩ v1).cell? ⟨p + 1, 1, none⟩ = some v1 := fun v0 v1 => ((Z1.far (by omega) v0).set v1).1
        have s2 : ∀ v0 v1 v2, (((wr.setCell ⟨p + 1, 0, none⟩ v0).setCell ⟨p + 1, 1, none⟩ v1).setCell ⟨p + 1, 2, none⟩ v2).cell? ⟨p + 1, 2, none⟩ = some v2 := fun v0 v1 v2 => (((Z2.far (by omega) v0).far (by omega) v1).set v2).1
        have s3 : ∀ v0 v1 v2 v3, ((((wr.setCell ⟨p + 1, 0, none⟩ v0).setCell ⟨p + 1, 1, none⟩ v1).setCell ⟨p + 1, 2, none⟩ v2).setCell ⟨p + 1, 3, none⟩ v3).cell? ⟨p + 1, 3, none⟩ = some v3 := fun v0 v1 v2 v3 => ((((Z3.far (by omega) v0).far (by omega) v1).far (by omega) v2).set v3).1
        have s4 : ∀ v0 v1 v2 v3 v4, (((((wr.setCell ⟨p + 1, 0, none⟩ v0).setCell ⟨p + 1, 1, none⟩ v1).setCell ⟨p + 1, 2, none⟩ v2).setCell ⟨p + 1, 3, none⟩ v3).setCell ⟨p + 1, 4, none⟩ v4).cell? ⟨p + 1, 4, none⟩ = some v4 := fun v0 v1 v2 v3 v4 => (((((Z4.far (by omega) v0).far (by omega) v1).far (by omega) v2).far (by omega) v3).set v4).1
        have HS' := And.intro (Lib.hid s0) (And.intro (Lib.hid s1) (And.intro (Lib.hid s2) (And.intro (Lib.hid s3) (Lib.hid s4))))
        clear Z0 Z1 Z2 Z3 Z4 s0 s1 s2 s3 s4
        go_wp2_with fail
        refine bodyPost_ret (v := .agg #[.int .i64 f1, .int .i64 g1, .bool b1, .bool u1, .bool i1]) (by simp [results, Tryz.results104, go_sem, HS'.1.out, HS'.2.1.out, HS'.2.2.1.out, HS'.2.2.2.1.out, HS'.2.2.2.2.out]) rfl ⟨by rw [HF.out], ?_⟩
        rw [← HP.out]
        repeat (first | exact HW.out | (refine Below.setCell ?_ (by simp) _))

end Go.Proofs.YtnminmaklbhakaaGreatDoor

