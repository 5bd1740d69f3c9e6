/- The document's may, value. Own work. -/
import Derived.Test.YtoihadjboeeglaaUtfA
import Derived.Deep.CutRange
namespace Go.Proofs.Ytoihadjboeeglaa
set_option linter.unusedVariables false
set_option linter.unusedSimpArgs false
open Go.RowKit

/-- Bytes as the program's. -/
def bsU (B : List Nat) : List Value := B.map fun n : Nat => Value.int .u8 (n : Int)

/-- May x stand at place j of those behind c? -/
def contAt (c j x : Nat) : Prop := if j = 0 then secLo c ≤ x ∧ x ≤ secHi c else 128 ≤ x ∧ x ≤ 191

theorem contB_iff (c : Nat) (r : List Nat) : contB c r = true ↔ ∀ j x, r[j]? = some x → contAt c j x := by
  cases r with
  | nil => simp [contB]
  | cons b r =>
    simp only [contB, Bool.and_eq_true, decide_eq_true_eq, List.all_eq_true]
    constructor
    · rintro ⟨h1, h2⟩ j x hj
      rcases j with _ | j
      · simp at hj; subst hj; simpa [contAt] using h1
      · simp at hj; simpa [contAt] using h2 x (List.mem_of_getElem? hj)
    · intro h
      refine ⟨by simpa [contAt] using h 0 b rfl, fun x hx => ?_⟩
      obtain ⟨j, hj⟩ := List.mem_iff_getElem?.1 hx
      simpa [contAt] using h (j + 1) x (by simpa using hj)

theorem mayB_good {c : Nat} {r : List Nat} (h1 : 194 ≤ c) (h2 : c ≤ 244) (h : contB c r = true) : mayB (c :: r) = (true, decide (r.length = moreB c)) := by
  rw [mayB_two c h1 h2, h]; rfl
theorem mayB_not {c : Nat} {r : List Nat} (h1 : 194 ≤ c) (h2 : c ≤ 244) (h : contB c r = false) : mayB (c :: r) = (false, false) := by
  rw [mayB_two c h1 h2, h]; rfl

theorem src_at {w : World} {A : Option Addr} {n : Nat} {us : List Value} (h : Src w A n us) (h0 : 0 < n) : ∃ b off, A = some ⟨b, off, none⟩ ∧ ∀ i u, us[i]? = some u → w.cell? ⟨b, off + i, none⟩ = some u := by
  obtain ⟨b, off, e, _, hc⟩ := h.2 h0
  exact ⟨b, off, e, hc⟩

set_option maxRecDepth 100000 in
set_option maxHeartbeats 1600000 in
theorem may_low (A : Option Addr) (n cap c : Nat) (r : List Nat) (w : World) (h : Src w A n (bsU (c :: r))) (hn : n ≤ 4) (hc : c < 128) :
    Calls Try.prog 65 #[.slice A n cap] w fun e w' => e = .returned (.tuple #[.bool (mayB (c :: r)).1, .bool (mayB (c :: r)).2]) ∧ w' = w := by
  have hln : r.length + 1 = n := by have := h.1; simpa [bsU] using this
  obtain ⟨b, off, rfl, hcs⟩ := src_at h (by omega)
  have c0 : w.cell? ⟨b, off, none⟩ = some (.int .u8 (c : Int)) := hcs 0 _ rfl
  have hcl : (c : Int) < 128 := by omega
  have hn0 : (0 : Int) < (n : Int) := by omega
  have hn1 : 0 < n := by omega
  have hm : mayB (c :: r) = (true, decide (r.length = 0)) := by simp only [mayB, if_pos hc]
  have hd : ((n : Int) == 1) = decide (r.length = 0) := by rw [Bool.eq_iff_iff]; simp only [beq_iff_eq, decide_eq_true_eq]; omega
  rw [hm]
  obtain ⟨z, hz⟩ : ∃ z, decide (r.length = 0) = z := ⟨_, rfl⟩
  rw [hz] at hd ⊢
  clear hcs h hm hz hln hc
  go_enter Try.func65, Try.ntmps65
  go_wp2_with fail
  go_ret2
  exact ⟨rfl, rfl⟩

set_option maxRecDepth 100000 in
set_option maxHeartbeats 1600000 in
theorem may_none (A : Option Addr) (n cap c : Nat) (r : List Nat) (w : World) (h : Src w A n (bsU (c :: r))) (hn : n ≤ 4) (hc : (128 ≤ c ∧ c < 194) ∨ 244 < c) :
    Calls Try.prog 65 #[.slice A n cap] w fun e w' => e = .returned (.tuple #[.bool (mayB (c :: r)).1, .bool (mayB (c :: r)).2]) ∧ w' = w := by
  have hln : r.length + 1 = n := by have := h.1; simpa [bsU] using this
  obtain ⟨b, off, rfl, hcs⟩ := src_at h (by omega)
  have c0 : w.cell? ⟨b, off, none⟩ = some (.int .u8 (c : Int)) := hcs 0 _ rfl
  have hn0 : (0 : Int) < (n : Int) := by omega
  have hn1 : 0 < n := by omega
  have hm : mayB (c :: r) = (false, false) := by simp only [mayB, if_neg (show ¬ c < 128 by omega), if_neg (show ¬ (194 ≤ c ∧ c ≤ 244) by omega)]
  rw [hm]
  have k0 : ¬ (c : Int) < 128 := by omega
  rcases hc with hc | hc
  · have k1 : ¬ (194 : Int) ≤ (c : Int) := by omega
    have k2 : ¬ (224 : Int) ≤ (c : Int) := by omega
    have k3 : ¬ (240 : Int) ≤ (c : Int) := by omega
    clear hcs h hm hln hc
    go_enter Try.func65, Try.ntmps65
    go_wp2_with fail
    go_ret2
    exact ⟨rfl, rfl⟩
  · have k1 : (194 : Int) ≤ (c : Int) := by omega
    have k2 : (224 : Int) ≤ (c : Int) := by omega
    have k3 : (240 : Int) ≤ (c : Int) := by omega
    have k4 : ¬ (c : Int) ≤ 223 := by omega
    have k5 : ¬ (c : Int) ≤ 239 := by omega
    have k6 : ¬ (c : Int) ≤ 244 := by omega
    clear hcs h hm hln hc
    go_enter Try.func65, Try.ntmps65
    go_wp2_with fail
    go_ret2
    exact ⟨rfl, rfl⟩

set_option maxRecDepth 100000 in
set_option maxHeartbeats 3200000 in
theorem may_a (A : Option Addr) (n cap c : Nat) (r : List Nat) (w : World) (h : Src w A n (bsU (c :: r))) (hn : n ≤ 4) (hc1 : 194 ≤ c) (hc2 : c ≤ 223) :
    Calls Try.prog 65 #[.slice A n cap] w fun e w' => e = .returned (.tuple #[.bool (mayB (c :: r)).1, .bool (mayB (c :: r)).2]) ∧ w' = w := by
  have hln : r.length + 1 = n := by have := h.1; simpa [bsU] using this
  obtain ⟨b, off, rfl, hcs⟩ := src_at h (by omega)
  have c0 : w.cell? ⟨b, off, none⟩ = some (.int .u8 (c : Int)) := hcs 0 _ rfl
  have hn0 : (0 : Int) < (n : Int) := by omega
  have hn1 : 0 < n := by omega
  have HM : Hid (moreB c = 1) := Lib.hid (by unfold moreB; repeat (first | rw [if_pos (by omega)] | rw [if_neg (by omega)]))
  have HLO : Hid (secLo c = 128) := Lib.hid (by unfold secLo; repeat (first | rw [if_pos (by omega)] | rw [if_neg (by omega)]))
  have HHI : Hid (secHi c = 191) := Lib.hid (by unfold secHi; repeat (first | rw [if_pos (by omega)] | rw [if_neg (by omega)]))
  have HLN := Lib.hid hln
  have HCS : Hid (∀ k x : Nat, (c :: r)[k]? = some x → w.cell? ⟨b, off + k, none⟩ = some (.int .u8 (x : Int))) := Lib.hid (fun k x hx => hcs k _ (by unfold bsU; rw [List.getElem?_map, hx]; rfl))
  have HC : Hid (194 ≤ c ∧ c ≤ 244) := Lib.hid (by omega)
  have k0 : ¬ (c : Int) < 128 := by omega
  have j0 : (194 : Int) ≤ (c : Int) := by omega
  have j1 : (c : Int) ≤ 223 := by omega
  clear h hcs hln
  clear hc1 hc2
  go_enter Try.func65, Try.ntmps65
  go_wp2_with fail
  go_loop [8] (fun i => ∃ k : Nat, i = .int .i64 (k : Int) ∧ 1 ≤ k ∧ k ≤ n ∧ Hid (∀ j x, j + 1 < k → r[j]? = some x → contAt c j x)) (fun i => n - (intOf i).toNat)
  case atStart => exact ⟨1, rfl, by omega, by omega, Lib.hid (fun j x hj => by omega)⟩
  case round =>
    obtain ⟨k, rfl, hk1, hk, HI⟩ := hrel
    by_cases hlt : k < n
    · obtain ⟨x, hx⟩ : ∃ x, r[k - 1]? = some x := ⟨r[k - 1]'(by have := HLN.out; omega), List.getElem?_eq_getElem _⟩
      have hcx := HCS.out k x (by rw [show k = (k - 1) + 1 from by omega, List.getElem?_cons_succ]; exact hx)
      have hki : ((k : Int) < (n : Int)) := by omega
      have hk0 : (0 : Int) ≤ (k : Int) := by omega
      have HX := Lib.hid hx
      have HOK : Hid (contAt c (k - 1) x → ∀ j y, j + 1 < k + 1 → r[j]? = some y → contAt c j y) := Lib.hid (fun e j y hj hy => by
        by_cases ej : j = k - 1
        · subst ej
          rw [HX.out] at hy; injection hy with hy; subst hy; exact e
        · exact HI.out j y (by omega) hy)
      have HBAD : Hid (¬ contAt c (k - 1) x → mayB (c :: r) = (false, false)) := Lib.hid (fun e => mayB_not HC.out.1 HC.out.2 (by
        rw [← Bool.not_eq_true]
        intro hb
        exact e ((contB_iff c r).1 hb _ _ HX.out)))
      clear hx
      by_cases e1 : k = 1
      · have hd : ((k : Int) == 1) = true := by simp; omega
        have HCA : Hid (contAt c (k - 1) x ↔ (128 ≤ x ∧ x ≤ 191)) := Lib.hid (by unfold contAt; rw [if_pos (by omega), HLO.out, HHI.out])
        clear e1
        by_cases e2 : x < 128
        · have t1 : (x : Int) < 128 := by omega
          have HB := Lib.hid (HBAD.out (by rw [HCA.out]; omega))
          clear e2
          go_wp2_with fail
          go_ret2
          exact ⟨by rw [HB.out]; rfl, rfl⟩
        by_cases e3 : x ≤ 191
        · have t1 : ¬ (x : Int) < 128 := by omega
          have t2 : ¬ (x : Int) > 191 := by omega
          have t3 : ¬ (x : Int) < 128 := by omega
          have t4 : ¬ (x : Int) > 191 := by omega
          have HG := Lib.hid (HOK.out (HCA.out.2 (by omega)))
          clear e2 e3
          go_wp2_with fail
          go_round
          case rel => exact ⟨k + 1, by go_num, by omega, by omega, HG⟩
          case measure => simp [intOf]; omega
        · have t1 : ¬ (x : Int) < 128 := by omega
          have t2 : (x : Int) > 191 := by omega
          have HB := Lib.hid (HBAD.out (by rw [HCA.out]; omega))
          clear e2 e3
          go_wp2_with fail
          go_ret2
          exact ⟨by rw [HB.out]; rfl, rfl⟩
      · have hd : ((k : Int) == 1) = false := by simp; omega
        have HCA : Hid (contAt c (k - 1) x ↔ (128 ≤ x ∧ x ≤ 191)) := Lib.hid (by unfold contAt; rw [if_neg (by omega)])
        clear e1
        by_cases e2 : x < 128
        · have t1 : (x : Int) < 128 := by omega
          have HB := Lib.hid (HBAD.out (by rw [HCA.out]; omega))
          clear e2
          go_wp2_with fail
          go_ret2
          exact ⟨by rw [HB.out]; rfl, rfl⟩
        by_cases e3 : x ≤ 191
        · have t3 : ¬ (x : Int) < 128 := by omega
          have t4 : ¬ (x : Int) > 191 := by omega
          have HG := Lib.hid (HOK.out (HCA.out.2 (by omega)))
          clear e2 e3
          go_wp2_with fail
          go_round
          case rel => exact ⟨k + 1, by go_num, by omega, by omega, HG⟩
          case measure => simp [intOf]; omega
        · have t1 : ¬ (x : Int) < 128 := by omega
          have t2 : (x : Int) > 191 := by omega
          have HB := Lib.hid (HBAD.out (by rw [HCA.out]; omega))
          clear e2 e3
          go_wp2_with fail
          go_ret2
          exact ⟨by rw [HB.out]; rfl, rfl⟩
    · have HG : Hid (mayB (c :: r) = (true, decide (r.length = 1))) := Lib.hid (by
        have e := mayB_good HC.out.1 HC.out.2 ((contB_iff c r).2 (fun j x hj => HI.out j x (by
          have := (List.getElem?_eq_some_iff.1 hj).1
          have := HLN.out
          omega) hj))
        rw [HM.out] at e; exact e)
      have hd : ((n : Int) == 2) = decide (r.length = 1) := by have := HLN.out; rw [Bool.eq_iff_iff]; simp only [beq_iff_eq, decide_eq_true_eq]; omega
      obtain ⟨z, hz⟩ : ∃ z, decide (r.length = 1) = z := ⟨_, rfl⟩
      rw [hz] at hd HG
      clear hz
      go_wp2_with fail
      go_ret2
      exact ⟨by rw [HG.out]; rfl, rfl⟩


set_option maxRecDepth 100000 in
set_option maxHeartbeats 3200000 in
theorem may_b (A : Option Addr) (n cap c : Nat) (r : List Nat) (w : World) (h : Src w A n (bsU (c :: r))) (hn : n ≤ 4) (hc1 : c = 224) :
    Calls Try.prog 65 #[.slice A n cap] w fun e w' => e = .returned (.tuple #[.bool (mayB (c :: r)).1, .bool (mayB (c :: r)).2]) ∧ w' = w := by
  have hln : r.length + 1 = n := by have := h.1; simpa [bsU] using this
  obtain ⟨b, off, rfl, hcs⟩ := src_at h (by omega)
  have c0 : w.cell? ⟨b, off, none⟩ = some (.int .u8 (c : Int)) := hcs 0 _ rfl
  have hn0 : (0 : Int) < (n : Int) := by omega
  have hn1 : 0 < n := by omega
  have HM : Hid (moreB c = 2) := Lib.hid (by unfold moreB; repeat (first | rw [if_pos (by omega)] | rw [if_neg (by omega)]))
  have HLO : Hid (secLo c = 160) := Lib.hid (by unfold secLo; repeat (first | rw [if_pos (by omega)] | rw [if_neg (by omega)]))
  have HHI : Hid (secHi c = 191) := Lib.hid (by unfold secHi; repeat (first | rw [if_pos (by omega)] | rw [if_neg (by omega)]))
  have HLN := Lib.hid hln
  have HCS : Hid (∀ k x : Nat, (c :: r)[k]? = some x → w.cell? ⟨b, off + k, none⟩ = some (.int .u8 (x : Int))) := Lib.hid (fun k x hx => hcs k _ (by unfold bsU; rw [List.getElem?_map, hx]; rfl))
  have HC : Hid (194 ≤ c ∧ c ≤ 244) := Lib.hid (by omega)
  clear h hcs hln
  subst hc1
  go_enter Try.func65, Try.ntmps65
  go_wp2_with fail
  go_loop [8] (fun i => ∃ k : Nat, i = .int .i64 (k : Int) ∧ 1 ≤ k ∧ k ≤ n ∧ Hid (∀ j x, j + 1 < k → r[j]? = some x → contAt 224 j x)) (fun i => n - (intOf i).toNat)
  case atStart => exact ⟨1, rfl, by omega, by omega, Lib.hid (fun j x hj => by omega)⟩
  case round =>
    obtain ⟨k, rfl, hk1, hk, HI⟩ := hrel
    by_cases hlt : k < n
    · obtain ⟨x, hx⟩ : ∃ x, r[k - 1]? = some x := ⟨r[k - 1]'(by have := HLN.out; omega), List.getElem?_eq_getElem _⟩
      have hcx := HCS.out k x (by rw [show k = (k - 1) + 1 from by omega, List.getElem?_cons_succ]; exact hx)
      have hki : ((k : Int) < (n : Int)) := by omega
      have hk0 : (0 : Int) ≤ (k : Int) := by omega
      have HX := Lib.hid hx
      have HOK : Hid (contAt 224 (k - 1) x → ∀ j y, j + 1 < k + 1 → r[j]? = some y → contAt 224 j y) := Lib.hid (fun e j y hj hy => by
        by_cases ej : j = k - 1
        · subst ej
          rw [HX.out] at hy; injection hy with hy; subst hy; exact e
        · exact HI.out j y (by omega) hy)
      have HBAD : Hid (¬ contAt 224 (k - 1) x → mayB (224 :: r) = (false, false)) := Lib.hid (fun e => mayB_not HC.out.1 HC.out.2 (by
        rw [← Bool.not_eq_true]
        intro hb
        exact e ((contB_iff 224 r).1 hb _ _ HX.out)))
      clear hx
      by_cases e1 : k = 1
      · have hd : ((k : Int) == 1) = true := by simp; omega
        have HCA : Hid (contAt 224 (k - 1) x ↔ (160 ≤ x ∧ x ≤ 191)) := Lib.hid (by unfold contAt; rw [if_pos (by omega), HLO.out, HHI.out])
        clear e1
        by_cases e2 : x < 160
        · have t1 : (x : Int) < 160 := by omega
          have HB := Lib.hid (HBAD.out (by rw [HCA.out]; omega))
          clear e2
          go_wp2_with fail
          go_ret2
          exact ⟨by rw [HB.out]; rfl, rfl⟩
        by_cases e3 : x ≤ 191
        · have t1 : ¬ (x : Int) < 160 := by omega
          have t2 : ¬ (x : Int) > 191 := by omega
          have t3 : ¬ (x : Int) < 128 := by omega
          have t4 : ¬ (x : Int) > 191 := by omega
          have HG := Lib.hid (HOK.out (HCA.out.2 (by omega)))
          clear e2 e3
          go_wp2_with fail
          go_round
          case rel => exact ⟨k + 1, by go_num, by omega, by omega, HG⟩
          case measure => simp [intOf]; omega
        · have t1 : ¬ (x : Int) < 160 := by omega
          have t2 : (x : Int) > 191 := by omega
          have HB := Lib.hid (HBAD.out (by rw [HCA.out]; omega))
          clear e2 e3
          go_wp2_with fail
          go_ret2
          exact ⟨by rw [HB.out]; rfl, rfl⟩
      · have hd : ((k : Int) == 1) = false := by simp; omega
        have HCA : Hid (contAt 224 (k - 1) x ↔ (128 ≤ x ∧ x ≤ 191)) := Lib.hid (by unfold contAt; rw [if_neg (by omega)])
        clear e1
        by_cases e2 : x < 128
        · have t1 : (x : Int) < 128 := by omega
          have HB := Lib.hid (HBAD.out (by rw [HCA.out]; omega))
          clear e2
          go_wp2_with fail
          go_ret2
          exact ⟨by rw [HB.out]; rfl, rfl⟩
        by_cases e3 : x ≤ 191
        · have t3 : ¬ (x : Int) < 128 := by omega
          have t4 : ¬ (x : Int) > 191 := by omega
          have HG := Lib.hid (HOK.out (HCA.out.2 (by omega)))
          clear e2 e3
          go_wp2_with fail
          go_round
          case rel => exact ⟨k + 1, by go_num, by omega, by omega, HG⟩
          case measure => simp [intOf]; omega
        · have t1 : ¬ (x : Int) < 128 := by omega
          have t2 : (x : Int) > 191 := by omega
          have HB := Lib.hid (HBAD.out (by rw [HCA.out]; omega))
          clear e2 e3
          go_wp2_with fail
          go_ret2
          exact ⟨by rw [HB.out]; rfl, rfl⟩
    · have HG : Hid (mayB (224 :: r) = (true, decide (r.length = 2))) := Lib.hid (by
        have e := mayB_good HC.out.1 HC.out.2 ((contB_iff 224 r).2 (fun j x hj => HI.out j x (by
          have := (List.getElem?_eq_some_iff.1 hj).1
          have := HLN.out
          omega) hj))
        rw [HM.out] at e; exact e)
      have hd : ((n : Int) == 3) = decide (r.length = 2) := by have := HLN.out; rw [Bool.eq_iff_iff]; simp only [beq_iff_eq, decide_eq_true_eq]; omega
      obtain ⟨z, hz⟩ : ∃ z, decide (r.length = 2) = z := ⟨_, rfl⟩
      rw [hz] at hd HG
      clear hz
      go_wp2_with fail
      go_ret2
      exact ⟨by rw [HG.out]; rfl, rfl⟩


set_option maxRecDepth 100000 in
set_option maxHeartbeats 3200000 in
theorem may_c (A : Option Addr) (n cap c : Nat) (r : List Nat) (w : World) (h : Src w A n (bsU (c :: r))) (hn : n ≤ 4) (hc1 : c = 237) :
    Calls Try.prog 65 #[.slice A n cap] w fun e w' => e = .returned (.tuple #[.bool (mayB (c :: r)).1, .bool (mayB (c :: r)).2]) ∧ w' = w := by
  have hln : r.length + 1 = n := by have := h.1; simpa [bsU] using this
  obtain ⟨b, off, rfl, hcs⟩ := src_at h (by omega)
  have c0 : w.cell? ⟨b, off, none⟩ = some (.int .u8 (c : Int)) := hcs 0 _ rfl
  have hn0 : (0 : Int) < (n : Int) := by omega
  have hn1 : 0 < n := by omega
  have HM : Hid (moreB c = 2) := Lib.hid (by unfold moreB; repeat (first | rw [if_pos (by omega)] | rw [if_neg (by omega)]))
  have HLO : Hid (secLo c = 128) := Lib.hid (by unfold secLo; repeat (first | rw [if_pos (by omega)] | rw [if_neg (by omega)]))
  have HHI : Hid (secHi c = 159) := Lib.hid (by unfold secHi; repeat (first | rw [if_pos (by omega)] | rw [if_neg (by omega)]))
  have HLN := Lib.hid hln
  have HCS : Hid (∀ k x : Nat, (c :: r)[k]? = some x → w.cell? ⟨b, off + k, none⟩ = some (.int .u8 (x : Int))) := Lib.hid (fun k x hx => hcs k _ (by unfold bsU; rw [List.getElem?_map, hx]; rfl))
  have HC : Hid (194 ≤ c ∧ c ≤ 244) := Lib.hid (by omega)
  clear h hcs hln
  subst hc1
  go_enter Try.func65, Try.ntmps65
  go_wp2_with fail
  go_loop [8] (fun i => ∃ k : Nat, i = .int .i64 (k : Int) ∧ 1 ≤ k ∧ k ≤ n ∧ Hid (∀ j x, j + 1 < k → r[j]? = some x → contAt 237 j x)) (fun i => n - (intOf i).toNat)
  case atStart => exact ⟨1, rfl, by omega, by omega, Lib.hid (fun j x hj => by omega)⟩
  case round =>
    obtain ⟨k, rfl, hk1, hk, HI⟩ := hrel
    by_cases hlt : k < n
    · obtain ⟨x, hx⟩ : ∃ x, r[k - 1]? = some x := ⟨r[k - 1]'(by have := HLN.out; omega), List.getElem?_eq_getElem _⟩
      have hcx := HCS.out k x (by rw [show k = (k - 1) + 1 from by omega, List.getElem?_cons_succ]; exact hx)
      have hki : ((k : Int) < (n : Int)) := by omega
      have hk0 : (0 : Int) ≤ (k : Int) := by omega
      have HX := Lib.hid hx
      have HOK : Hid (contAt 237 (k - 1) x → ∀ j y, j + 1 < k + 1 → r[j]? = some y → contAt 237 j y) := Lib.hid (fun e j y hj hy => by
        by_cases ej : j = k - 1
        · subst ej
          rw [HX.out] at hy; injection hy with hy; subst hy; exact e
        · exact HI.out j y (by omega) hy)
      have HBAD : Hid (¬ contAt 237 (k - 1) x → mayB (237 :: r) = (false, false)) := Lib.hid (fun e => mayB_not HC.out.1 HC.out.2 (by
        rw [← Bool.not_eq_true]
        intro hb
        exact e ((contB_iff 237 r).1 hb _ _ HX.out)))
      clear hx
      by_cases e1 : k = 1
      · have hd : ((k : Int) == 1) = true := by simp; omega
        have HCA : Hid (contAt 237 (k - 1) x ↔ (128 ≤ x ∧ x ≤ 159)) := Lib.hid (by unfold contAt; rw [if_pos (by omega), HLO.out, HHI.out])
        clear e1
        by_cases e2 : x < 128
        · have t1 : (x : Int) < 128 := by omega
          have HB := Lib.hid (HBAD.out (by rw [HCA.out]; omega))
          clear e2
          go_wp2_with fail
          go_ret2
          exact ⟨by rw [HB.out]; rfl, rfl⟩
        by_cases e3 : x ≤ 159
        · have t1 : ¬ (x : Int) < 128 := by omega
          have t2 : ¬ (x : Int) > 159 := by omega
          have t3 : ¬ (x : Int) < 128 := by omega
          have t4 : ¬ (x : Int) > 191 := by omega
          have HG := Lib.hid (HOK.out (HCA.out.2 (by omega)))
          clear e2 e3
          go_wp2_with fail
          go_round
          case rel => exact ⟨k + 1, by go_num, by omega, by omega, HG⟩
          case measure => simp [intOf]; omega
        · have t1 : ¬ (x : Int) < 128 := by omega
          have t2 : (x : Int) > 159 := by omega
          have HB := Lib.hid (HBAD.out (by rw [HCA.out]; omega))
          clear e2 e3
          go_wp2_with fail
          go_ret2
          exact ⟨by rw [HB.out]; rfl, rfl⟩
      · have hd : ((k : Int) == 1) = false := by simp; omega
        have HCA : Hid (contAt 237 (k - 1) x ↔ (128 ≤ x ∧ x ≤ 191)) := Lib.hid (by unfold contAt; rw [if_neg (by omega)])
        clear e1
        by_cases e2 : x < 128
        · have t1 : (x : Int) < 128 := by omega
          have HB := Lib.hid (HBAD.out (by rw [HCA.out]; omega))
          clear e2
          go_wp2_with fail
          go_ret2
          exact ⟨by rw [HB.out]; rfl, rfl⟩
        by_cases e3 : x ≤ 191
        · have t3 : ¬ (x : Int) < 128 := by omega
          have t4 : ¬ (x : Int) > 191 := by omega
          have HG := Lib.hid (HOK.out (HCA.out.2 (by omega)))
          clear e2 e3
          go_wp2_with fail
          go_round
          case rel => exact ⟨k + 1, by go_num, by omega, by omega, HG⟩
          case measure => simp [intOf]; omega
        · have t1 : ¬ (x : Int) < 128 := by omega
          have t2 : (x : Int) > 191 := by omega
          have HB := Lib.hid (HBAD.out (by rw [HCA.out]; omega))
          clear e2 e3
          go_wp2_with fail
          go_ret2
          exact ⟨by rw [HB.out]; rfl, rfl⟩
    · have HG : Hid (mayB (237 :: r) = (true, decide (r.length = 2))) := Lib.hid (by
        have e := mayB_good HC.out.1 HC.out.2 ((contB_iff 237 r).2 (fun j x hj => HI.out j x (by
          have := (List.getElem?_eq_some_iff.1 hj).1
          have := HLN.out
          omega) hj))
        rw [HM.out] at e; exact e)
      have hd : ((n : Int) == 3) = decide (r.length = 2) := by have := HLN.out; rw [Bool.eq_iff_iff]; simp only [beq_iff_eq, decide_eq_true_eq]; omega
      obtain ⟨z, hz⟩ : ∃ z, decide (r.length = 2) = z := ⟨_, rfl⟩
      rw [hz] at hd HG
      clear hz
      go_wp2_with fail
      go_ret2
      exact ⟨by rw [HG.out]; rfl, rfl⟩


set_option maxRecDepth 100000 in
set_option maxHeartbeats 3200000 in
theorem may_d (A : Option Addr) (n cap c : Nat) (r : List Nat) (w : World) (h : Src w A n (bsU (c :: r))) (hn : n ≤ 4) (hc1 : 224 < c) (hc2 : c ≤ 239) (hc3 : c ≠ 237) :
    Calls Try.prog 65 #[.slice A n cap] w fun e w' => e = .returned (.tuple #[.bool (mayB (c :: r)).1, .bool (mayB (c :: r)).2]) ∧ w' = w := by
  have hln : r.length + 1 = n := by have := h.1; simpa [bsU] using this
  obtain ⟨b, off, rfl, hcs⟩ := src_at h (by omega)
  have c0 : w.cell? ⟨b, off, none⟩ = some (.int .u8 (c : Int)) := hcs 0 _ rfl
  have hn0 : (0 : Int) < (n : Int) := by omega
  have hn1 : 0 < n := by omega
  have HM : Hid (moreB c = 2) := Lib.hid (by unfold moreB; repeat (first | rw [if_pos (by omega)] | rw [if_neg (by omega)]))
  have HLO : Hid (secLo c = 128) := Lib.hid (by unfold secLo; repeat (first | rw [if_pos (by omega)] | rw [if_neg (by omega)]))
  have HHI : Hid (secHi c = 191) := Lib.hid (by unfold secHi; repeat (first | rw [if_pos (by omega)] | rw [if_neg (by omega)]))
  have HLN := Lib.hid hln
  have HCS : Hid (∀ k x : Nat, (c :: r)[k]? = some x → w.cell? ⟨b, off + k, none⟩ = some (.int .u8 (x : Int))) := Lib.hid (fun k x hx => hcs k _ (by unfold bsU; rw [List.getElem?_map, hx]; rfl))
  have HC : Hid (194 ≤ c ∧ c ≤ 244) := Lib.hid (by omega)
  have k0 : ¬ (c : Int) < 128 := by omega
  have j0 : (194 : Int) ≤ (c : Int) := by omega
  have j1 : ¬ (c : Int) ≤ 223 := by omega
  have j2 : (224 : Int) ≤ (c : Int) := by omega
  have j3 : (c : Int) ≤ 239 := by omega
  have j224 : ((c : Int) == 224) = false := by simp; omega
  have j237 : ((c : Int) == 237) = false := by simp; omega
  clear h hcs hln
  clear hc1 hc2 hc3
  go_enter Try.func65, Try.ntmps65
  go_wp2_with fail
  go_loop [8] (fun i => ∃ k : Nat, i = .int .i64 (k : Int) ∧ 1 ≤ k ∧ k ≤ n ∧ Hid (∀ j x, j + 1 < k → r[j]? = some x → contAt c j x)) (fun i => n - (intOf i).toNat)
  case atStart => exact ⟨1, rfl, by omega, by omega, Lib.hid (fun j x hj => by omega)⟩
  case round =>
    obtain ⟨k, rfl, hk1, hk, HI⟩ := hrel
    by_cases hlt : k < n
    · obtain ⟨x, hx⟩ : ∃ x, r[k - 1]? = some x := ⟨r[k - 1]'(by have := HLN.out; omega), List.getElem?_eq_getElem _⟩
      have hcx := HCS.out k x (by rw [show k = (k - 1) + 1 from by omega, List.getElem?_cons_succ]; exact hx)
      have hki : ((k : Int) < (n : Int)) := by omega
      have hk0 : (0 : Int) ≤ (k : Int) := by omega
      have HX := Lib.hid hx
      have HOK : Hid (contAt c (k - 1) x → ∀ j y, j + 1 < k + 1 → r[j]? = some y → contAt c j y) := Lib.hid (fun e j y hj hy => by
        by_cases ej : j = k - 1
        · subst ej
          rw [HX.out] at hy; injection hy with hy; subst hy; exact e
        · exact HI.out j y (by omega) hy)
      have HBAD : Hid (¬ contAt c (k - 1) x → mayB (c :: r) = (false, false)) := Lib.hid (fun e => mayB_not HC.out.1 HC.out.2 (by
        rw [← Bool.not_eq_true]
        intro hb
        exact e ((contB_iff c r).1 hb _ _ HX.out)))
      clear hx
      by_cases e1 : k = 1
      · have hd : ((k : Int) == 1) = true := by simp; omega
        have HCA : Hid (contAt c (k - 1) x ↔ (128 ≤ x ∧ x ≤ 191)) := Lib.hid (by unfold contAt; rw [if_pos (by omega), HLO.out, HHI.out])
        clear e1
        by_cases e2 : x < 128
        · have t1 : (x : Int) < 128 := by omega
          have HB := Lib.hid (HBAD.out (by rw [HCA.out]; omega))
          clear e2
          go_wp2_with fail
          go_ret2
          exact ⟨by rw [HB.out]; rfl, rfl⟩
        by_cases e3 : x ≤ 191
        · have t1 : ¬ (x : Int) < 128 := by omega
          have t2 : ¬ (x : Int) > 191 := by omega
          have t3 : ¬ (x : Int) < 128 := by omega
          have t4 : ¬ (x : Int) > 191 := by omega
          have HG := Lib.hid (HOK.out (HCA.out.2 (by omega)))
          clear e2 e3
          go_wp2_with fail
          go_round
          case rel => exact ⟨k + 1, by go_num, by omega, by omega, HG⟩
          case measure => simp [intOf]; omega
        · have t1 : ¬ (x : Int) < 128 := by omega
          have t2 : (x : Int) > 191 := by omega
          have HB := Lib.hid (HBAD.out (by rw [HCA.out]; omega))
          clear e2 e3
          go_wp2_with fail
          go_ret2
          exact ⟨by rw [HB.out]; rfl, rfl⟩
      · have hd : ((k : Int) == 1) = false := by simp; omega
        have HCA : Hid (contAt c (k - 1) x ↔ (128 ≤ x ∧ x ≤ 191)) := Lib.hid (by unfold contAt; rw [if_neg (by omega)])
        clear e1
        by_cases e2 : x < 128
        · have t1 : (x : Int) < 128 := by omega
          have HB := Lib.hid (HBAD.out (by rw [HCA.out]; omega))
          clear e2
          go_wp2_with fail
          go_ret2
          exact ⟨by rw [HB.out]; rfl, rfl⟩
        by_cases e3 : x ≤ 191
        · have t3 : ¬ (x : Int) < 128 := by omega
          have t4 : ¬ (x : Int) > 191 := by omega
          have HG := Lib.hid (HOK.out (HCA.out.2 (by omega)))
          clear e2 e3
          go_wp2_with fail
          go_round
          case rel => exact ⟨k + 1, by go_num, by omega, by omega, HG⟩
          case measure => simp [intOf]; omega
        · have t1 : ¬ (x : Int) < 128 := by omega
          have t2 : (x : Int) > 191 := by omega
          have HB := Lib.hid (HBAD.out (by rw [HCA.out]; omega))
          clear e2 e3
          go_wp2_with fail
          go_ret2
          exact ⟨by rw [HB.out]; rfl, rfl⟩
    · have HG : Hid (mayB (c :: r) = (true, decide (r.length = 2))) := Lib.hid (by
        have e := mayB_good HC.out.1 HC.out.2 ((contB_iff c r).2 (fun j x hj => HI.out j x (by
          have := (List.getElem?_eq_some_iff.1 hj).1
          have := HLN.out
          omega) hj))
        rw [HM.out] at e; exact e)
      have hd : ((n : Int) == 3) = decide (r.length = 2) := by have := HLN.out; rw [Bool.eq_iff_iff]; simp only [beq_iff_eq, decide_eq_true_eq]; omega
      obtain ⟨z, hz⟩ : ∃ z, decide (r.length = 2) = z := ⟨_, rfl⟩
      rw [hz] at hd HG
      clear hz
      go_wp2_with fail
      go_ret2
      exact ⟨by rw [HG.out]; rfl, rfl⟩


set_option maxRecDepth 100000 in
set_option maxHeartbeats 3200000 in
theorem may_e (A : Option Addr) (n cap c : Nat) (r : List Nat) (w : World) (h : Src w A n (bsU (c :: r))) (hn : n ≤ 4) (hc1 : c = 240) :
    Calls Try.prog 65 #[.slice A n cap] w fun e w' => e = .returned (.tuple #[.bool (mayB (c :: r)).1, .bool (mayB (c :: r)).2]) ∧ w' = w := by
  have hln : r.length + 1 = n := by have := h.1; simpa [bsU] using this
  obtain ⟨b, off, rfl, hcs⟩ := src_at h (by omega)
  have c0 : w.cell? ⟨b, off, none⟩ = some (.int .u8 (c : Int)) := hcs 0 _ rfl
  have hn0 : (0 : Int) < (n : Int) := by omega
  have hn1 : 0 < n := by omega
  have HM : Hid (moreB c = 3) := Lib.hid (by unfold moreB; repeat (first | rw [if_pos (by omega)] | rw [if_neg (by omega)]))
  have HLO : Hid (secLo c = 144) := Lib.hid (by unfold secLo; repeat (first | rw [if_pos (by omega)] | rw [if_neg (by omega)]))
  have HHI : Hid (secHi c = 191) := Lib.hid (by unfold secHi; repeat (first | rw [if_pos (by omega)] | rw [if_neg (by omega)]))
  have HLN := Lib.hid hln
  have HCS : Hid (∀ k x : Nat, (c :: r)[k]? = some x → w.cell? ⟨b, off + k, none⟩ = some (.int .u8 (x : Int))) := Lib.hid (fun k x hx => hcs k _ (by unfold bsU; rw [List.getElem?_map, hx]; rfl))
  have HC : Hid (194 ≤ c ∧ c ≤ 244) := Lib.hid (by omega)
  clear h hcs hln
  subst hc1
  go_enter Try.func65, Try.ntmps65
  go_wp2_with fail
  go_loop [8] (fun i => ∃ k : Nat, i = .int .i64 (k : Int) ∧ 1 ≤ k ∧ k ≤ n ∧ Hid (∀ j x, j + 1 < k → r[j]? = some x → contAt 240 j x)) (fun i => n - (intOf i).toNat)
  case atStart => exact ⟨1, rfl, by omega, by omega, Lib.hid (fun j x hj => by omega)⟩
  case round =>
    obtain ⟨k, rfl, hk1, hk, HI⟩ := hrel
    by_cases hlt : k < n
    · obtain ⟨x, hx⟩ : ∃ x, r[k - 1]? = some x := ⟨r[k - 1]'(by have := HLN.out; omega), List.getElem?_eq_getElem _⟩
      have hcx := HCS.out k x (by rw [show k = (k - 1) + 1 from by omega, List.getElem?_cons_succ]; exact hx)
      have hki : ((k : Int) < (n : Int)) := by omega
      have hk0 : (0 : Int) ≤ (k : Int) := by omega
      have HX := Lib.hid hx
      have HOK : Hid (contAt 240 (k - 1) x → ∀ j y, j + 1 < k + 1 → r[j]? = some y → contAt 240 j y) := Lib.hid (fun e j y hj hy => by
        by_cases ej : j = k - 1
        · subst ej
          rw [HX.out] at hy; injection hy with hy; subst hy; exact e
        · exact HI.out j y (by omega) hy)
      have HBAD : Hid (¬ contAt 240 (k - 1) x → mayB (240 :: r) = (false, false)) := Lib.hid (fun e => mayB_not HC.out.1 HC.out.2 (by
        rw [← Bool.not_eq_true]
        intro hb
        exact e ((contB_iff 240 r).1 hb _ _ HX.out)))
      clear hx
      by_cases e1 : k = 1
      · have hd : ((k : Int) == 1) = true := by simp; omega
        have HCA : Hid (contAt 240 (k - 1) x ↔ (144 ≤ x ∧ x ≤ 191)) := Lib.hid (by unfold contAt; rw [if_pos (by omega), HLO.out, HHI.out])
        clear e1
        by_cases e2 : x < 144
        · have t1 : (x : Int) < 144 := by omega
          have HB := Lib.hid (HBAD.out (by rw [HCA.out]; omega))
          clear e2
          go_wp2_with fail
          go_ret2
          exact ⟨by rw [HB.out]; rfl, rfl⟩
        by_cases e3 : x ≤ 191
        · have t1 : ¬ (x : Int) < 144 := by omega
          have t2 : ¬ (x : Int) > 191 := by omega
          have t3 : ¬ (x : Int) < 128 := by omega
          have t4 : ¬ (x : Int) > 191 := by omega
          have HG := Lib.hid (HOK.out (HCA.out.2 (by omega)))
          clear e2 e3
          go_wp2_with fail
          go_round
          case rel => exact ⟨k + 1, by go_num, by omega, by omega, HG⟩
          case measure => simp [intOf]; omega
        · have t1 : ¬ (x : Int) < 144 := by omega
          have t2 : (x : Int) > 191 := by omega
          have HB := Lib.hid (HBAD.out (by rw [HCA.out]; omega))
          clear e2 e3
          go_wp2_with fail
          go_ret2
          exact ⟨by rw [HB.out]; rfl, rfl⟩
      · have hd : ((k : Int) == 1) = false := by simp; omega
        have HCA : Hid (contAt 240 (k - 1) x ↔ (128 ≤ x ∧ x ≤ 191)) := Lib.hid (by unfold contAt; rw [if_neg (by omega)])
        clear e1
        by_cases e2 : x < 128
        · have t1 : (x : Int) < 128 := by omega
          have HB := Lib.hid (HBAD.out (by rw [HCA.out]; omega))
          clear e2
          go_wp2_with fail
          go_ret2
          exact ⟨by rw [HB.out]; rfl, rfl⟩
        by_cases e3 : x ≤ 191
        · have t3 : ¬ (x : Int) < 128 := by omega
          have t4 : ¬ (x : Int) > 191 := by omega
          have HG := Lib.hid (HOK.out (HCA.out.2 (by omega)))
          clear e2 e3
          go_wp2_with fail
          go_round
          case rel => exact ⟨k + 1, by go_num, by omega, by omega, HG⟩
          case measure => simp [intOf]; omega
        · have t1 : ¬ (x : Int) < 128 := by omega
          have t2 : (x : Int) > 191 := by omega
          have HB := Lib.hid (HBAD.out (by rw [HCA.out]; omega))
          clear e2 e3
          go_wp2_with fail
          go_ret2
          exact ⟨by rw [HB.out]; rfl, rfl⟩
    · have HG : Hid (mayB (240 :: r) = (true, decide (r.length = 3))) := Lib.hid (by
        have e := mayB_good HC.out.1 HC.out.2 ((contB_iff 240 r).2 (fun j x hj => HI.out j x (by
          have := (List.getElem?_eq_some_iff.1 hj).1
          have := HLN.out
          omega) hj))
        rw [HM.out] at e; exact e)
      have hd : ((n : Int) == 4) = decide (r.length = 3) := by have := HLN.out; rw [Bool.eq_iff_iff]; simp only [beq_iff_eq, decide_eq_true_eq]; omega
      obtain ⟨z, hz⟩ : ∃ z, decide (r.length = 3) = z := ⟨_, rfl⟩
      rw [hz] at hd HG
      clear hz
      go_wp2_with fail
      go_ret2
      exact ⟨by rw [HG.out]; rfl, rfl⟩


set_option maxRecDepth 100000 in
set_option maxHeartbeats 3200000 in
theorem may_f (A : Option Addr) (n cap c : Nat) (r : List Nat) (w : World) (h : Src w A n (bsU (c :: r))) (hn : n ≤ 4) (hc1 : c = 244) :
    Calls Try.prog 65 #[.slice A n cap] w fun e w' => e = .returned (.tuple #[.bool (mayB (c :: r)).1, .bool (mayB (c :: r)).2]) ∧ w' = w := by
  have hln : r.length + 1 = n := by have := h.1; simpa [bsU] using this
  obtain ⟨b, off, rfl, hcs⟩ := src_at h (by omega)
  have c0 : w.cell? ⟨b, off, none⟩ = some (.int .u8 (c : Int)) := hcs 0 _ rfl
  have hn0 : (0 : Int) < (n : Int) := by omega
  have hn1 : 0 < n := by omega
  have HM : Hid (moreB c = 3) := Lib.hid (by unfold moreB; repeat (first | rw [if_pos (by omega)] | rw [if_neg (by omega)]))
  have HLO : Hid (secLo c = 128) := Lib.hid (by unfold secLo; repeat (first | rw [if_pos (by omega)] | rw [if_neg (by omega)]))
  have HHI : Hid (secHi c = 143) := Lib.hid (by unfold secHi; repeat (first | rw [if_pos (by omega)] | rw [if_neg (by omega)]))
  have HLN := Lib.hid hln
  have HCS : Hid (∀ k x : Nat, (c :: r)[k]? = some x → w.cell? ⟨b, off + k, none⟩ = some (.int .u8 (x : Int))) := Lib.hid (fun k x hx => hcs k _ (by unfold bsU; rw [List.getElem?_map, hx]; rfl))
  have HC : Hid (194 ≤ c ∧ c ≤ 244) := Lib.hid (by omega)
  clear h hcs hln
  subst hc1
  go_enter Try.func65, Try.ntmps65
  go_wp2_with fail
  go_loop [8] (fun i => ∃ k : Nat, i = .int .i64 (k : Int) ∧ 1 ≤ k ∧ k ≤ n ∧ Hid (∀ j x, j + 1 < k → r[j]? = some x → contAt 244 j x)) (fun i => n - (intOf i).toNat)
  case atStart => exact ⟨1, rfl, by omega, by omega, Lib.hid (fun j x hj => by omega)⟩
  case round =>
    obtain ⟨k, rfl, hk1, hk, HI⟩ := hrel
    by_cases hlt : k < n
    · obtain ⟨x, hx⟩ : ∃ x, r[k - 1]? = some x := ⟨r[k - 1]'(by have := HLN.out; omega), List.getElem?_eq_getElem _⟩
      have hcx := HCS.out k x (by rw [show k = (k - 1) + 1 from by omega, List.getElem?_cons_succ]; exact hx)
      have hki : ((k : Int) < (n : Int)) := by omega
      have hk0 : (0 : Int) ≤ (k : Int) := by omega
      have HX := Lib.hid hx
      have HOK : Hid (contAt 244 (k - 1) x → ∀ j y, j + 1 < k + 1 → r[j]? = some y → contAt 244 j y) := Lib.hid (fun e j y hj hy => by
        by_cases ej : j = k - 1
        · subst ej
          rw [HX.out] at hy; injection hy with hy; subst hy; exact e
        · exact HI.out j y (by omega) hy)
      have HBAD : Hid (¬ contAt 244 (k - 1) x → mayB (244 :: r) = (false, false)) := Lib.hid (fun e => mayB_not HC.out.1 HC.out.2 (by
        rw [← Bool.not_eq_true]
        intro hb
        exact e ((contB_iff 244 r).1 hb _ _ HX.out)))
      clear hx
      by_cases e1 : k = 1
      · have hd : ((k : Int) == 1) = true := by simp; omega
        have HCA : Hid (contAt 244 (k - 1) x ↔ (128 ≤ x ∧ x ≤ 143)) := Lib.hid (by unfold contAt; rw [if_pos (by omega), HLO.out, HHI.out])
        clear e1
        by_cases e2 : x < 128
        · have t1 : (x : Int) < 128 := by omega
          have HB := Lib.hid (HBAD.out (by rw [HCA.out]; omega))
          clear e2
          go_wp2_with fail
          go_ret2
          exact ⟨by rw [HB.out]; rfl, rfl⟩
        by_cases e3 : x ≤ 143
        · have t1 : ¬ (x : Int) < 128 := by omega
          have t2 : ¬ (x : Int) > 143 := by omega
          have t3 : ¬ (x : Int) < 128 := by omega
          have t4 : ¬ (x : Int) > 191 := by omega
          have HG := Lib.hid (HOK.out (HCA.out.2 (by omega)))
          clear e2 e3
          go_wp2_with fail
          go_round
          case rel => exact ⟨k + 1, by go_num, by omega, by omega, HG⟩
          case measure => simp [intOf]; omega
        · have t1 : ¬ (x : Int) < 128 := by omega
          have t2 : (x : Int) > 143 := by omega
          have HB := Lib.hid (HBAD.out (by rw [HCA.out]; omega))
          clear e2 e3
          go_wp2_with fail
          go_ret2
          exact ⟨by rw [HB.out]; rfl, rfl⟩
      · have hd : ((k : Int) == 1) = false := by simp; omega
        have HCA : Hid (contAt 244 (k - 1) x ↔ (128 ≤ x ∧ x ≤ 191)) := Lib.hid (by unfold contAt; rw [if_neg (by omega)])
        clear e1
        by_cases e2 : x < 128
        · have t1 : (x : Int) < 128 := by omega
          have HB := Lib.hid (HBAD.out (by rw [HCA.out]; omega))
          clear e2
          go_wp2_with fail
          go_ret2
          exact ⟨by rw [HB.out]; rfl, rfl⟩
        by_cases e3 : x ≤ 191
        · have t3 : ¬ (x : Int) < 128 := by omega
          have t4 : ¬ (x : Int) > 191 := by omega
          have HG := Lib.hid (HOK.out (HCA.out.2 (by omega)))
          clear e2 e3
          go_wp2_with fail
          go_round
          case rel => exact ⟨k + 1, by go_num, by omega, by omega, HG⟩
          case measure => simp [intOf]; omega
        · have t1 : ¬ (x : Int) < 128 := by omega
          have t2 : (x : Int) > 191 := by omega
          have HB := Lib.hid (HBAD.out (by rw [HCA.out]; omega))
          clear e2 e3
          go_wp2_with fail
          go_ret2
          exact ⟨by rw [HB.out]; rfl, rfl⟩
    · have HG : Hid (mayB (244 :: r) = (true, decide (r.length = 3))) := Lib.hid (by
        have e := mayB_good HC.out.1 HC.out.2 ((contB_iff 244 r).2 (fun j x hj => HI.out j x (by
          have := (List.getElem?_eq_some_iff.1 hj).1
          have := HLN.out
          omega) hj))
        rw [HM.out] at e; exact e)
      have hd : ((n : Int) == 4) = decide (r.length = 3) := by have := HLN.out; rw [Bool.eq_iff_iff]; simp only [beq_iff_eq, decide_eq_true_eq]; omega
      obtain ⟨z, hz⟩ : ∃ z, decide (r.length = 3) = z := ⟨_, rfl⟩
      rw [hz] at hd HG
      clear hz
      go_wp2_with fail
      go_ret2
      exact ⟨by rw [HG.out]; rfl, rfl⟩


set_option maxRecDepth 100000 in
set_option maxHeartbeats 3200000 in
theorem may_g (A : Option Addr) (n cap c : Nat) (r : List Nat) (w : World) (h : Src w A n (bsU (c :: r))) (hn : n ≤ 4) (hc1 : 240 < c) (hc2 : c < 244) :
    Calls Try.prog 65 #[.slice A n cap] w fun e w' => e = .returned (.tuple #[.bool (mayB (c :: r)).1, .bool (mayB (c :: r)).2]) ∧ w' = w := by
  have hln : r.length + 1 = n := by have := h.1; simpa [bsU] using this
  obtain ⟨b, off, rfl, hcs⟩ := src_at h (by omega)
  have c0 : w.cell? ⟨b, off, none⟩ = some (.int .u8 (c : Int)) := hcs 0 _ rfl
  have hn0 : (0 : Int) < (n : Int) := by omega
  have hn1 : 0 < n := by omega
  have HM : Hid (moreB c = 3) := Lib.hid (by unfold moreB; repeat (first | rw [if_pos (by omega)] | rw [if_neg (by omega)]))
  have HLO : Hid (secLo c = 128) := Lib.hid (by unfold secLo; repeat (first | rw [if_pos (by omega)] | rw [if_neg (by omega)]))
  have HHI : Hid (secHi c = 191) := Lib.hid (by unfold secHi; repeat (first | rw [if_pos (by omega)] | rw [if_neg (by omega)]))
  have HLN := Lib.hid hln
  have HCS : Hid (∀ k x : Nat, (c :: r)[k]? = some x → w.cell? ⟨b, off + k, none⟩ = some (.int .u8 (x : Int))) := Lib.hid (fun k x hx => hcs k _ (by unfold bsU; rw [List.getElem?_map, hx]; rfl))
  have HC : Hid (194 ≤ c ∧ c ≤ 244) := Lib.hid (by omega)
  have k0 : ¬ (c : Int) < 128 := by omega
  have j0 : (194 : Int) ≤ (c : Int) := by omega
  have j1 : ¬ (c : Int) ≤ 223 := by omega
  have j2 : (224 : Int) ≤ (c : Int) := by omega
  have j3 : ¬ (c : Int) ≤ 239 := by omega
  have j4 : (240 : Int) ≤ (c : Int) := by omega
  have j5 : (c : Int) ≤ 244 := by omega
  have j240 : ((c : Int) == 240) = false := by simp; omega
  have j244 : ((c : Int) == 244) = false := by simp; omega
  clear h hcs hln
  clear hc1 hc2
  go_enter Try.func65, Try.ntmps65
  go_wp2_with fail
  go_loop [8] (fun i => ∃ k : Nat, i = .int .i64 (k : Int) ∧ 1 ≤ k ∧ k ≤ n ∧ Hid (∀ j x, j + 1 < k → r[j]? = some x → contAt c j x)) (fun i => n - (intOf i).toNat)
  case atStart => exact ⟨1, rfl, by omega, by omega, Lib.hid (fun j x hj => by omega)⟩
  case round =>
    obtain ⟨k, rfl, hk1, hk, HI⟩ := hrel
    by_cases hlt : k < n
    · obtain ⟨x, hx⟩ : ∃ x, r[k - 1]? = some x := ⟨r[k - 1]'(by have := HLN.out; omega), List.getElem?_eq_getElem _⟩
      have hcx := HCS.out k x (by rw [show k = (k - 1) + 1 from by omega, List.getElem?_cons_succ]; exact hx)
      have hki : ((k : Int) < (n : Int)) := by omega
      have hk0 : (0 : Int) ≤ (k : Int) := by omega
      have HX := Lib.hid hx
      have HOK : Hid (contAt c (k - 1) x → ∀ j y, j + 1 < k + 1 → r[j]? = some y → contAt c j y) := Lib.hid (fun e j y hj hy => by
        by_cases ej : j = k - 1
        · subst ej
          rw [HX.out] at hy; injection hy with hy; subst hy; exact e
        · exact HI.out j y (by omega) hy)
      have HBAD : Hid (¬ contAt c (k - 1) x → mayB (c :: r) = (false, false)) := Lib.hid (fun e => mayB_not HC.out.1 HC.out.2 (by
        rw [← Bool.not_eq_true]
        intro hb
        exact e ((contB_iff c r).1 hb _ _ HX.out)))
      clear hx
      by_cases e1 : k = 1
      · have hd : ((k : Int) == 1) = true := by simp; omega
        have HCA : Hid (contAt c (k - 1) x ↔ (128 ≤ x ∧ x ≤ 191)) := Lib.hid (by unfold contAt; rw [if_pos (by omega), HLO.out, HHI.out])
        clear e1
        by_cases e2 : x < 128
        · have t1 : (x : Int) < 128 := by omega
          have HB := Lib.hid (HBAD.out (by rw [HCA.out]; omega))
          clear e2
          go_wp2_with fail
          go_ret2
          exact ⟨by rw [HB.out]; rfl, rfl⟩
        by_cases e3 : x ≤ 191
        · have t1 : ¬ (x : Int) < 128 := by omega
          have t2 : ¬ (x : Int) > 191 := by omega
          have t3 : ¬ (x : Int) < 128 := by omega
          have t4 : ¬ (x : Int) > 191 := by omega
          have HG := Lib.hid (HOK.out (HCA.out.2 (by omega)))
          clear e2 e3
          go_wp2_with fail
          go_round
          case rel => exact ⟨k + 1, by go_num, by omega, by omega, HG⟩
          case measure => simp [intOf]; omega
        · have t1 : ¬ (x : Int) < 128 := by omega
          have t2 : (x : Int) > 191 := by omega
          have HB := Lib.hid (HBAD.out (by rw [HCA.out]; omega))
          clear e2 e3
          go_wp2_with fail
          go_ret2
          exact ⟨by rw [HB.out]; rfl, rfl⟩
      · have hd : ((k : Int) == 1) = false := by simp; omega
        have HCA : Hid (contAt c (k - 1) x ↔ (128 ≤ x ∧ x ≤ 191)) := Lib.hid (by unfold contAt; rw [if_neg (by omega)])
        clear e1
        by_cases e2 : x < 128
        · have t1 : (x : Int) < 128 := by omega
          have HB := Lib.hid (HBAD.out (by rw [HCA.out]; omega))
          clear e2
          go_wp2_with fail
          go_ret2
          exact ⟨by rw [HB.out]; rfl, rfl⟩
        by_cases e3 : x ≤ 191
        · have t3 : ¬ (x : Int) < 128 := by omega
          have t4 : ¬ (x : Int) > 191 := by omega
          have HG := Lib.hid (HOK.out (HCA.out.2 (by omega)))
          clear e2 e3
          go_wp2_with fail
          go_round
          case rel => exact ⟨k + 1, by go_num, by omega, by omega, HG⟩
          case measure => simp [intOf]; omega
        · have t1 : ¬ (x : Int) < 128 := by omega
          have t2 : (x : Int) > 191 := by omega
          have HB := Lib.hid (HBAD.out (by rw [HCA.out]; omega))
          clear e2 e3
          go_wp2_with fail
          go_ret2
          exact ⟨by rw [HB.out]; rfl, rfl⟩
    · have HG : Hid (mayB (c :: r) = (true, decide (r.length = 3))) := Lib.hid (by
        have e := mayB_good HC.out.1 HC.out.2 ((contB_iff c r).2 (fun j x hj => HI.out j x (by
          have := (List.getElem?_eq_some_iff.1 hj).1
          have := HLN.out
          omega) hj))
        rw [HM.out] at e; exact e)
      have hd : ((n : Int) == 4) = decide (r.length = 3) := by have := HLN.out; rw [Bool.eq_iff_iff]; simp only [beq_iff_eq, decide_eq_true_eq]; omega
      obtain ⟨z, hz⟩ : ∃ z, decide (r.length = 3) = z := ⟨_, rfl⟩
      rw [hz] at hd HG
      clear hz
      go_wp2_with fail
      go_ret2
      exact ⟨by rw [HG.out]; rfl, rfl⟩


theorem ref_may (A : Option Addr) (n cap c : Nat) (r : List Nat) (w : World) (h : Src w A n (bsU (c :: r))) (hn : n ≤ 4) :
    Calls Try.prog 65 #[.slice A n cap] w fun e w' => e = .returned (.tuple #[.bool (mayB (c :: r)).1, .bool (mayB (c :: r)).2]) ∧ w' = w := by
  by_cases h1 : c < 128
  · exact may_low A n cap c r w h hn h1
  by_cases h2 : (128 ≤ c ∧ c < 194) ∨ 244 < c
  · exact may_none A n cap c r w h hn h2
  by_cases e1 : c ≤ 223
  · exact may_a A n cap c r w h hn (by omega) e1
  by_cases e2 : c = 224
  · exact may_b A n cap c r w h hn e2
  by_cases e3 : c = 237
  · exact may_c A n cap c r w h hn e3
  by_cases e4 : c ≤ 239
  · exact may_d A n cap c r w h hn (by omega) e4 e3
  by_cases e5 : c = 240
  · exact may_e A n cap c r w h hn e5
  by_cases e6 : c = 244
  · exact may_f A n cap c r w h hn e6
  · exact may_g A n cap c r w h hn (by omega) (by omega)

end Go.Proofs.Ytoihadjboeeglaa
