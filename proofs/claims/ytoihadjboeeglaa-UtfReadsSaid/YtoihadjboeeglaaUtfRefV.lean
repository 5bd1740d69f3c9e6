/- The document's value. By program (rgn/XUtfRefV.py). Own work. -/
import Derived.Test.YtoihadjboeeglaaUtfRefMay
namespace Go.Proofs.Ytoihadjboeeglaa
set_option linter.unusedVariables false
set_option linter.unusedSimpArgs false
open Go.RowKit

/-- The rune of the first k bytes behind the first one. -/
def valAt (c m : Nat) (r : List Nat) (k : Nat) : Nat := (r.take k).foldl (fun a b => a * 64 + b - 128) (firstB c m)
theorem valAt_next {c m k x : Nat} {r : List Nat} (h : r[k]? = some x) : valAt c m r (k + 1) = valAt c m r k * 64 + x - 128 := by
  unfold valAt
  rw [take_next h, List.foldl_append]
  rfl
theorem valAt_end (c : Nat) (r : List Nat) : valAt c (r.length + 1) r r.length = valueB (c :: r) := by simp [valAt, valueB]

set_option maxRecDepth 100000 in
set_option maxHeartbeats 1600000 in
theorem refValue_2 (A : Option Addr) (cap c : Nat) (r : List Nat) (w : World) (h : Src w A 2 (bsU (c :: r))) (hc1 : 194 ≤ c) (hc2 : c ≤ 223) (hr : ∀ j x : Nat, r[j]? = some x → 128 ≤ x ∧ x ≤ 191) :
    Calls Try.prog 66 #[.slice A 2 cap] w fun e w' => e = .returned (.int .i32 (valueB (c :: r) : Int)) ∧ w' = w := by
  have hln : r.length = 1 := by have := h.1; simpa [bsU] using this
  obtain ⟨b, off, rfl, hcs⟩ := src_at h (by omega)
  have c0 : w.cell? ⟨b, off, none⟩ = some (.int .u8 (c : Int)) := hcs 0 _ rfl
  have HLN := Lib.hid hln
  have HCS : Hid (∀ k x : Nat, (c :: r)[k]? = some x → w.cell? ⟨b, off + k, none⟩ = some (.int .u8 (x : Int))) := Lib.hid (fun k x hx => hcs k _ (by unfold bsU; rw [List.getElem?_map, hx]; rfl))
  have HR := Lib.hid hr
  have hci : (194 : Int) ≤ (c : Int) := by omega
  have hci2 : (c : Int) ≤ 223 := by omega
  obtain ⟨d, hd⟩ : ∃ d : Nat, c - 192 = d := ⟨_, rfl⟩
  have hdi : (c : Int) - 192 = (d : Int) := by omega
  have hdl : d < 32 := by omega
  have HV0 : Hid (d = valAt c 2 r 0) := Lib.hid (by unfold valAt firstB; simp; omega)
  have hw := i32_nat c (by omega)
  clear h hcs hln hr hd
  go_enter Try.func66, Try.ntmps66
  go_wp2_with fail
  go_loop [3, 4] (fun v i => ∃ k a : Nat, i = .int .i64 (k : Int) ∧ v = .int .i32 (a : Int) ∧ 1 ≤ k ∧ k ≤ 2 ∧ Hid (a = valAt c 2 r (k - 1)) ∧ (k = 1 → a < 32) ∧ (k = 2 → a < 2048) ∧ (k = 3 → a < 131072)) (fun _ i => 2 - (intOf i).toNat)
  case atStart => exact ⟨1, d, rfl, rfl, by omega, by omega, HV0, fun _ => hdl, fun h => by omega, fun h => by omega⟩
  case round =>
    obtain ⟨k, a, rfl, rfl, hk1, hk, HA, b1, b2, b3⟩ := hrel
    by_cases hlt : k < 2
    · obtain ⟨x, hx⟩ : ∃ x, r[k - 1]? = some x := ⟨r[k - 1]'(by have := HLN.out; omega), List.getElem?_eq_getElem _⟩
      have hcx := HCS.out k x (by rw [show k = (k - 1) + 1 from by omega, List.getElem?_cons_succ]; exact hx)
      obtain ⟨x1, x2⟩ := HR.out _ _ hx
      have hki : ((k : Int) < 2) := by omega
      have hk0 : (0 : Int) ≤ (k : Int) := by omega
      have hal : a < 131072 := by
        rcases (show k = 1 ∨ k = 2 ∨ k = 3 by omega) with e | e | e
        · have := b1 e; omega
        · have := b2 e; omega
        · exact b3 e
      obtain ⟨a2, ha2⟩ : ∃ a2, a * 64 + x - 128 = a2 := ⟨_, rfl⟩
      have HN : Hid (a2 = valAt c 2 r k) := Lib.hid (by rw [show k = (k - 1) + 1 from by omega, valAt_next hx, ← HA.out]; omega)
      have HA2 : Hid ((a : Int) * 64 + (x : Int) - 128 = (a2 : Int)) := Lib.hid (by omega)
      have HB : Hid (a2 < a * 64 + 64) := Lib.hid (by omega)
      have B1 := Lib.hid b1
      have B2 := Lib.hid b2
      have hwx := i32_nat x (by omega)
      have hw1 : IntKind.i32.wrap ((a : Int) * 64) = (a : Int) * 64 := by rw [IntKind.wrap_i32]; omega
      have hw2 : IntKind.i32.wrap ((a : Int) * 64 + (x : Int)) = (a : Int) * 64 + (x : Int) := by rw [IntKind.wrap_i32]; omega
      have hw3 : IntKind.i32.wrap ((a : Int) * 64 + (x : Int) - 128) = (a : Int) * 64 + (x : Int) - 128 := by rw [IntKind.wrap_i32]; omega
      clear hx ha2 b1 b2 b3
      go_wp2_with fail
      go_round
      case rel => exact ⟨k + 1, a2, by go_num, by rw [HA2.out], by omega, by omega, by rw [Nat.add_sub_cancel]; exact HN, fun h => by omega, fun h => by have := HB.out; have := B1.out (by omega); omega, fun h => by have := HB.out; have := B2.out (by omega); omega⟩
      case measure => simp [intOf]; omega
    · have HE : Hid (a = valueB (c :: r)) := Lib.hid (by
        have e := valAt_end c r
        rw [HLN.out] at e
        rw [HA.out, ← e]
        congr 1
        omega)
      clear b1 b2 b3
      go_wp2_with fail
      go_ret
      exact ⟨by rw [← HE.out]; rfl, rfl⟩

set_option maxRecDepth 100000 in
set_option maxHeartbeats 1600000 in
theorem refValue_3 (A : Option Addr) (cap c : Nat) (r : List Nat) (w : World) (h : Src w A 3 (bsU (c :: r))) (hc1 : 224 ≤ c) (hc2 : c ≤ 239) (hr : ∀ j x : Nat, r[j]? = some x → 128 ≤ x ∧ x ≤ 191) :
    Calls Try.prog 66 #[.slice A 3 cap] w fun e w' => e = .returned (.int .i32 (valueB (c :: r) : Int)) ∧ w' = w := by
  have hln : r.length = 2 := by have := h.1; simpa [bsU] using this
  obtain ⟨b, off, rfl, hcs⟩ := src_at h (by omega)
  have c0 : w.cell? ⟨b, off, none⟩ = some (.int .u8 (c : Int)) := hcs 0 _ rfl
  have HLN := Lib.hid hln
  have HCS : Hid (∀ k x : Nat, (c :: r)[k]? = some x → w.cell? ⟨b, off + k, none⟩ = some (.int .u8 (x : Int))) := Lib.hid (fun k x hx => hcs k _ (by unfold bsU; rw [List.getElem?_map, hx]; rfl))
  have HR := Lib.hid hr
  have hci : (224 : Int) ≤ (c : Int) := by omega
  have hci2 : (c : Int) ≤ 239 := by omega
  obtain ⟨d, hd⟩ : ∃ d : Nat, c - 224 = d := ⟨_, rfl⟩
  have hdi : (c : Int) - 224 = (d : Int) := by omega
  have hdl : d < 32 := by omega
  have HV0 : Hid (d = valAt c 3 r 0) := Lib.hid (by unfold valAt firstB; simp; omega)
  have hw := i32_nat c (by omega)
  clear h hcs hln hr hd
  go_enter Try.func66, Try.ntmps66
  go_wp2_with fail
  go_loop [3, 4] (fun v i => ∃ k a : Nat, i = .int .i64 (k : Int) ∧ v = .int .i32 (a : Int) ∧ 1 ≤ k ∧ k ≤ 3 ∧ Hid (a = valAt c 3 r (k - 1)) ∧ (k = 1 → a < 32) ∧ (k = 2 → a < 2048) ∧ (k = 3 → a < 131072)) (fun _ i => 3 - (intOf i).toNat)
  case atStart => exact ⟨1, d, rfl, rfl, by omega, by omega, HV0, fun _ => hdl, fun h => by omega, fun h => by omega⟩
  case round =>
    obtain ⟨k, a, rfl, rfl, hk1, hk, HA, b1, b2, b3⟩ := hrel
    by_cases hlt : k < 3
    · obtain ⟨x, hx⟩ : ∃ x, r[k - 1]? = some x := ⟨r[k - 1]'(by have := HLN.out; omega), List.getElem?_eq_getElem _⟩
      have hcx := HCS.out k x (by rw [show k = (k - 1) + 1 from by omega, List.getElem?_cons_succ]; exact hx)
      obtain ⟨x1, x2⟩ := HR.out _ _ hx
      have hki : ((k : Int) < 3) := by omega
      have hk0 : (0 : Int) ≤ (k : Int) := by omega
      have hal : a < 131072 := by
        rcases (show k = 1 ∨ k = 2 ∨ k = 3 by omega) with e | e | e
        · have := b1 e; omega
        · have := b2 e; omega
        · exact b3 e
      obtain ⟨a2, ha2⟩ : ∃ a2, a * 64 + x - 128 = a2 := ⟨_, rfl⟩
      have HN : Hid (a2 = valAt c 3 r k) := Lib.hid (by rw [show k = (k - 1) + 1 from by omega, valAt_next hx, ← HA.out]; omega)
      have HA2 : Hid ((a : Int) * 64 + (x : Int) - 128 = (a2 : Int)) := Lib.hid (by omega)
      have HB : Hid (a2 < a * 64 + 64) := Lib.hid (by omega)
      have B1 := Lib.hid b1
      have B2 := Lib.hid b2
      have hwx := i32_nat x (by omega)
      have hw1 : IntKind.i32.wrap ((a : Int) * 64) = (a : Int) * 64 := by rw [IntKind.wrap_i32]; omega
      have hw2 : IntKind.i32.wrap ((a : Int) * 64 + (x : Int)) = (a : Int) * 64 + (x : Int) := by rw [IntKind.wrap_i32]; omega
      have hw3 : IntKind.i32.wrap ((a : Int) * 64 + (x : Int) - 128) = (a : Int) * 64 + (x : Int) - 128 := by rw [IntKind.wrap_i32]; omega
      clear hx ha2 b1 b2 b3
      go_wp2_with fail
      go_round
      case rel => exact ⟨k + 1, a2, by go_num, by rw [HA2.out], by omega, by omega, by rw [Nat.add_sub_cancel]; exact HN, fun h => by omega, fun h => by have := HB.out; have := B1.out (by omega); omega, fun h => by have := HB.out; have := B2.out (by omega); omega⟩
      case measure => simp [intOf]; omega
    · have HE : Hid (a = valueB (c :: r)) := Lib.hid (by
        have e := valAt_end c r
        rw [HLN.out] at e
        rw [HA.out, ← e]
        congr 1
        omega)
      clear b1 b2 b3
      go_wp2_with fail
      go_ret
      exact ⟨by rw [← HE.out]; rfl, rfl⟩

set_option maxRecDepth 100000 in
set_option maxHeartbeats 1600000 in
theorem refValue_4 (A : Option Addr) (cap c : Nat) (r : List Nat) (w : World) (h : Src w A 4 (bsU (c :: r))) (hc1 : 240 ≤ c) (hc2 : c ≤ 244) (hr : ∀ j x : Nat, r[j]? = some x → 128 ≤ x ∧ x ≤ 191) :
    Calls Try.prog 66 #[.slice A 4 cap] w fun e w' => e = .returned (.int .i32 (valueB (c :: r) : Int)) ∧ w' = w := by
  have hln : r.length = 3 := by have := h.1; simpa [bsU] using this
  obtain ⟨b, off, rfl, hcs⟩ := src_at h (by omega)
  have c0 : w.cell? ⟨b, off, none⟩ = some (.int .u8 (c : Int)) := hcs 0 _ rfl
  have HLN := Lib.hid hln
  have HCS : Hid (∀ k x : Nat, (c :: r)[k]? = some x → w.cell? ⟨b, off + k, none⟩ = some (.int .u8 (x : Int))) := Lib.hid (fun k x hx => hcs k _ (by unfold bsU; rw [List.getElem?_map, hx]; rfl))
  have HR := Lib.hid hr
  have hci : (240 : Int) ≤ (c : Int) := by omega
  have hci2 : (c : Int) ≤ 244 := by omega
  obtain ⟨d, hd⟩ : ∃ d : Nat, c - 240 = d := ⟨_, rfl⟩
  have hdi : (c : Int) - 240 = (d : Int) := by omega
  have hdl : d < 32 := by omega
  have HV0 : Hid (d = valAt c 4 r 0) := Lib.hid (by unfold valAt firstB; simp; omega)
  have hw := i32_nat c (by omega)
  clear h hcs hln hr hd
  go_enter Try.func66, Try.ntmps66
  go_wp2_with fail
  go_loop [3, 4] (fun v i => ∃ k a : Nat, i = .int .i64 (k : Int) ∧ v = .int .i32 (a : Int) ∧ 1 ≤ k ∧ k ≤ 4 ∧ Hid (a = valAt c 4 r (k - 1)) ∧ (k = 1 → a < 32) ∧ (k = 2 → a < 2048) ∧ (k = 3 → a < 131072)) (fun _ i => 4 - (intOf i).toNat)
  case atStart => exact ⟨1, d, rfl, rfl, by omega, by omega, HV0, fun _ => hdl, fun h => by omega, fun h => by omega⟩
  case round =>
    obtain ⟨k, a, rfl, rfl, hk1, hk, HA, b1, b2, b3⟩ := hrel
    by_cases hlt : k < 4
    · obtain ⟨x, hx⟩ : ∃ x, r[k - 1]? = some x := ⟨r[k - 1]'(by have := HLN.out; omega), List.getElem?_eq_getElem _⟩
      have hcx := HCS.out k x (by rw [show k = (k - 1) + 1 from by omega, List.getElem?_cons_succ]; exact hx)
      obtain ⟨x1, x2⟩ := HR.out _ _ hx
      have hki : ((k : Int) < 4) := by omega
      have hk0 : (0 : Int) ≤ (k : Int) := by omega
      have hal : a < 131072 := by
        rcases (show k = 1 ∨ k = 2 ∨ k = 3 by omega) with e | e | e
        · have := b1 e; omega
        · have := b2 e; omega
        · exact b3 e
      obtain ⟨a2, ha2⟩ : ∃ a2, a * 64 + x - 128 = a2 := ⟨_, rfl⟩
      have HN : Hid (a2 = valAt c 4 r k) := Lib.hid (by rw [show k = (k - 1) + 1 from by omega, valAt_next hx, ← HA.out]; omega)
      have HA2 : Hid ((a : Int) * 64 + (x : Int) - 128 = (a2 : Int)) := Lib.hid (by omega)
      have HB : Hid (a2 < a * 64 + 64) := Lib.hid (by omega)
      have B1 := Lib.hid b1
      have B2 := Lib.hid b2
      have hwx := i32_nat x (by omega)
      have hw1 : IntKind.i32.wrap ((a : Int) * 64) = (a : Int) * 64 := by rw [IntKind.wrap_i32]; omega
      have hw2 : IntKind.i32.wrap ((a : Int) * 64 + (x : Int)) = (a : Int) * 64 + (x : Int) := by rw [IntKind.wrap_i32]; omega
      have hw3 : IntKind.i32.wrap ((a : Int) * 64 + (x : Int) - 128) = (a : Int) * 64 + (x : Int) - 128 := by rw [IntKind.wrap_i32]; omega
      clear hx ha2 b1 b2 b3
      go_wp2_with fail
      go_round
      case rel => exact ⟨k + 1, a2, by go_num, by rw [HA2.out], by omega, by omega, by rw [Nat.add_sub_cancel]; exact HN, fun h => by omega, fun h => by have := HB.out; have := B1.out (by omega); omega, fun h => by have := HB.out; have := B2.out (by omega); omega⟩
      case measure => simp [intOf]; omega
    · have HE : Hid (a = valueB (c :: r)) := Lib.hid (by
        have e := valAt_end c r
        rw [HLN.out] at e
        rw [HA.out, ← e]
        congr 1
        omega)
      clear b1 b2 b3
      go_wp2_with fail
      go_ret
      exact ⟨by rw [← HE.out]; rfl, rfl⟩

theorem contB_all {c : Nat} {r : List Nat} (h : contB c r = true) : ∀ j x : Nat, r[j]? = some x → 128 ≤ x ∧ x ≤ 191 := fun j x hj => by
  have h1 := (contB_iff c r).1 h j x hj
  have g1 := secLo_ge c
  have g2 := secHi_le c
  unfold contAt at h1
  split at h1 <;> omega

theorem ref_value (A : Option Addr) (n cap : Nat) (B : List Nat) (w : World) (h : Src w A n (bsU B)) (h2 : 2 ≤ n) (hm : mayB B = (true, true)) :
    Calls Try.prog 66 #[.slice A n cap] w fun e w' => e = .returned (.int .i32 (valueB B : Int)) ∧ w' = w := by
  have hln : B.length = n := by have := h.1; simpa [bsU] using this
  match B, hm, h, hln with
  | [], _, _, hln => simp at hln; omega
  | c :: r, hm, h, hln =>
    simp only [List.length_cons] at hln
    unfold mayB at hm
    simp only at hm
    split at hm
    · simp at hm; subst hm; simp at hln; omega
    split at hm
    · rename_i hc
      split at hm
      · rename_i hct
        simp at hm
        have ha := contB_all hct
        unfold moreB at hm
        split at hm
        · obtain rfl : n = 2 := by omega
          exact refValue_2 A cap c r w h hc.1 (by omega) ha
        split at hm
        · obtain rfl : n = 3 := by omega
          exact refValue_3 A cap c r w h (by omega) (by omega) ha
        · obtain rfl : n = 4 := by omega
          exact refValue_4 A cap c r w h (by omega) hc.2 ha
      · simp at hm
    · simp at hm

end Go.Proofs.Ytoihadjboeeglaa
