/- The contracts of window.Window. Own work. -/
import Derived.Test.YtfgcbgingcadaaaWinM
import Derived.Test.YtfgcbgingcadaaaChecked
import Derived.IntWalk
namespace Go.Proofs.Ytfgcbgingcadaaa
set_option linter.unusedVariables false
set_option linter.unusedSimpArgs false
open Go.RowKit

set_option maxHeartbeats 400000 in
theorem win_old (t : Int) (s : Nat) (w : World) (h0 : 0 ≤ t) (h1 : t ≤ 4611686018427387904) :
    Calls Try.prog 13 #[.agg #[.int .i64 t, .int .u64 (s : Int)]] w fun e w' => e = .returned (.int .i64 (oldF t)) ∧ Below w.heap.size w w' := by
  go_enter Try.func13, Try.ntmps13
  go_wp2_with fail
  go_ret
  exact ⟨rfl, (Below.refl _ _).alloc (Nat.le_refl _) _⟩

theorem u64_of {x : Int} (h0 : 0 ≤ x) (h1 : x ≤ 4611686018427387904) : IntKind.u64.wrap (wrap64 x) = x := by
  rw [show wrap64 x = x from by unfold wrap64; omega]
  simp [IntKind.wrap, IntKind.bits, IntKind.signed]
  omega

/-- The test of a bit. -/
theorem bit_is (s k : Nat) (hs : s < 18446744073709551616) (hk : k ≤ 64) : (bits .and .u64 ((s : Int) / 2 ^ k) 1 == 1) = s.testBit k := by
  have e : ((s : Int) / 2 ^ k) = ((s / 2 ^ k : Nat) : Int) := by simp
  have hl : s / 2 ^ k < 18446744073709551616 := Nat.lt_of_le_of_lt (Nat.div_le_self _ _) hs
  rw [e, show (1 : Int) = ((1 : Nat) : Int) from rfl, u64_and_nat _ _ hl (by omega), Nat.and_one_is_mod, Nat.testBit_eq_decide_div_mod_eq]
  rw [Bool.eq_iff_iff]
  simp only [beq_iff_eq, decide_eq_true_eq]
  omega

theorem seen_is {t : Int} {s : Nat} {n : Int} (hs : s < 18446744073709551616) (h0 : 0 ≤ t) (h1 : t ≤ 4611686018427387904) (h2 : oldF t < n) (h3 : n ≤ t) :
    (bits .and .u64 ((s : Int) / 2 ^ min (IntKind.u64.wrap (wrap64 (t - n))).toNat 64) 1 == 1) = seenB t s n := by
  have h4 := oldF_eq t
  have h5 : t - n < 64 ∧ 0 ≤ t - n ∧ t - n ≤ 4611686018427387904 := by split at h4 <;> omega
  rw [u64_of h5.2.1 h5.2.2, Nat.min_eq_left (by omega), bit_is s _ hs (by omega)]
  unfold seenB
  simp [h3]

set_option maxHeartbeats 400000 in
theorem win_seen (t : Int) (s : Nat) (n : Int) (w : World) (hs : s < 18446744073709551616) (h0 : 0 ≤ t) (h1 : t ≤ 4611686018427387904) (h2 : oldF t < n) :
    Calls Try.prog 14 #[.agg #[.int .i64 t, .int .u64 (s : Int)], .int .i64 n] w fun e w' => e = .returned (.bool (seenB t s n)) ∧ Below w.heap.size w w' := by
  by_cases h3 : n ≤ t
  · have E := Lib.hid (seen_is hs h0 h1 h2 h3)
    go_enter Try.func14, Try.ntmps14
    go_wp2_with fail
    go_ret
    refine ⟨?_, (Below.refl _ _).alloc (Nat.le_refl _) _⟩
    rw [← E.out]
    rfl
  · have E : Hid (false = seenB t s n) := Lib.hid (by unfold seenB; simp [h3])
    have hd : decide (n ≤ t) = false := by simpa using h3
    go_enter Try.func14, Try.ntmps14
    go_wp2_with fail
    go_ret
    refine ⟨?_, (Below.refl _ _).alloc (Nat.le_refl _) _⟩
    rw [← E.out]
    rfl

/-- A window's value. -/
theorem fresh_at {t : Int} {s : Nat} {n : Int} (h1 : oldF t < n) (h2 : n ≤ 4611686018427387904) : freshB t s n = !seenB t s n := by
  unfold freshB
  simp [h1, h2]

set_option maxHeartbeats 400000 in
theorem win_fresh (t : Int) (s : Nat) (n : Int) (w : World) (hs : s < 18446744073709551616) (h0 : 0 ≤ t) (h1 : t ≤ 4611686018427387904) :
    Calls Try.prog 8 #[.agg #[.int .i64 t, .int .u64 (s : Int)], .int .i64 n] w fun e w' => e = .returned (.bool (freshB t s n)) ∧ Below w.heap.size w w' := by
  by_cases h2 : oldF t < n
  · by_cases h3 : n ≤ 4611686018427387904
    · have E := Lib.hid (fresh_at (s := s) h2 h3)
      go_enter Try.func8, Try.ntmps8
      go_wp2_with fail
      refine (win_old t s _ h0 h1).mono ?_
      rintro e w1 ⟨rfl, hb⟩
      have HB := Lib.hid hb
      have hc : ∀ o, w1.cell? ⟨w.heap.size, o, none⟩ = (w.alloc (.cells #[.int .i64 t, .int .u64 (s : Int)] 26)).cell? ⟨w.heap.size, o, none⟩ := fun o => hb.cell (p := ⟨w.heap.size, o, none⟩) (by simp)
      clear hb
      go_wp2_with fail
      refine (win_seen t s n _ hs h0 h1 h2).mono ?_
      rintro e w2 ⟨rfl, hb2⟩
      have HB2 := Lib.hid ((((Below.refl w.heap.size w).alloc (Nat.le_refl _) _).trans (HB.out.mono (by simp))).trans (hb2.mono (by have := HB.out.size; simp at this; omega)))
      clear hb2 hc
      go_wp2_with fail
      go_ret
      refine ⟨?_, HB2.out⟩
      rw [E.out]
      rfl
    · have E : Hid (false = freshB t s n) := Lib.hid (by unfold freshB; simp [h3])
      go_enter Try.func8, Try.ntmps8
      go_wp2_with fail
      refine (win_old t s _ h0 h1).mono ?_
      rintro e w1 ⟨rfl, hb⟩
      have HB := Lib.hid (((Below.refl w.heap.size w).alloc (Nat.le_refl _) _).trans (hb.mono (by simp)))
      clear hb
      go_wp2_with fail
      go_ret
      refine ⟨?_, HB.out⟩
      rw [← E.out]
      rfl
  · have E : Hid (false = freshB t s n) := Lib.hid (by unfold freshB; simp [h2])
    go_enter Try.func8, Try.ntmps8
    go_wp2_with fail
    refine (win_old t s _ h0 h1).mono ?_
    rintro e w1 ⟨rfl, hb⟩
    have HB := Lib.hid (((Below.refl w.heap.size w).alloc (Nat.le_refl _) _).trans (hb.mono (by simp)))
    clear hb
    go_wp2_with fail
    go_ret
    refine ⟨?_, HB.out⟩
    rw [← E.out]
    rfl

end Go.Proofs.Ytfgcbgingcadaaa
