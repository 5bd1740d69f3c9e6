/- Law WindowFar: the walk. Own work. -/
import Derived.Test.YtfgcbgingcadaaaWinAlive
namespace Go.Proofs.Ytfgcbgingcadaaa
set_option linter.unusedVariables false
set_option linter.unusedSimpArgs false
open Go.RowKit

theorem take_first (n : Int) (w : World) (h1 : 1 ≤ n) (h2 : n ≤ 4611686018427387904) :
    Calls Try.prog 10 #[.agg #[.int .i64 0, .int .u64 0], .int .i64 n] w fun e w' => e = .returned (.tuple #[.agg #[.int .i64 n, .int .u64 1], .bool true]) ∧ Below w.heap.size w w' :=
  win_take 0 0 n n 1 w (by omega) (by omega) (by omega) (fresh_true.2 ⟨by rw [oldF_eq]; split <;> omega, h2, by simp⟩) (by omega) (by
    unfold markS upS
    rw [show (max 0 n - n).toNat = 0 from by omega]
    simp)

theorem one_bits (a : Int) : bitsF a [a] = 1 := by unfold bitsF; simp

theorem got_one {a : Int} (h1 : 1 ≤ a) (h2 : a ≤ 4611686018427387904) : GotOk a [a] := ⟨by omega, h2, fun x hx => by
    have : x = a := by simpa using hx
    omega⟩

theorem freshL_one {a n : Int} (h1 : 1 ≤ n) (h2 : n ≤ 4611686018427387904) (h3 : a < n) : freshL a [a] n = true := freshL_true.2 ⟨h1, h2, by omega, by simp; omega⟩

/-- Behind a leap from a to b. -/
theorem leap {a b : Int} (h1 : 1 ≤ a) (h2 : a < b) (h3 : b ≤ 4611686018427387904) :
    ∃ s : Nat, s < 18446744073709551616 ∧ freshB a 1 b = true ∧ markS a 1 b = s ∧ ∀ n, freshB b s n = true ↔ 1 ≤ n ∧ n ≤ 4611686018427387904 ∧ b - 64 < n ∧ n ≠ a ∧ n ≠ b := by
  have hg := got_one h1 (by omega)
  have hl := freshL_one (a := a) (n := b) (by omega) h3 h2
  have hm := mark_ok hg hl
  have hb := bits_mark hg hl
  rw [one_bits, show max a b = b from by omega] at hb
  rw [show max a b = b from by omega] at hm
  refine ⟨bitsF b (markL a [a] b), bits_lt hm, ?_, hb, fun n => ?_⟩
  · have := fresh_ref hg b
    rw [one_bits] at this
    rw [this]; exact hl
  · rw [fresh_ref hm, freshL_true]
    have key : n ∈ markL a [a] b ↔ (n = a ∧ b - 64 < n) ∨ n = b := by
      unfold markL
      rw [show max a b = b from by omega]
      simp only [List.mem_append, List.mem_filter, List.mem_singleton, decide_eq_true_eq]
    rw [key]
    constructor
    · rintro ⟨x1, x2, x3, x4⟩
      exact ⟨x1, x2, x3, fun e => x4 (.inl ⟨e, x3⟩), fun e => x4 (.inr e)⟩
    · rintro ⟨x1, x2, x3, x4, x5⟩
      exact ⟨x1, x2, x3, fun h => h.elim (fun h => x4 h.1) x5⟩

theorem old_is (t : Int) (s : Nat) (w : World) (h0 : 0 ≤ t) (h1 : t ≤ 4611686018427387904) :
    Calls Try.prog 13 #[.agg #[.int .i64 t, .int .u64 (s : Int)]] w fun e w' => e = .returned (.int .i64 (max (t - 64) 0)) ∧ Below w.heap.size w w' := by
  rw [show max (t - 64) 0 = oldF t from by unfold oldF; omega]
  exact win_old t s w h0 h1

set_option maxRecDepth 100000 in
set_option maxHeartbeats 1600000 in
theorem far_good (a b k : Int) (w : World) (h1 : 1 ≤ a) (h2 : a ≤ 2305843009213693952) (h3 : a < b) (h4 : b ≤ 4611686018427387904) (h5 : 0 ≤ k) (h6 : k ≤ 200) :
    Calls Try.prog 5 #[.int .i64 a, .int .i64 b, .int .i64 k] w fun e w' => e = .returned (.bool true) ∧ Below w.heap.size w w' := by
  obtain ⟨s, hs, hf, hm, hfr⟩ := leap h1 h3 h4
  have HF := Lib.hid hf
  have HM := Lib.hid hm
  have HFR := Lib.hid hfr
  clear hf hm hfr
  have d1 : decide (a < 1) = false := by simp; omega
  have d2 : decide (2305843009213693952 < a) = false := by simp; omega
  have d3 : decide (b ≤ a) = false := by simp; omega
  have d4 : decide (4611686018427387904 < b) = false := by simp; omega
  have d5 : decide (k < 0) = false := by simp; omega
  have d6 : decide (200 < k) = false := by simp; omega
  go_enter Try.func5, Try.ntmps5
  go_wp2_with fail
  refine (alive_any _).mono ?_
  rintro e w0 ⟨rfl, hb⟩
  have HB := Lib.hid hb
  clear hb
  go_wp2_with fail
  refine (take_first a _ h1 (by omega)).mono ?_
  rintro e w1 ⟨rfl, hb⟩
  have HB1 := Lib.hid (HB.out.trans (hb.mono HB.out.size))
  clear HB hb
  go_wp2_with fail
  refine (win_take a 1 b b s _ (by omega) (by omega) (by omega) HF.out (by omega) HM.out).mono ?_
  rintro e w2 ⟨rfl, hb⟩
  have HB2 := Lib.hid (((HB1.out.alloc HB1.out.size _).trans (hb.mono (by have := HB1.out.size; simp; omega))))
  clear HB1 hb
  go_wp2_with fail
  refine (win_fresh_is b s b false _ hs (by omega) h4 (by rw [← Bool.not_eq_true, HFR.out]; omega)).mono ?_
  rintro e w3 ⟨rfl, hb⟩
  have hc : ∀ o, w3.cell? ⟨w2.heap.size, o, none⟩ = (w2.alloc (.cells #[.int .i64 b, .int .u64 s] 26)).cell? ⟨w2.heap.size, o, none⟩ := fun o => hb.cell (p := ⟨w2.heap.size, o, none⟩) (by simp)
  have hz : w2.heap.size < w3.heap.size := by have := hb.size; simp at this; omega
  have HB3 := Lib.hid (((HB2.out.alloc HB2.out.size _).trans (hb.mono (by have := HB2.out.size; simp; omega))))
  have C0 := Lib.hid ((hc 0).trans (show _ = some (Value.int .i64 b) by simp [go_sem]))
  have C1 := Lib.hid ((hc 1).trans (show _ = some (Value.int .u64 s) by simp [go_sem]))
  clear HB2 hb hc
  have c0 := C0.out
  have c1 := C1.out
  go_wp2_with fail
  refine (win_fresh_is b s a false _ hs (by omega) h4 (by rw [← Bool.not_eq_true, HFR.out]; omega)).mono ?_
  rintro e w4 ⟨rfl, hb⟩
  have HB4 := Lib.hid (HB3.out.trans (hb.mono HB3.out.size))
  have D0 := Lib.hid ((hb.cell (p := ⟨w2.heap.size, 0, none⟩) hz).trans C0.out)
  have D1 := Lib.hid ((hb.cell (p := ⟨w2.heap.size, 1, none⟩) hz).trans C1.out)
  have hz4 : w2.heap.size < w4.heap.size := by have := hb.size; omega
  clear HB3 hb c0 c1 C0 C1
  have c0 := D0.out
  have c1 := D1.out
  clear d1 d2 d3 d4 d5 d6
  by_cases g0 : 1 ≤ k
  rotate_left
  · have g0' : decide (1 ≤ k) = false := by simpa using g0
    go_wp2_with fail
    refine (win_fresh_is b s (b - k) false _ hs (by omega) h4 (by rw [← Bool.not_eq_true, HFR.out]; omega)).mono ?_
    rintro e w5 ⟨rfl, hb⟩
    have HB5 := Lib.hid (HB4.out.trans (hb.mono HB4.out.size))
    have E0 := Lib.hid ((hb.cell (p := ⟨w2.heap.size, 0, none⟩) hz4).trans D0.out)
    have E1 := Lib.hid ((hb.cell (p := ⟨w2.heap.size, 1, none⟩) hz4).trans D1.out)
    have hz5 : w2.heap.size < w5.heap.size := by have := hb.size; omega
    clear HB4 hb c0 c1 D0 D1
    have c0 := E0.out
    have c1 := E1.out
    by_cases hbig : b < 4611686018427387904
    · have hmin : min b 4611686018427387903 = b := by omega
      have e1 : decide (b < 4611686018427387904) = true := by simp; omega
      go_wp2_with fail
      refine (win_fresh_is b s (b + 1) true _ hs (by omega) h4 (by rw [HFR.out]; omega)).mono ?_
      rintro e w6 ⟨rfl, hb⟩
      have HB6 := Lib.hid (HB5.out.trans (hb.mono HB5.out.size))
      have F0 := Lib.hid ((hb.cell (p := ⟨w2.heap.size, 0, none⟩) hz5).trans E0.out)
      have F1 := Lib.hid ((hb.cell (p := ⟨w2.heap.size, 1, none⟩) hz5).trans E1.out)
      clear HB5 hb c0 c1 E0 E1
      have c0 := F0.out
      have c1 := F1.out
      go_wp2_with fail
      refine (old_is b s _ (by omega) h4).mono ?_
      rintro e w7 ⟨rfl, hb⟩
      have HB7 := Lib.hid (HB6.out.trans (hb.mono HB6.out.size))
      clear HB6 hb c0 c1 F0 F1
      go_wp2_with fail
      go_ret
      exact ⟨rfl, HB7.out⟩
    · have hmin : min b 4611686018427387903 = 4611686018427387903 := by omega
      have e1 : decide (b < 4611686018427387904) = false := by simp; omega
      go_wp2_with fail
      refine (win_fresh_is b s 4611686018427387904 false _ hs (by omega) h4 (by rw [← Bool.not_eq_true, HFR.out]; omega)).mono ?_
      rintro e w6 ⟨rfl, hb⟩
      have HB6 := Lib.hid (HB5.out.trans (hb.mono HB5.out.size))
      have F0 := Lib.hid ((hb.cell (p := ⟨w2.heap.size, 0, none⟩) hz5).trans E0.out)
      have F1 := Lib.hid ((hb.cell (p := ⟨w2.heap.size, 1, none⟩) hz5).trans E1.out)
      clear HB5 hb c0 c1 E0 E1
      have c0 := F0.out
      have c1 := F1.out
      go_wp2_with fail
      refine (old_is b s _ (by omega) h4).mono ?_
      rintro e w7 ⟨rfl, hb⟩
      have HB7 := Lib.hid (HB6.out.trans (hb.mono HB6.out.size))
      clear HB6 hb c0 c1 F0 F1
      go_wp2_with fail
      go_ret
      exact ⟨rfl, HB7.out⟩
  have g0' : decide (1 ≤ k) = true := by simpa using g0
  by_cases g1 : k < 64
  rotate_left
  · have g1' : decide (k < 64) = false := by simpa using g1
    go_wp2_with fail
    refine (win_fresh_is b s (b - k) false _ hs (by omega) h4 (by rw [← Bool.not_eq_true, HFR.out]; omega)).mono ?_
    rintro e w5 ⟨rfl, hb⟩
    have HB5 := Lib.hid (HB4.out.trans (hb.mono HB4.out.size))
    have E0 := Lib.hid ((hb.cell (p := ⟨w2.heap.size, 0, none⟩) hz4).trans D0.out)
    have E1 := Lib.hid ((hb.cell (p := ⟨w2.heap.size, 1, none⟩) hz4).trans D1.out)
    have hz5 : w2.heap.size < w5.heap.size := by have := hb.size; omega
    clear HB4 hb c0 c1 D0 D1
    have c0 := E0.out
    have c1 := E1.out
    by_cases hbig : b < 4611686018427387904
    · have hmin : min b 4611686018427387903 = b := by omega
      have e1 : decide (b < 4611686018427387904) = true := by simp; omega
      go_wp2_with fail
      refine (win_fresh_is b s (b + 1) true _ hs (by omega) h4 (by rw [HFR.out]; omega)).mono ?_
      rintro e w6 ⟨rfl, hb⟩
      have HB6 := Lib.hid (HB5.out.trans (hb.mono HB5.out.size))
      have F0 := Lib.hid ((hb.cell (p := ⟨w2.heap.size, 0, none⟩) hz5).trans E0.out)
      have F1 := Lib.hid ((hb.cell (p := ⟨w2.heap.size, 1, none⟩) hz5).trans E1.out)
      clear HB5 hb c0 c1 E0 E1
      have c0 := F0.out
      have c1 := F1.out
      go_wp2_with fail
      refine (old_is b s _ (by omega) h4).mono ?_
      rintro e w7 ⟨rfl, hb⟩
      have HB7 := Lib.hid (HB6.out.trans (hb.mono HB6.out.size))
      clear HB6 hb c0 c1 F0 F1
      go_wp2_with fail
      go_ret
      exact ⟨rfl, HB7.out⟩
    · have hmin : min b 4611686018427387903 = 4611686018427387903 := by omega
      have e1 : decide (b < 4611686018427387904) = false := by simp; omega
      go_wp2_with fail
      refine (win_fresh_is b s 4611686018427387904 false _ hs (by omega) h4 (by rw [← Bool.not_eq_true, HFR.out]; omega)).mono ?_
      rintro e w6 ⟨rfl, hb⟩
      have HB6 := Lib.hid (HB5.out.trans (hb.mono HB5.out.size))
      have F0 := Lib.hid ((hb.cell (p := ⟨w2.heap.size, 0, none⟩) hz5).trans E0.out)
      have F1 := Lib.hid ((hb.cell (p := ⟨w2.heap.size, 1, none⟩) hz5).trans E1.out)
      clear HB5 hb c0 c1 E0 E1
      have c0 := F0.out
      have c1 := F1.out
      go_wp2_with fail
      refine (old_is b s _ (by omega) h4).mono ?_
      rintro e w7 ⟨rfl, hb⟩
      have HB7 := Lib.hid (HB6.out.trans (hb.mono HB6.out.size))
      clear HB6 hb c0 c1 F0 F1
      go_wp2_with fail
      go_ret
      exact ⟨rfl, HB7.out⟩
  have g1' : decide (k < 64) = true := by simpa using g1
  by_cases g2 : 1 ≤ b - k
  rotate_left
  · have g2' : decide (1 ≤ b - k) = false := by simpa using g2
    go_wp2_with fail
    refine (win_fresh_is b s (b - k) false _ hs (by omega) h4 (by rw [← Bool.not_eq_true, HFR.out]; omega)).mono ?_
    rintro e w5 ⟨rfl, hb⟩
    have HB5 := Lib.hid (HB4.out.trans (hb.mono HB4.out.size))
    have E0 := Lib.hid ((hb.cell (p := ⟨w2.heap.size, 0, none⟩) hz4).trans D0.out)
    have E1 := Lib.hid ((hb.cell (p := ⟨w2.heap.size, 1, none⟩) hz4).trans D1.out)
    have hz5 : w2.heap.size < w5.heap.size := by have := hb.size; omega
    clear HB4 hb c0 c1 D0 D1
    have c0 := E0.out
    have c1 := E1.out
    by_cases hbig : b < 4611686018427387904
    · have hmin : min b 4611686018427387903 = b := by omega
      have e1 : decide (b < 4611686018427387904) = true := by simp; omega
      go_wp2_with fail
      refine (win_fresh_is b s (b + 1) true _ hs (by omega) h4 (by rw [HFR.out]; omega)).mono ?_
      rintro e w6 ⟨rfl, hb⟩
      have HB6 := Lib.hid (HB5.out.trans (hb.mono HB5.out.size))
      have F0 := Lib.hid ((hb.cell (p := ⟨w2.heap.size, 0, none⟩) hz5).trans E0.out)
      have F1 := Lib.hid ((hb.cell (p := ⟨w2.heap.size, 1, none⟩) hz5).trans E1.out)
      clear HB5 hb c0 c1 E0 E1
      have c0 := F0.out
      have c1 := F1.out
      go_wp2_with fail
      refine (old_is b s _ (by omega) h4).mono ?_
      rintro e w7 ⟨rfl, hb⟩
      have HB7 := Lib.hid (HB6.out.trans (hb.mono HB6.out.size))
      clear HB6 hb c0 c1 F0 F1
      go_wp2_with fail
      go_ret
      exact ⟨rfl, HB7.out⟩
    · have hmin : min b 4611686018427387903 = 4611686018427387903 := by omega
      have e1 : decide (b < 4611686018427387904) = false := by simp; omega
      go_wp2_with fail
      refine (win_fresh_is b s 4611686018427387904 false _ hs (by omega) h4 (by rw [← Bool.not_eq_true, HFR.out]; omega)).mono ?_
      rintro e w6 ⟨rfl, hb⟩
      have HB6 := Lib.hid (HB5.out.trans (hb.mono HB5.out.size))
      have F0 := Lib.hid ((hb.cell (p := ⟨w2.heap.size, 0, none⟩) hz5).trans E0.out)
      have F1 := Lib.hid ((hb.cell (p := ⟨w2.heap.size, 1, none⟩) hz5).trans E1.out)
      clear HB5 hb c0 c1 E0 E1
      have c0 := F0.out
      have c1 := F1.out
      go_wp2_with fail
      refine (old_is b s _ (by omega) h4).mono ?_
      rintro e w7 ⟨rfl, hb⟩
      have HB7 := Lib.hid (HB6.out.trans (hb.mono HB6.out.size))
      clear HB6 hb c0 c1 F0 F1
      go_wp2_with fail
      go_ret
      exact ⟨rfl, HB7.out⟩
  have g2' : decide (1 ≤ b - k) = true := by simpa using g2
  by_cases g3 : b - k = a
  · have g3' : ((b - k) != a) = false := by simpa using g3
    have g3'' : ((b - k) == a) = true := by simpa using g3
    have G3 := Lib.hid g3
    clear g3
    go_wp2_with fail
    refine (win_fresh_is b s (b - k) false _ hs (by omega) h4 (by rw [← Bool.not_eq_true, HFR.out]; have := G3.out; omega)).mono ?_
    rintro e w5 ⟨rfl, hb⟩
    have HB5 := Lib.hid (HB4.out.trans (hb.mono HB4.out.size))
    have E0 := Lib.hid ((hb.cell (p := ⟨w2.heap.size, 0, none⟩) hz4).trans D0.out)
    have E1 := Lib.hid ((hb.cell (p := ⟨w2.heap.size, 1, none⟩) hz4).trans D1.out)
    have hz5 : w2.heap.size < w5.heap.size := by have := hb.size; omega
    clear HB4 hb c0 c1 D0 D1
    have c0 := E0.out
    have c1 := E1.out
    by_cases hbig : b < 4611686018427387904
    · have hmin : min b 4611686018427387903 = b := by omega
      have e1 : decide (b < 4611686018427387904) = true := by simp; omega
      go_wp2_with fail
      refine (win_fresh_is b s (b + 1) true _ hs (by omega) h4 (by rw [HFR.out]; omega)).mono ?_
      rintro e w6 ⟨rfl, hb⟩
      have HB6 := Lib.hid (HB5.out.trans (hb.mono HB5.out.size))
      have F0 := Lib.hid ((hb.cell (p := ⟨w2.heap.size, 0, none⟩) hz5).trans E0.out)
      have F1 := Lib.hid ((hb.cell (p := ⟨w2.heap.size, 1, none⟩) hz5).trans E1.out)
      clear HB5 hb c0 c1 E0 E1
      have c0 := F0.out
      have c1 := F1.out
      go_wp2_with fail
      refine (old_is b s _ (by omega) h4).mono ?_
      rintro e w7 ⟨rfl, hb⟩
      have HB7 := Lib.hid (HB6.out.trans (hb.mono HB6.out.size))
      clear HB6 hb c0 c1 F0 F1
      go_wp2_with fail
      go_ret
      exact ⟨rfl, HB7.out⟩
    · have hmin : min b 4611686018427387903 = 4611686018427387903 := by omega
      have e1 : decide (b < 4611686018427387904) = false := by simp; omega
      go_wp2_with fail
      refine (win_fresh_is b s 4611686018427387904 false _ hs (by omega) h4 (by rw [← Bool.not_eq_true, HFR.out]; omega)).mono ?_
      rintro e w6 ⟨rfl, hb⟩
      have HB6 := Lib.hid (HB5.out.trans (hb.mono HB5.out.size))
      have F0 := Lib.hid ((hb.cell (p := ⟨w2.heap.size, 0, none⟩) hz5).trans E0.out)
      have F1 := Lib.hid ((hb.cell (p := ⟨w2.heap.size, 1, none⟩) hz5).trans E1.out)
      clear HB5 hb c0 c1 E0 E1
      have c0 := F0.out
      have c1 := F1.out
      go_wp2_with fail
      refine (old_is b s _ (by omega) h4).mono ?_
      rintro e w7 ⟨rfl, hb⟩
      have HB7 := Lib.hid (HB6.out.trans (hb.mono HB6.out.size))
      clear HB6 hb c0 c1 F0 F1
      go_wp2_with fail
      go_ret
      exact ⟨rfl, HB7.out⟩
  have g3' : ((b - k) != a) = true := by simpa using g3
  have g3'' : ((b - k) == a) = false := by simpa using g3
  go_wp2_with fail
  refine (win_fresh_is b s (b - k) true _ hs (by omega) h4 (by rw [HFR.out]; omega)).mono ?_
  rintro e w5 ⟨rfl, hb⟩
  have HB5 := Lib.hid (HB4.out.trans (hb.mono HB4.out.size))
  have E0 := Lib.hid ((hb.cell (p := ⟨w2.heap.size, 0, none⟩) hz4).trans D0.out)
  have E1 := Lib.hid ((hb.cell (p := ⟨w2.heap.size, 1, none⟩) hz4).trans D1.out)
  have hz5 : w2.heap.size < w5.heap.size := by have := hb.size; omega
  clear HB4 hb c0 c1 D0 D1
  have c0 := E0.out
  have c1 := E1.out
  by_cases hbig : b < 4611686018427387904
  · have hmin : min b 4611686018427387903 = b := by omega
    have e1 : decide (b < 4611686018427387904) = true := by simp; omega
    go_wp2_with fail
    refine (win_fresh_is b s (b + 1) true _ hs (by omega) h4 (by rw [HFR.out]; omega)).mono ?_
    rintro e w6 ⟨rfl, hb⟩
    have HB6 := Lib.hid (HB5.out.trans (hb.mono HB5.out.size))
    have F0 := Lib.hid ((hb.cell (p := ⟨w2.heap.size, 0, none⟩) hz5).trans E0.out)
    have F1 := Lib.hid ((hb.cell (p := ⟨w2.heap.size, 1, none⟩) hz5).trans E1.out)
    clear HB5 hb c0 c1 E0 E1
    have c0 := F0.out
    have c1 := F1.out
    go_wp2_with fail
    refine (old_is b s _ (by omega) h4).mono ?_
    rintro e w7 ⟨rfl, hb⟩
    have HB7 := Lib.hid (HB6.out.trans (hb.mono HB6.out.size))
    clear HB6 hb c0 c1 F0 F1
    go_wp2_with fail
    go_ret
    exact ⟨rfl, HB7.out⟩
  · have hmin : min b 4611686018427387903 = 4611686018427387903 := by omega
    have e1 : decide (b < 4611686018427387904) = false := by simp; omega
    go_wp2_with fail
    refine (win_fresh_is b s 4611686018427387904 false _ hs (by omega) h4 (by rw [← Bool.not_eq_true, HFR.out]; omega)).mono ?_
    rintro e w6 ⟨rfl, hb⟩
    have HB6 := Lib.hid (HB5.out.trans (hb.mono HB5.out.size))
    have F0 := Lib.hid ((hb.cell (p := ⟨w2.heap.size, 0, none⟩) hz5).trans E0.out)
    have F1 := Lib.hid ((hb.cell (p := ⟨w2.heap.size, 1, none⟩) hz5).trans E1.out)
    clear HB5 hb c0 c1 E0 E1
    have c0 := F0.out
    have c1 := F1.out
    go_wp2_with fail
    refine (old_is b s _ (by omega) h4).mono ?_
    rintro e w7 ⟨rfl, hb⟩
    have HB7 := Lib.hid (HB6.out.trans (hb.mono HB6.out.size))
    clear HB6 hb c0 c1 F0 F1
    go_wp2_with fail
    go_ret
    exact ⟨rfl, HB7.out⟩

set_option maxRecDepth 100000 in
set_option maxHeartbeats 1600000 in
theorem walk_WindowFar (a0 : Int) (w0 : (Lit.int .i64 a0).wf = true) (a1 : Int) (w1 : (Lit.int .i64 a1).wf = true) (a2 : Int) (w2 : (Lit.int .i64 a2).wf = true) (w : World) :
    Calls Try.prog 5 #[.int .i64 a0, .int .i64 a1, .int .i64 a2] w fun e w' => e = .returned (.bool true) ∧ Below w.heap.size w w' := by
  by_cases h0 : a0 < 1
  · have e0 : decide (a0 < 1) = true := by simpa using h0
    go_enter Try.func5, Try.ntmps5
    go_wp2_with fail
    refine (alive_any _).mono ?_
    rintro e w1 ⟨rfl, hb⟩
    go_wp2_with fail
    go_ret
    exact ⟨rfl, hb⟩
  have e0 : decide (a0 < 1) = false := by simpa using h0
  by_cases h1 : 2305843009213693952 < a0
  · have e1 : decide (2305843009213693952 < a0) = true := by simpa using h1
    go_enter Try.func5, Try.ntmps5
    go_wp2_with fail
    refine (alive_any _).mono ?_
    rintro e w1 ⟨rfl, hb⟩
    go_wp2_with fail
    go_ret
    exact ⟨rfl, hb⟩
  have e1 : decide (2305843009213693952 < a0) = false := by simpa using h1
  by_cases h2 : a1 ≤ a0
  · have e2 : decide (a1 ≤ a0) = true := by simpa using h2
    go_enter Try.func5, Try.ntmps5
    go_wp2_with fail
    refine (alive_any _).mono ?_
    rintro e w1 ⟨rfl, hb⟩
    go_wp2_with fail
    go_ret
    exact ⟨rfl, hb⟩
  have e2 : decide (a1 ≤ a0) = false := by simpa using h2
  by_cases h3 : 4611686018427387904 < a1
  · have e3 : decide (4611686018427387904 < a1) = true := by simpa using h3
    go_enter Try.func5, Try.ntmps5
    go_wp2_with fail
    refine (alive_any _).mono ?_
    rintro e w1 ⟨rfl, hb⟩
    go_wp2_with fail
    go_ret
    exact ⟨rfl, hb⟩
  have e3 : decide (4611686018427387904 < a1) = false := by simpa using h3
  by_cases h4 : a2 < 0
  · have e4 : decide (a2 < 0) = true := by simpa using h4
    go_enter Try.func5, Try.ntmps5
    go_wp2_with fail
    refine (alive_any _).mono ?_
    rintro e w1 ⟨rfl, hb⟩
    go_wp2_with fail
    go_ret
    exact ⟨rfl, hb⟩
  have e4 : decide (a2 < 0) = false := by simpa using h4
  by_cases h5 : 200 < a2
  · have e5 : decide (200 < a2) = true := by simpa using h5
    go_enter Try.func5, Try.ntmps5
    go_wp2_with fail
    refine (alive_any _).mono ?_
    rintro e w1 ⟨rfl, hb⟩
    go_wp2_with fail
    go_ret
    exact ⟨rfl, hb⟩
  have e5 : decide (200 < a2) = false := by simpa using h5
  exact far_good a0 a1 a2 w (by omega) (by omega) (by omega) (by omega) (by omega) (by omega)

end Go.Proofs.Ytfgcbgingcadaaa
