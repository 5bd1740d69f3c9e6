/- The contract of window.Window's Mark. Own work. -/
import Derived.Test.YtfgcbgingcadaaaWin
namespace Go.Proofs.Ytfgcbgingcadaaa
set_option linter.unusedVariables false
set_option linter.unusedSimpArgs false
open Go.RowKit

theorem or_up {t : Int} {s : Nat} {n : Int} (hs : s < 18446744073709551616) (ht : t < n) : bits .or .u64 (IntKind.u64.wrap ((s : Int) * 2 ^ min (n - t).toNat 64)) 1 = ((markS t s n : Nat) : Int) := by
  have e0 : IntKind.u64.wrap ((s : Int) * 2 ^ min (n - t).toNat 64) = ((s * 2 ^ min (n - t).toNat 64 % 18446744073709551616 : Nat) : Int) := by
    simp [IntKind.wrap, IntKind.bits, IntKind.signed]
  have e64 : (18446744073709551616 : Nat) = 2 ^ 64 := by decide
  have e1 : s * 2 ^ min (n - t).toNat 64 % 18446744073709551616 = s * 2 ^ (n - t).toNat % 18446744073709551616 := by
    by_cases h : (n - t).toNat ≤ 64
    · rw [Nat.min_eq_left h]
    · rw [Nat.min_eq_right (by omega), e64, Nat.mul_mod_left]
      have : (n - t).toNat = ((n - t).toNat - 64) + 64 := by omega
      rw [this, Nat.pow_add, ← Nat.mul_assoc, Nat.mul_mod_left]
  rw [e0, show (1 : Int) = ((1 : Nat) : Int) from rfl, u64_or_nat _ _ (Nat.mod_lt _ (by omega)) (by omega), e1]
  unfold markS upS
  rw [if_pos ht, show (max t n - n).toNat = 0 from by omega]

theorem or_down {t : Int} {s : Nat} {n : Int} (hs : s < 18446744073709551616) (ht : n ≤ t) (h64 : t - n < 64) : bits .or .u64 (s : Int) (IntKind.u64.wrap (2 ^ (t - n).toNat)) = ((markS t s n : Nat) : Int) := by
  have hlt : 2 ^ (t - n).toNat < 18446744073709551616 := by
    have e64 : (18446744073709551616 : Nat) = 2 ^ 64 := by decide
    rw [e64]
    exact Nat.pow_lt_pow_right (by omega) (by omega)
  have e0 : IntKind.u64.wrap (2 ^ (t - n).toNat) = ((2 ^ (t - n).toNat : Nat) : Int) := by
    have : ((2 : Int) ^ (t - n).toNat) = ((2 ^ (t - n).toNat : Nat) : Int) := by simp
    rw [this]
    generalize 2 ^ (t - n).toNat = x at hlt
    simp only [IntKind.wrap, IntKind.bits, IntKind.signed]
    simp
    omega
  rw [e0, u64_or_nat _ _ hs hlt]
  unfold markS upS
  rw [if_neg (by omega), show max t n = t from by omega]

set_option maxHeartbeats 400000 in
theorem win_mark_not (t : Int) (s : Nat) (n : Int) (w : World) (hs : s < 18446744073709551616) (h0 : 0 ≤ t) (h1 : t ≤ 4611686018427387904) (hf : freshB t s n = false) :
    Calls Try.prog 10 #[.agg #[.int .i64 t, .int .u64 (s : Int)], .int .i64 n] w fun e w' => e = .returned (.tuple #[.agg #[.int .i64 t, .int .u64 (s : Int)], .bool false]) ∧ Below w.heap.size w w' := by
  have HF := Lib.hid hf
  clear hf
  go_enter Try.func10, Try.ntmps10
  go_wp2_with fail
  refine (win_fresh t s n _ hs h0 h1).mono ?_
  rintro e w1 ⟨rfl, hb⟩
  rw [HF.out]
  have HB := Lib.hid ((((Below.refl w.heap.size w).alloc (Nat.le_refl _) _).alloc (by simp) _).trans (hb.mono (by simp; omega)))
  have hz : w.heap.size + 1 < w1.heap.size := by have := hb.size; simp at this; omega
  have c0 : w1.cell? ⟨w.heap.size, 0, none⟩ = some (.int .i64 t) := (hb.cell (p := ⟨w.heap.size, 0, none⟩) (by simp <;> omega)).trans (by simp [go_sem, Array.size_push])
  have c1 : w1.cell? ⟨w.heap.size, 1, none⟩ = some (.int .u64 (s : Int)) := (hb.cell (p := ⟨w.heap.size, 1, none⟩) (by simp <;> omega)).trans (by simp [go_sem, Array.size_push])
  have c2 : w1.cell? ⟨w.heap.size + 1, 0, none⟩ = some (.int .i64 0) := (hb.cell (p := ⟨w.heap.size + 1, 0, none⟩) (by simp <;> omega)).trans (by simp [go_sem, Array.size_push])
  have c3 : w1.cell? ⟨w.heap.size + 1, 1, none⟩ = some (.int .u64 0) := (hb.cell (p := ⟨w.heap.size + 1, 1, none⟩) (by simp <;> omega)).trans (by simp [go_sem, Array.size_push])
  have f00 : w1.frozen? ⟨w.heap.size, 0, none⟩ = false := (hb.frozen (p := ⟨w.heap.size, 0, none⟩) (by simp <;> omega)).trans (by simp [go_sem, Array.size_push])
  have f01 : w1.frozen? ⟨w.heap.size, 1, none⟩ = false := (hb.frozen (p := ⟨w.heap.size, 1, none⟩) (by simp <;> omega)).trans (by simp [go_sem, Array.size_push])
  have f10 : w1.frozen? ⟨w.heap.size + 1, 0, none⟩ = false := (hb.frozen (p := ⟨w.heap.size + 1, 0, none⟩) (by simp <;> omega)).trans (by simp [go_sem, Array.size_push])
  have f11 : w1.frozen? ⟨w.heap.size + 1, 1, none⟩ = false := (hb.frozen (p := ⟨w.heap.size + 1, 1, none⟩) (by simp <;> omega)).trans (by simp [go_sem, Array.size_push])
  clear hb
  go_wp2_with fail
  refine bodyPost_ret (v := .tuple #[.agg #[.int .i64 t, .int .u64 (s : Int)], .bool false]) (by simp [results, Try.results10, go_sem, hz, c2, c3]) rfl ⟨rfl, ?_⟩
  exact (HB.out.setCell (by simp) _).setCell (by simp) _

set_option maxHeartbeats 400000 in
theorem win_mark_up (t : Int) (s : Nat) (n : Int) (w : World) (hs : s < 18446744073709551616) (h0 : 0 ≤ t) (h1 : t ≤ 4611686018427387904) (hf : freshB t s n = true) (ht : t < n) (hn : n ≤ 4611686018427387904) :
    Calls Try.prog 10 #[.agg #[.int .i64 t, .int .u64 (s : Int)], .int .i64 n] w fun e w' => e = .returned (.tuple #[.agg #[.int .i64 n, .int .u64 (markS t s n : Nat)], .bool true]) ∧ Below w.heap.size w w' := by
  have E := Lib.hid (or_up hs ht)
  have HF := Lib.hid hf
  clear hf
  go_enter Try.func10, Try.ntmps10
  go_wp2_with fail
  refine (win_fresh t s n _ hs h0 h1).mono ?_
  rintro e w1 ⟨rfl, hb⟩
  rw [HF.out]
  have HB := Lib.hid ((((Below.refl w.heap.size w).alloc (Nat.le_refl _) _).alloc (by simp) _).trans (hb.mono (by simp; omega)))
  have hz : w.heap.size + 1 < w1.heap.size := by have := hb.size; simp at this; omega
  have c0 : w1.cell? ⟨w.heap.size, 0, none⟩ = some (.int .i64 t) := (hb.cell (p := ⟨w.heap.size, 0, none⟩) (by simp <;> omega)).trans (by simp [go_sem, Array.size_push])
  have c1 : w1.cell? ⟨w.heap.size, 1, none⟩ = some (.int .u64 (s : Int)) := (hb.cell (p := ⟨w.heap.size, 1, none⟩) (by simp <;> omega)).trans (by simp [go_sem, Array.size_push])
  have c2 : w1.cell? ⟨w.heap.size + 1, 0, none⟩ = some (.int .i64 0) := (hb.cell (p := ⟨w.heap.size + 1, 0, none⟩) (by simp <;> omega)).trans (by simp [go_sem, Array.size_push])
  have c3 : w1.cell? ⟨w.heap.size + 1, 1, none⟩ = some (.int .u64 0) := (hb.cell (p := ⟨w.heap.size + 1, 1, none⟩) (by simp <;> omega)).trans (by simp [go_sem, Array.size_push])
  have f00 : w1.frozen? ⟨w.heap.size, 0, none⟩ = false := (hb.frozen (p := ⟨w.heap.size, 0, none⟩) (by simp <;> omega)).trans (by simp [go_sem, Array.size_push])
  have f01 : w1.frozen? ⟨w.heap.size, 1, none⟩ = false := (hb.frozen (p := ⟨w.heap.size, 1, none⟩) (by simp <;> omega)).trans (by simp [go_sem, Array.size_push])
  have f10 : w1.frozen? ⟨w.heap.size + 1, 0, none⟩ = false := (hb.frozen (p := ⟨w.heap.size + 1, 0, none⟩) (by simp <;> omega)).trans (by simp [go_sem, Array.size_push])
  have f11 : w1.frozen? ⟨w.heap.size + 1, 1, none⟩ = false := (hb.frozen (p := ⟨w.heap.size + 1, 1, none⟩) (by simp <;> omega)).trans (by simp [go_sem, Array.size_push])
  clear hb
  have htn : t ≤ n := by omega
  go_wp2_with fail
  rw [E.out]
  refine bodyPost_ret (v := .tuple #[.agg #[.int .i64 n, .int .u64 (markS t s n : Nat)], .bool true]) (by simp [results, Try.results10, go_sem, hz, c2, c3]) rfl ⟨rfl, ?_⟩
  exact ((((HB.out.setCell (by simp) _).setCell (by simp) _).setCell (by simp) _).setCell (by simp) _).setCell (by simp) _

set_option maxHeartbeats 400000 in
theorem win_mark_down (t : Int) (s : Nat) (n : Int) (w : World) (hs : s < 18446744073709551616) (h0 : 0 ≤ t) (h1 : t ≤ 4611686018427387904) (hf : freshB t s n = true) (ht : n ≤ t) (hn : 1 ≤ n) :
    Calls Try.prog 10 #[.agg #[.int .i64 t, .int .u64 (s : Int)], .int .i64 n] w fun e w' => e = .returned (.tuple #[.agg #[.int .i64 t, .int .u64 (markS t s n : Nat)], .bool true]) ∧ Below w.heap.size w w' := by
  have h64 : t - n < 64 := by
    have := (fresh_true.1 hf).1
    rw [oldF_eq] at this
    split at this <;> omega
  have E := Lib.hid (or_down hs ht h64)
  have HF := Lib.hid hf
  clear hf
  go_enter Try.func10, Try.ntmps10
  go_wp2_with fail
  refine (win_fresh t s n _ hs h0 h1).mono ?_
  rintro e w1 ⟨rfl, hb⟩
  rw [HF.out]
  have HB := Lib.hid ((((Below.refl w.heap.size w).alloc (Nat.le_refl _) _).alloc (by simp) _).trans (hb.mono (by simp; omega)))
  have hz : w.heap.size + 1 < w1.heap.size := by have := hb.size; simp at this; omega
  have c0 : w1.cell? ⟨w.heap.size, 0, none⟩ = some (.int .i64 t) := (hb.cell (p := ⟨w.heap.size, 0, none⟩) (by simp <;> omega)).trans (by simp [go_sem, Array.size_push])
  have c1 : w1.cell? ⟨w.heap.size, 1, none⟩ = some (.int .u64 (s : Int)) := (hb.cell (p := ⟨w.heap.size, 1, none⟩) (by simp <;> omega)).trans (by simp [go_sem, Array.size_push])
  have c2 : w1.cell? ⟨w.heap.size + 1, 0, none⟩ = some (.int .i64 0) := (hb.cell (p := ⟨w.heap.size + 1, 0, none⟩) (by simp <;> omega)).trans (by simp [go_sem, Array.size_push])
  have c3 : w1.cell? ⟨w.heap.size + 1, 1, none⟩ = some (.int .u64 0) := (hb.cell (p := ⟨w.heap.size + 1, 1, none⟩) (by simp <;> omega)).trans (by simp [go_sem, Array.size_push])
  have f00 : w1.frozen? ⟨w.heap.size, 0, none⟩ = false := (hb.frozen (p := ⟨w.heap.size, 0, none⟩) (by simp <;> omega)).trans (by simp [go_sem, Array.size_push])
  have f01 : w1.frozen? ⟨w.heap.size, 1, none⟩ = false := (hb.frozen (p := ⟨w.heap.size, 1, none⟩) (by simp <;> omega)).trans (by simp [go_sem, Array.size_push])
  have f10 : w1.frozen? ⟨w.heap.size + 1, 0, none⟩ = false := (hb.frozen (p := ⟨w.heap.size + 1, 0, none⟩) (by simp <;> omega)).trans (by simp [go_sem, Array.size_push])
  have f11 : w1.frozen? ⟨w.heap.size + 1, 1, none⟩ = false := (hb.frozen (p := ⟨w.heap.size + 1, 1, none⟩) (by simp <;> omega)).trans (by simp [go_sem, Array.size_push])
  clear hb
  have htn : decide (t < n) = false := by simpa using ht
  go_wp2_with fail
  rw [E.out]
  refine bodyPost_ret (v := .tuple #[.agg #[.int .i64 t, .int .u64 (markS t s n : Nat)], .bool true]) (by simp [results, Try.results10, go_sem, hz, c2, c3]) rfl ⟨rfl, ?_⟩
  exact ((HB.out.setCell (by simp) _).setCell (by simp) _).setCell (by simp) _

/-- Mark: the window behind it, and whether it was fresh. -/
theorem win_mark (t : Int) (s : Nat) (n : Int) (w : World) (hs : s < 18446744073709551616) (h0 : 0 ≤ t) (h1 : t ≤ 4611686018427387904) :
    Calls Try.prog 10 #[.agg #[.int .i64 t, .int .u64 (s : Int)], .int .i64 n] w fun e w' => e = .returned (.tuple #[.agg #[.int .i64 (if freshB t s n then max t n else t), .int .u64 ((if freshB t s n then markS t s n else s : Nat) : Int)], .bool (freshB t s n)]) ∧ Below w.heap.size w w' := by
  cases hf : freshB t s n
  · simpa using win_mark_not t s n w hs h0 h1 hf
  · obtain ⟨f1, f2, _⟩ := fresh_true.1 hf
    by_cases ht : t < n
    · simpa [show max t n = n from by omega] using win_mark_up t s n w hs h0 h1 hf ht f2
    · have : 1 ≤ n := by rw [oldF_eq] at f1; split at f1 <;> omega
      simpa [show max t n = t from by omega] using win_mark_down t s n w hs h0 h1 hf (by omega) this

end Go.Proofs.Ytfgcbgingcadaaa
