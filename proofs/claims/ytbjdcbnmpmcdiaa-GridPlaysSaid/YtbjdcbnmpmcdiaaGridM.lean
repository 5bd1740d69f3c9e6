/- grid.Grid: rows, cellsOf, Fill, Up, Down, Right, Left. By program (rgn/XGridM.py). Own work. -/
import Derived.Test.YtbjdcbnmpmcdiaaGridG
namespace Go.Proofs.Ytbjdcbnmpmcdiaa
set_option linter.unusedVariables false
set_option linter.unusedSimpArgs false
open Go.RowKit

def rowsA (W : Nat) (t : Int) : Nat := (max t 0).toNat * W
def rowsN (W H : Nat) (t b : Int) : Nat := (min b (H : Int) - max t 0).toNat * W

set_option maxRecDepth 100000 in
set_option maxHeartbeats 1600000 in
theorem rows_in (w : World) (p g c W H n : Nat) (f : Nat → CellM) (t b : Int) (T B : Nat) (h : GridAt w p g c W H n f) (ht : max t 0 = (T : Int)) (hb : min b (H : Int) = (B : Int)) (hTB : T < B) :
    Calls Try.prog 53 #[.pointer (some ⟨p, 0, none⟩), .int .i64 t, .int .i64 b] w (Tells w g c (T * W) ((B - T) * W)) := by
  have hBH : B ≤ H := by omega
  have h1 := Nat.mul_le_mul_right W hBH
  have hn := h.hn
  have e2 : W * H = H * W := Nat.mul_comm W H
  have hw := h.hw
  have hh := h.hh
  have hW := Lib.hid (grid_W w p g c W H n f h)
  have hH := Lib.hid (grid_H w p g c W H n f h)
  obtain ⟨P, hP⟩ : ∃ P, P = T * W := ⟨_, rfl⟩
  obtain ⟨M, hM⟩ : ∃ M, M = (B - T) * W := ⟨_, rfl⟩
  have hPM : P + M = B * W := by rw [hP, hM, ← Nat.add_mul]; congr 1; omega
  have hM0 : 0 < M := by rw [hM]; exact Nat.mul_pos (by omega) (by omega)
  have hPi : (T : Int) * (W : Int) = (P : Int) := by rw [hP]; exact (Int.natCast_mul T W).symm
  have hQi : (B : Int) * (W : Int) = (P : Int) + (M : Int) := by rw [← Int.natCast_add, hPM]; exact (Int.natCast_mul B W).symm
  have hP8 : P + M ≤ n := by rw [hPM, hn, e2]; exact h1
  have hn8 := h.n800.1
  have hw1 : IntKind.i64.wrap ((T : Int) * (W : Int)) = (P : Int) := by rw [hPi]; exact IntWalk.i64_in _ (by omega)
  have hw2 : IntKind.i64.wrap ((B : Int) * (W : Int)) = (P : Int) + (M : Int) := by rw [hQi]; exact IntWalk.i64_in _ (by omega)
  have hPL := Lib.hid (grid_places w p g c W H n f (P : Int) ((P : Int) + (M : Int)) P M h (by omega) (fun _ => by omega))
  have t1 : ¬ ((T : Int) ≥ (B : Int)) := by omega
  have t5 : (P : Int) ≤ 800 := by omega
  have t6 : (M : Int) ≤ 800 := by omega
  rw [← hP, ← hM]
  clear h h1 hn e2 hw hh hP hM hPM hP8 hn8
  go_enter Try.func53, Try.ntmps53
  go_wp2_with (first | (refine (hW.out).mono ?_; rintro e w1 ⟨rfl, rfl⟩) | (refine (hH.out).mono ?_; rintro e w1 ⟨rfl, rfl⟩))
  refine hPL.out.mono ?_
  rintro e w2 ⟨⟨k, rfl⟩, ⟨hz, rfl⟩ | ⟨hz, rfl⟩⟩
  · exact absurd hz (by omega)
  · have HZ := Lib.hid hz
    clear hz
    go_wp2_with fail
    go_ret
    exact ⟨⟨k, rfl⟩, .inr ⟨HZ.out, rfl⟩⟩

set_option maxRecDepth 100000 in
set_option maxHeartbeats 1600000 in
theorem rows_out (w : World) (p g c W H n : Nat) (f : Nat → CellM) (t b T B : Int) (h : GridAt w p g c W H n f) (ht : max t 0 = T) (hb : min b (H : Int) = B) (hTB : T ≥ B) :
    Calls Try.prog 53 #[.pointer (some ⟨p, 0, none⟩), .int .i64 t, .int .i64 b] w fun e w' => e = .returned (.slice none 0 0) ∧ w' = w := by
  have hH := Lib.hid (grid_H w p g c W H n f h)
  clear h
  go_enter Try.func53, Try.ntmps53
  go_wp2_with ((refine (hH.out).mono ?_; rintro e w1 ⟨rfl, rfl⟩))
  go_ret
  exact ⟨rfl, rfl⟩

theorem grid_rows (w : World) (p g c W H n : Nat) (f : Nat → CellM) (t b : Int) (h : GridAt w p g c W H n f) :
    Calls Try.prog 53 #[.pointer (some ⟨p, 0, none⟩), .int .i64 t, .int .i64 b] w (Tells w g c (rowsA W t) (rowsN W H t b)) := by
  by_cases hi : max t 0 < min b (H : Int)
  · have := rows_in w p g c W H n f t b (max t 0).toNat (min b (H : Int)).toNat h (by omega) (by omega) (by omega)
    unfold rowsA rowsN
    rwa [show (min b (H : Int) - max t 0).toNat = (min b (H : Int)).toNat - (max t 0).toNat from by omega]
  · refine (rows_out w p g c W H n f t b _ _ h rfl rfl (by omega)).mono ?_
    rintro e w' ⟨rfl, rfl⟩
    unfold rowsN
    rw [show (min b (H : Int) - max t 0).toNat = 0 from by omega, Nat.zero_mul]
    exact ⟨⟨0, rfl⟩, .inl ⟨rfl, rfl⟩⟩
theorem rowsN_le {W H n : Nat} (hn : n = W * H) (t b : Int) (h0 : 0 < rowsN W H t b) : rowsA W t + rowsN W H t b ≤ n := by
  unfold rowsN rowsA at *
  rw [← Nat.add_mul, hn, Nat.mul_comm W H]
  refine Nat.mul_le_mul_right W ?_
  have : 0 < (min b (H : Int) - max t 0).toNat := Nat.pos_of_mul_pos_right h0
  omega

set_option maxHeartbeats 800000 in
theorem grid_cellsOf (w : World) (p g c W H n : Nat) (f : Nat → CellM) (k : Int) (j : Nat) (h : GridAt w p g c W H n f) (hj : min (max k 0) (H : Int) = (j : Int)) :
    Calls Try.prog 54 #[.pointer (some ⟨p, 0, none⟩), .int .i64 k] w fun e w' => e = .returned (.int .i64 ((j * W : Nat) : Int)) ∧ w' = w := by
  have hW := Lib.hid (grid_W w p g c W H n f h)
  have hH := Lib.hid (grid_H w p g c W H n f h)
  have hX : Hid (∀ V, Calls Try.prog 44 #[.int .i64 k, .int .i64 0, .int .i64 H] V fun e w' => e = .returned (.int .i64 j) ∧ w' = V) := Lib.hid (fun V => by have := within_any k 0 H V; rwa [hj] at this)
  have h8 : j * W ≤ 800 := Nat.mul_le_mul (show j ≤ 20 by have := h.hh.2; omega) h.hw.2
  obtain ⟨P, hP⟩ : ∃ P, P = j * W := ⟨_, rfl⟩
  have hPi : (j : Int) * (W : Int) = (P : Int) := by rw [hP]; exact (Int.natCast_mul j W).symm
  have hw1 : IntKind.i64.wrap ((j : Int) * (W : Int)) = (P : Int) := by rw [hPi]; exact IntWalk.i64_in _ (by omega)
  have t5 : (P : Int) ≤ 800 := by omega
  rw [← hP]
  clear h hj hP h8
  go_enter Try.func54, Try.ntmps54
  go_wp2_with (first | (refine (hW.out).mono ?_; rintro e w1 ⟨rfl, rfl⟩) | (refine (hH.out).mono ?_; rintro e w1 ⟨rfl, rfl⟩) | (refine (hX.out _).mono ?_; rintro e w1 ⟨rfl, rfl⟩))
  go_ret
  exact ⟨rfl, rfl⟩

theorem Tells.slK {w w' : World} {p g c W H n a m : Nat} {f : Nat → CellM} {e : Ending} (t : Tells w g c a m e w') (h : GridAt w p g c W H n f) (ha : 0 < m → a + m ≤ n) :
    ∃ (A : Option Addr) (c' : Nat), e = .returned (.slice A m c') ∧ Keep (fun _ => False) w w' ∧ c' ≤ 9223372036854775807 ∧ Sl w' A g (a * 6) m c' (fun k => f (a + k)) := by
  obtain ⟨A, c', k, rfl, rfl, hc, hs⟩ := t.sl h ha
  exact ⟨A, c', rfl, (Keep.refl _ w).drewN k, hc, hs.drewN k⟩

set_option maxRecDepth 100000 in
set_option maxHeartbeats 3200000 in
theorem grid_fill (w : World) (p g c W H n : Nat) (f : Nat → CellM) (s t : Int) (a0 m0 : Nat) (x : CellM) (h : GridAt w p g c W H n f) (hm0 : m0 = (min t (n : Int) - max s 0).toNat) (ha0 : 0 < m0 → max s 0 = (a0 : Int)) :
    Calls Try.prog 15 #[.pointer (some ⟨p, 0, none⟩), .int .i64 s, .int .i64 t, x.v] w fun e w' => e = .returned (.tuple #[]) ∧ PutC g (a0 * 6) (m0) (fun _ => x) w w' := by
  obtain ⟨w1, hw1⟩ : ∃ w1, w1 = w.alloc (.cells (vcells x) 42) := ⟨_, rfl⟩
  have HK1 : Hid (Keep (fun _ => False) w w1) := Lib.hid (by rw [hw1]; exact (Keep.refl _ w).alloc _)
  have HQ1 : Hid (w1.heap[w.heap.size]? = some (.cells (vcells x) 42 (0, 0))) := Lib.hid (by rw [hw1]; exact heap_alloc_new w _)
  have HG1 := Lib.hid (h.keep HK1.out (fun y => y) (fun y => y))
  have HN := Lib.hid h.n800.1
  have HG := Lib.hid h.hg
  have hle : Hid (0 < m0 → a0 + m0 ≤ n) := Lib.hid (fun hz => by have := ha0 hz; omega)
  have HR : Hid (∀ V, Keep (fun _ => False) w1 V → Calls Try.prog 51 #[.pointer (some ⟨p, 0, none⟩), .int .i64 s, .int .i64 t] V (Tells V g c (a0) (m0))) := Lib.hid (fun V k => grid_places V p g c W H n f s t a0 m0 (HG1.out.keep k (fun y => y) (fun y => y)) hm0 ha0)
  obtain ⟨a, haq⟩ : ∃ a, a = a0 := ⟨_, rfl⟩
  obtain ⟨m, hmq⟩ : ∃ m, m = m0 := ⟨_, rfl⟩
  rw [← haq, ← hmq] at HR hle
  rw [← haq, ← hmq]
  have HMQ := Lib.hid hmq
  have HM8 : Hid (m ≤ 100000) := Lib.hid (by
    have h8 := HN.out
    rcases Nat.eq_zero_or_pos m with e | e
    · omega
    · have := hle.out e; omega)
  have hgp : g < w1.heap.size := HG1.out.hg
  clear h haq hmq
  simp only [CellM.v]
  unfold vcells at hw1
  go_enter Try.func15, Try.ntmps15
  go_upto_region 1 with fail
  rw [← hw1]
  obtain ⟨q, hq⟩ : ∃ q, q = w.heap.size := ⟨_, rfl⟩
  rw [← hq] at HQ1
  rw [← hq]
  have hgq : g ≠ q := by have := HG.out; omega
  clear hw1 hq
  refine wp_region_noPanic ?_
  refine wp_region_held_drew (S := fun w' => w'.cell? ⟨q, 0, none⟩ = some (.int .i32 x.r) ∧ w'.cell? ⟨q, 1, none⟩ = some (.int .i64 x.a.fg) ∧ w'.cell? ⟨q, 2, none⟩ = some (.int .i64 x.a.bg) ∧ w'.cell? ⟨q, 3, none⟩ = some (.bool x.a.b) ∧ w'.cell? ⟨q, 4, none⟩ = some (.bool x.a.u) ∧ w'.cell? ⟨q, 5, none⟩ = some (.bool x.a.i)) (by kernel_rfl) (cells_six HQ1.out) (fun hHeld => ?_)
  refine wpAnyH_take (i := 0) (oi := _) (v := ?va0) rfl (by kernel_rfl) (by kernel_rfl) (by kernel_rfl) (fun _ _ _ h => h) (Or.inl ⟨by rfl, ?hya0⟩) (by assumption) ?resta0
  case hya0 => (intro w hSw; (try dsimp only at hSw); (try simp only [List.getElem_toArray, List.getElem_cons_zero, List.getElem_cons_succ]); go_simp; (try with_reducible rfl))
  (try simp only [Act.put, List.setIfInBounds_toArray, List.set_cons_zero, List.set_cons_succ, List.getElem_toArray, List.getElem_cons_zero, List.getElem_cons_succ])
  refine wpAnyH_take (i := 1) (oi := _) (v := ?va1) rfl (by kernel_rfl) (by kernel_rfl) (by kernel_rfl) (fun _ _ _ h => h) (Or.inl ⟨by rfl, ?hya1⟩) (by assumption) ?resta1
  case hya1 => (intro w hSw; (try dsimp only at hSw); (try simp only [List.getElem_toArray, List.getElem_cons_zero, List.getElem_cons_succ]); go_simp; (try with_reducible rfl))
  (try simp only [Act.put, List.setIfInBounds_toArray, List.set_cons_zero, List.set_cons_succ, List.getElem_toArray, List.getElem_cons_zero, List.getElem_cons_succ])
  refine wpAnyH_take (i := 2) (oi := _) (v := ?va2) rfl (by kernel_rfl) (by kernel_rfl) (by kernel_rfl) (fun _ _ _ h => h) (Or.inl ⟨by rfl, ?hya2⟩) (by assumption) ?resta2
  case hya2 => (intro w hSw; (try dsimp only at hSw); (try simp only [List.getElem_toArray, List.getElem_cons_zero, List.getElem_cons_succ]); go_simp; (try with_reducible rfl))
  (try simp only [Act.put, List.setIfInBounds_toArray, List.set_cons_zero, List.set_cons_succ, List.getElem_toArray, List.getElem_cons_zero, List.getElem_cons_succ])
  refine wpAnyH_take (i := 4) (oi := _) (v := ?va4) rfl (by kernel_rfl) (by kernel_rfl) (by kernel_rfl) (fun _ _ _ h => h) (Or.inl ⟨by rfl, ?hya4⟩) (by assumption) ?resta4
  case hya4 => (intro w hSw; (try dsimp only at hSw); (try simp only [List.getElem_toArray, List.getElem_cons_zero, List.getElem_cons_succ]); go_simp; (try with_reducible rfl))
  (try simp only [Act.put, List.setIfInBounds_toArray, List.set_cons_zero, List.set_cons_succ, List.getElem_toArray, List.getElem_cons_zero, List.getElem_cons_succ])
  refine wpAnyH_ready (rs := [3]) (by kernel_rfl) (by simp) ?_
  refine AllReadyH.cons (o := _) rfl (fun K hK => ?_) AllReadyH.nil
  (try simp only [List.getElem_toArray, List.getElem_cons_zero, List.getElem_cons_succ])
  go_simp
  refine (HR.out _ ((Keep.refl _ w1).drew)).mono ?_; rintro e w2 ht; obtain ⟨A2, c2, rfl, k2, hc2, hs2⟩ := ht.slK (HG1.out.keep ((Keep.refl (fun _ => False) w1).drew) (fun y => y) (fun y => y)) hle.out; have K2 : Hid (Keep (fun _ => False) w1 w2) := Lib.hid (((Keep.refl (fun _ => False) w1).drew).trans k2 (fun _ _ y => y)); have HS2 := Lib.hid hs2; have HQ2 := Lib.hid (K2.out.heap HQ1.out (fun y => y)); have hg2 : g < w2.heap.size := (by have := K2.out.size; omega); clear ht hs2 k2
  refine hK.out _ _ ?_ (fun hHeld => ?_)
  · exact cells_six HQ2.out
  clear hK K
  (try simp only [Act.put, List.setIfInBounds_toArray, List.set_cons_zero, List.set_cons_succ, List.getElem_toArray, List.getElem_cons_zero, List.getElem_cons_succ])
  refine wpAnyH_ready (rs := [5]) (by kernel_rfl) (by simp) ?_
  refine AllReadyH.cons (o := _) rfl (fun K hK => ?_) AllReadyH.nil
  (try simp only [List.getElem_toArray, List.getElem_cons_zero, List.getElem_cons_succ])
  go_simp
  refine (fill_any A2 g (a * 6) m c2 _ x w2 HS2.out.slc HM8.out).mono ?_; rintro e w4 ⟨rfl, hf⟩; have HF4 := Lib.hid hf; have HQ4 := Lib.hid (hf.keep.heap HQ2.out (fun e => hgq e.symm)); clear hf
  refine hK.out _ _ ?_ (fun hHeld => ?_)
  · exact cells_six HQ4.out
  clear hK K
  (try simp only [Act.put, List.setIfInBounds_toArray, List.set_cons_zero, List.set_cons_succ, List.getElem_toArray, List.getElem_cons_zero, List.getElem_cons_succ])
  refine wpAnyH_done (by kernel_rfl) ?_ _
  refine NoPanic.normal ?_
  go_end0
  exact ⟨rfl, PutC.keep_then (HK1.out.trans K2.out (fun _ _ y => y)) HG.out (HF4.out.put hg2)⟩

set_option maxRecDepth 100000 in
set_option maxHeartbeats 3200000 in
theorem grid_up (w : World) (p g c W H n : Nat) (f : Nat → CellM) (t b k : Int) (j : Nat) (x : CellM) (h : GridAt w p g c W H n f) (hj : min (max k 0) (H : Int) = (j : Int)) :
    Calls Try.prog 17 #[.pointer (some ⟨p, 0, none⟩), .int .i64 t, .int .i64 b, .int .i64 k, x.v] w fun e w' => e = .returned (.tuple #[]) ∧ PutC g ((rowsA W t) * 6) ((rowsN W H t b)) (frontF (fun i => f (rowsA W t + i)) (rowsN W H t b) (min (j * W) (rowsN W H t b)) x) w w' := by
  obtain ⟨w1, hw1⟩ : ∃ w1, w1 = w.alloc (.cells (vcells x) 42) := ⟨_, rfl⟩
  have HK1 : Hid (Keep (fun _ => False) w w1) := Lib.hid (by rw [hw1]; exact (Keep.refl _ w).alloc _)
  have HQ1 : Hid (w1.heap[w.heap.size]? = some (.cells (vcells x) 42 (0, 0))) := Lib.hid (by rw [hw1]; exact heap_alloc_new w _)
  have HG1 := Lib.hid (h.keep HK1.out (fun y => y) (fun y => y))
  have HN := Lib.hid h.n800.1
  have HG := Lib.hid h.hg
  have hle : Hid (0 < (rowsN W H t b) → (rowsA W t) + (rowsN W H t b) ≤ n) := Lib.hid (fun hz => rowsN_le h.hn t b hz)
  have HR : Hid (∀ V, Keep (fun _ => False) w1 V → Calls Try.prog 53 #[.pointer (some ⟨p, 0, none⟩), .int .i64 t, .int .i64 b] V (Tells V g c ((rowsA W t)) ((rowsN W H t b)))) := Lib.hid (fun V k => (grid_rows V p g c W H n f t b (HG1.out.keep k (fun y => y) (fun y => y))))
  have HC : Hid (∀ V, Keep (fun _ => False) w1 V → Calls Try.prog 54 #[.pointer (some ⟨p, 0, none⟩), .int .i64 k] V fun e w' => e = .returned (.int .i64 ((j * W : Nat) : Int)) ∧ w' = V) := Lib.hid (fun V q => grid_cellsOf V p g c W H n f k j (HG1.out.keep q (fun y => y) (fun y => y)) hj)
  obtain ⟨a, haq⟩ : ∃ a, a = (rowsA W t) := ⟨_, rfl⟩
  obtain ⟨m, hmq⟩ : ∃ m, m = (rowsN W H t b) := ⟨_, rfl⟩
  rw [← haq, ← hmq] at HR hle
  rw [← haq, ← hmq]
  have HMQ := Lib.hid hmq
  have HM8 : Hid (m ≤ 100000) := Lib.hid (by
    have h8 := HN.out
    rcases Nat.eq_zero_or_pos m with e | e
    · omega
    · have := hle.out e; omega)
  have hgp : g < w1.heap.size := HG1.out.hg
  clear h haq hmq
  simp only [CellM.v]
  unfold vcells at hw1
  go_enter Try.func17, Try.ntmps17
  go_upto_region 1 with fail
  rw [← hw1]
  obtain ⟨q, hq⟩ : ∃ q, q = w.heap.size := ⟨_, rfl⟩
  rw [← hq] at HQ1
  rw [← hq]
  have hgq : g ≠ q := by have := HG.out; omega
  clear hw1 hq
  refine wp_region_noPanic ?_
  refine wp_region_held_drew (S := fun w' => w'.cell? ⟨q, 0, none⟩ = some (.int .i32 x.r) ∧ w'.cell? ⟨q, 1, none⟩ = some (.int .i64 x.a.fg) ∧ w'.cell? ⟨q, 2, none⟩ = some (.int .i64 x.a.bg) ∧ w'.cell? ⟨q, 3, none⟩ = some (.bool x.a.b) ∧ w'.cell? ⟨q, 4, none⟩ = some (.bool x.a.u) ∧ w'.cell? ⟨q, 5, none⟩ = some (.bool x.a.i)) (by kernel_rfl) (cells_six HQ1.out) (fun hHeld => ?_)
  refine wpAnyH_take (i := 0) (oi := _) (v := ?va0) rfl (by kernel_rfl) (by kernel_rfl) (by kernel_rfl) (fun _ _ _ h => h) (Or.inl ⟨by rfl, ?hya0⟩) (by assumption) ?resta0
  case hya0 => (intro w hSw; (try dsimp only at hSw); (try simp only [List.getElem_toArray, List.getElem_cons_zero, List.getElem_cons_succ]); go_simp; (try with_reducible rfl))
  (try simp only [Act.put, List.setIfInBounds_toArray, List.set_cons_zero, List.set_cons_succ, List.getElem_toArray, List.getElem_cons_zero, List.getElem_cons_succ])
  refine wpAnyH_take (i := 1) (oi := _) (v := ?va1) rfl (by kernel_rfl) (by kernel_rfl) (by kernel_rfl) (fun _ _ _ h => h) (Or.inl ⟨by rfl, ?hya1⟩) (by assumption) ?resta1
  case hya1 => (intro w hSw; (try dsimp only at hSw); (try simp only [List.getElem_toArray, List.getElem_cons_zero, List.getElem_cons_succ]); go_simp; (try with_reducible rfl))
  (try simp only [Act.put, List.setIfInBounds_toArray, List.set_cons_zero, List.set_cons_succ, List.getElem_toArray, List.getElem_cons_zero, List.getElem_cons_succ])
  refine wpAnyH_take (i := 2) (oi := _) (v := ?va2) rfl (by kernel_rfl) (by kernel_rfl) (by kernel_rfl) (fun _ _ _ h => h) (Or.inl ⟨by rfl, ?hya2⟩) (by assumption) ?resta2
  case hya2 => (intro w hSw; (try dsimp only at hSw); (try simp only [List.getElem_toArray, List.getElem_cons_zero, List.getElem_cons_succ]); go_simp; (try with_reducible rfl))
  (try simp only [Act.put, List.setIfInBounds_toArray, List.set_cons_zero, List.set_cons_succ, List.getElem_toArray, List.getElem_cons_zero, List.getElem_cons_succ])
  refine wpAnyH_take (i := 4) (oi := _) (v := ?va4) rfl (by kernel_rfl) (by kernel_rfl) (by kernel_rfl) (fun _ _ _ h => h) (Or.inl ⟨by rfl, ?hya4⟩) (by assumption) ?resta4
  case hya4 => (intro w hSw; (try dsimp only at hSw); (try simp only [List.getElem_toArray, List.getElem_cons_zero, List.getElem_cons_succ]); go_simp; (try with_reducible rfl))
  (try simp only [Act.put, List.setIfInBounds_toArray, List.set_cons_zero, List.set_cons_succ, List.getElem_toArray, List.getElem_cons_zero, List.getElem_cons_succ])
  refine wpAnyH_take (i := 5) (oi := _) (v := ?va5) rfl (by kernel_rfl) (by kernel_rfl) (by kernel_rfl) (fun _ _ _ h => h) (Or.inl ⟨by rfl, ?hya5⟩) (by assumption) ?resta5
  case hya5 => (intro w hSw; (try dsimp only at hSw); (try simp only [List.getElem_toArray, List.getElem_cons_zero, List.getElem_cons_succ]); go_simp; (try with_reducible rfl))
  (try simp only [Act.put, List.setIfInBounds_toArray, List.set_cons_zero, List.set_cons_succ, List.getElem_toArray, List.getElem_cons_zero, List.getElem_cons_succ])
  refine wpAnyH_take (i := 7) (oi := _) (v := ?va7) rfl (by kernel_rfl) (by kernel_rfl) (by kernel_rfl) (fun _ _ _ h => h) (Or.inl ⟨by rfl, ?hya7⟩) (by assumption) ?resta7
  case hya7 => (intro w hSw; (try dsimp only at hSw); (try simp only [List.getElem_toArray, List.getElem_cons_zero, List.getElem_cons_succ]); go_simp; (try with_reducible rfl))
  (try simp only [Act.put, List.setIfInBounds_toArray, List.set_cons_zero, List.set_cons_succ, List.getElem_toArray, List.getElem_cons_zero, List.getElem_cons_succ])
  refine wpAnyH_ready (rs := [3]) (by kernel_rfl) (by simp) ?_
  refine AllReadyH.cons (o := _) rfl (fun K hK => ?_) AllReadyH.nil
  (try simp only [List.getElem_toArray, List.getElem_cons_zero, List.getElem_cons_succ])
  go_simp
  refine (HR.out _ ((Keep.refl _ w1).drew)).mono ?_; rintro e w2 ht; obtain ⟨A2, c2, rfl, k2, hc2, hs2⟩ := ht.slK (HG1.out.keep ((Keep.refl (fun _ => False) w1).drew) (fun y => y) (fun y => y)) hle.out; have K2 : Hid (Keep (fun _ => False) w1 w2) := Lib.hid (((Keep.refl (fun _ => False) w1).drew).trans k2 (fun _ _ y => y)); have HS2 := Lib.hid hs2; have HQ2 := Lib.hid (K2.out.heap HQ1.out (fun y => y)); have hg2 : g < w2.heap.size := (by have := K2.out.size; omega); clear ht hs2 k2
  refine hK.out _ _ ?_ (fun hHeld => ?_)
  · exact cells_six HQ2.out
  clear hK K
  (try simp only [Act.put, List.setIfInBounds_toArray, List.set_cons_zero, List.set_cons_succ, List.getElem_toArray, List.getElem_cons_zero, List.getElem_cons_succ])
  refine wpAnyH_ready (rs := [6]) (by kernel_rfl) (by simp) ?_
  refine AllReadyH.cons (o := _) rfl (fun K hK => ?_) AllReadyH.nil
  (try simp only [List.getElem_toArray, List.getElem_cons_zero, List.getElem_cons_succ])
  go_simp
  refine (HC.out w2 K2.out).mono ?_; rintro e w3 ⟨rfl, rfl⟩
  refine hK.out _ _ ?_ (fun hHeld => ?_)
  · exact cells_six HQ2.out
  clear hK K
  (try simp only [Act.put, List.setIfInBounds_toArray, List.set_cons_zero, List.set_cons_succ, List.getElem_toArray, List.getElem_cons_zero, List.getElem_cons_succ])
  refine wpAnyH_ready (rs := [8]) (by kernel_rfl) (by simp) ?_
  refine AllReadyH.cons (o := _) rfl (fun K hK => ?_) AllReadyH.nil
  (try simp only [List.getElem_toArray, List.getElem_cons_zero, List.getElem_cons_succ])
  go_simp
  refine (toFront_any A2 g (a * 6) m c2 _ x _ (min (j * W) m) _ HS2.out HM8.out hc2 (by omega)).mono ?_; rintro e w4 ⟨rfl, hf⟩; have HF4 := Lib.hid hf; have HQ4 := Lib.hid (hf.keep.heap HQ2.out (fun e => hgq e.symm)); clear hf
  refine hK.out _ _ ?_ (fun hHeld => ?_)
  · exact cells_six HQ4.out
  clear hK K
  (try simp only [Act.put, List.setIfInBounds_toArray, List.set_cons_zero, List.set_cons_succ, List.getElem_toArray, List.getElem_cons_zero, List.getElem_cons_succ])
  refine wpAnyH_done (by kernel_rfl) ?_ _
  refine NoPanic.normal ?_
  go_end0
  exact ⟨rfl, PutC.keep_then (HK1.out.trans K2.out (fun _ _ y => y)) HG.out (HF4.out.put hg2)⟩

set_option maxRecDepth 100000 in
set_option maxHeartbeats 3200000 in
theorem grid_down (w : World) (p g c W H n : Nat) (f : Nat → CellM) (t b k : Int) (j : Nat) (x : CellM) (h : GridAt w p g c W H n f) (hj : min (max k 0) (H : Int) = (j : Int)) :
    Calls Try.prog 19 #[.pointer (some ⟨p, 0, none⟩), .int .i64 t, .int .i64 b, .int .i64 k, x.v] w fun e w' => e = .returned (.tuple #[]) ∧ PutC g ((rowsA W t) * 6) ((rowsN W H t b)) (backF (fun i => f (rowsA W t + i)) (min (j * W) (rowsN W H t b)) x) w w' := by
  obtain ⟨w1, hw1⟩ : ∃ w1, w1 = w.alloc (.cells (vcells x) 42) := ⟨_, rfl⟩
  have HK1 : Hid (Keep (fun _ => False) w w1) := Lib.hid (by rw [hw1]; exact (Keep.refl _ w).alloc _)
  have HQ1 : Hid (w1.heap[w.heap.size]? = some (.cells (vcells x) 42 (0, 0))) := Lib.hid (by rw [hw1]; exact heap_alloc_new w _)
  have HG1 := Lib.hid (h.keep HK1.out (fun y => y) (fun y => y))
  have HN := Lib.hid h.n800.1
  have HG := Lib.hid h.hg
  have hle : Hid (0 < (rowsN W H t b) → (rowsA W t) + (rowsN W H t b) ≤ n) := Lib.hid (fun hz => rowsN_le h.hn t b hz)
  have HR : Hid (∀ V, Keep (fun _ => False) w1 V → Calls Try.prog 53 #[.pointer (some ⟨p, 0, none⟩), .int .i64 t, .int .i64 b] V (Tells V g c ((rowsA W t)) ((rowsN W H t b)))) := Lib.hid (fun V k => (grid_rows V p g c W H n f t b (HG1.out.keep k (fun y => y) (fun y => y))))
  have HC : Hid (∀ V, Keep (fun _ => False) w1 V → Calls Try.prog 54 #[.pointer (some ⟨p, 0, none⟩), .int .i64 k] V fun e w' => e = .returned (.int .i64 ((j * W : Nat) : Int)) ∧ w' = V) := Lib.hid (fun V q => grid_cellsOf V p g c W H n f k j (HG1.out.keep q (fun y => y) (fun y => y)) hj)
  obtain ⟨a, haq⟩ : ∃ a, a = (rowsA W t) := ⟨_, rfl⟩
  obtain ⟨m, hmq⟩ : ∃ m, m = (rowsN W H t b) := ⟨_, rfl⟩
  rw [← haq, ← hmq] at HR hle
  rw [← haq, ← hmq]
  have HMQ := Lib.hid hmq
  have HM8 : Hid (m ≤ 100000) := Lib.hid (by
    have h8 := HN.out
    rcases Nat.eq_zero_or_pos m with e | e
    · omega
    · have := hle.out e; omega)
  have hgp : g < w1.heap.size := HG1.out.hg
  clear h haq hmq
  simp only [CellM.v]
  unfold vcells at hw1
  go_enter Try.func19, Try.ntmps19
  go_upto_region 1 with fail
  rw [← hw1]
  obtain ⟨q, hq⟩ : ∃ q, q = w.heap.size := ⟨_, rfl⟩
  rw [← hq] at HQ1
  rw [← hq]
  have hgq : g ≠ q := by have := HG.out; omega
  clear hw1 hq
  refine wp_region_noPanic ?_
  refine wp_region_held_drew (S := fun w' => w'.cell? ⟨q, 0, none⟩ = some (.int .i32 x.r) ∧ w'.cell? ⟨q, 1, none⟩ = some (.int .i64 x.a.fg) ∧ w'.cell? ⟨q, 2, none⟩ = some (.int .i64 x.a.bg) ∧ w'.cell? ⟨q, 3, none⟩ = some (.bool x.a.b) ∧ w'.cell? ⟨q, 4, none⟩ = some (.bool x.a.u) ∧ w'.cell? ⟨q, 5, none⟩ = some (.bool x.a.i)) (by kernel_rfl) (cells_six HQ1.out) (fun hHeld => ?_)
  refine wpAnyH_take (i := 0) (oi := _) (v := ?va0) rfl (by kernel_rfl) (by kernel_rfl) (by kernel_rfl) (fun _ _ _ h => h) (Or.inl ⟨by rfl, ?hya0⟩) (by assumption) ?resta0
  case hya0 => (intro w hSw; (try dsimp only at hSw); (try simp only [List.getElem_toArray, List.getElem_cons_zero, List.getElem_cons_succ]); go_simp; (try with_reducible rfl))
  (try simp only [Act.put, List.setIfInBounds_toArray, List.set_cons_zero, List.set_cons_succ, List.getElem_toArray, List.getElem_cons_zero, List.getElem_cons_succ])
  refine wpAnyH_take (i := 1) (oi := _) (v := ?va1) rfl (by kernel_rfl) (by kernel_rfl) (by kernel_rfl) (fun _ _ _ h => h) (Or.inl ⟨by rfl, ?hya1⟩) (by assumption) ?resta1
  case hya1 => (intro w hSw; (try dsimp only at hSw); (try simp only [List.getElem_toArray, List.getElem_cons_zero, List.getElem_cons_succ]); go_simp; (try with_reducible rfl))
  (try simp only [Act.put, List.setIfInBounds_toArray, List.set_cons_zero, List.set_cons_succ, List.getElem_toArray, List.getElem_cons_zero, List.getElem_cons_succ])
  refine wpAnyH_take (i := 2) (oi := _) (v := ?va2) rfl (by kernel_rfl) (by kernel_rfl) (by kernel_rfl) (fun _ _ _ h => h) (Or.inl ⟨by rfl, ?hya2⟩) (by assumption) ?resta2
  case hya2 => (intro w hSw; (try dsimp only at hSw); (try simp only [List.getElem_toArray, List.getElem_cons_zero, List.getElem_cons_succ]); go_simp; (try with_reducible rfl))
  (try simp only [Act.put, List.setIfInBounds_toArray, List.set_cons_zero, List.set_cons_succ, List.getElem_toArray, List.getElem_cons_zero, List.getElem_cons_succ])
  refine wpAnyH_take (i := 4) (oi := _) (v := ?va4) rfl (by kernel_rfl) (by kernel_rfl) (by kernel_rfl) (fun _ _ _ h => h) (Or.inl ⟨by rfl, ?hya4⟩) (by assumption) ?resta4
  case hya4 => (intro w hSw; (try dsimp only at hSw); (try simp only [List.getElem_toArray, List.getElem_cons_zero, List.getElem_cons_succ]); go_simp; (try with_reducible rfl))
  (try simp only [Act.put, List.setIfInBounds_toArray, List.set_cons_zero, List.set_cons_succ, List.getElem_toArray, List.getElem_cons_zero, List.getElem_cons_succ])
  refine wpAnyH_take (i := 5) (oi := _) (v := ?va5) rfl (by kernel_rfl) (by kernel_rfl) (by kernel_rfl) (fun _ _ _ h => h) (Or.inl ⟨by rfl, ?hya5⟩) (by assumption) ?resta5
  case hya5 => (intro w hSw; (try dsimp only at hSw); (try simp only [List.getElem_toArray, List.getElem_cons_zero, List.getElem_cons_succ]); go_simp; (try with_reducible rfl))
  (try simp only [Act.put, List.setIfInBounds_toArray, List.set_cons_zero, List.set_cons_succ, List.getElem_toArray, List.getElem_cons_zero, List.getElem_cons_succ])
  refine wpAnyH_take (i := 7) (oi := _) (v := ?va7) rfl (by kernel_rfl) (by kernel_rfl) (by kernel_rfl) (fun _ _ _ h => h) (Or.inl ⟨by rfl, ?hya7⟩) (by assumption) ?resta7
  case hya7 => (intro w hSw; (try dsimp only at hSw); (try simp only [List.getElem_toArray, List.getElem_cons_zero, List.getElem_cons_succ]); go_simp; (try with_reducible rfl))
  (try simp only [Act.put, List.setIfInBounds_toArray, List.set_cons_zero, List.set_cons_succ, List.getElem_toArray, List.getElem_cons_zero, List.getElem_cons_succ])
  refine wpAnyH_ready (rs := [3]) (by kernel_rfl) (by simp) ?_
  refine AllReadyH.cons (o := _) rfl (fun K hK => ?_) AllReadyH.nil
  (try simp only [List.getElem_toArray, List.getElem_cons_zero, List.getElem_cons_succ])
  go_simp
  refine (HR.out _ ((Keep.refl _ w1).drew)).mono ?_; rintro e w2 ht; obtain ⟨A2, c2, rfl, k2, hc2, hs2⟩ := ht.slK (HG1.out.keep ((Keep.refl (fun _ => False) w1).drew) (fun y => y) (fun y => y)) hle.out; have K2 : Hid (Keep (fun _ => False) w1 w2) := Lib.hid (((Keep.refl (fun _ => False) w1).drew).trans k2 (fun _ _ y => y)); have HS2 := Lib.hid hs2; have HQ2 := Lib.hid (K2.out.heap HQ1.out (fun y => y)); have hg2 : g < w2.heap.size := (by have := K2.out.size; omega); clear ht hs2 k2
  refine hK.out _ _ ?_ (fun hHeld => ?_)
  · exact cells_six HQ2.out
  clear hK K
  (try simp only [Act.put, List.setIfInBounds_toArray, List.set_cons_zero, List.set_cons_succ, List.getElem_toArray, List.getElem_cons_zero, List.getElem_cons_succ])
  refine wpAnyH_ready (rs := [6]) (by kernel_rfl) (by simp) ?_
  refine AllReadyH.cons (o := _) rfl (fun K hK => ?_) AllReadyH.nil
  (try simp only [List.getElem_toArray, List.getElem_cons_zero, List.getElem_cons_succ])
  go_simp
  refine (HC.out w2 K2.out).mono ?_; rintro e w3 ⟨rfl, rfl⟩
  refine hK.out _ _ ?_ (fun hHeld => ?_)
  · exact cells_six HQ2.out
  clear hK K
  (try simp only [Act.put, List.setIfInBounds_toArray, List.set_cons_zero, List.set_cons_succ, List.getElem_toArray, List.getElem_cons_zero, List.getElem_cons_succ])
  refine wpAnyH_ready (rs := [8]) (by kernel_rfl) (by simp) ?_
  refine AllReadyH.cons (o := _) rfl (fun K hK => ?_) AllReadyH.nil
  (try simp only [List.getElem_toArray, List.getElem_cons_zero, List.getElem_cons_succ])
  go_simp
  refine (toBack_any A2 g (a * 6) m c2 _ x _ (min (j * W) m) _ HS2.out HM8.out hc2 (by omega)).mono ?_; rintro e w4 ⟨rfl, hf⟩; have HF4 := Lib.hid hf; have HQ4 := Lib.hid (hf.keep.heap HQ2.out (fun e => hgq e.symm)); clear hf
  refine hK.out _ _ ?_ (fun hHeld => ?_)
  · exact cells_six HQ4.out
  clear hK K
  (try simp only [Act.put, List.setIfInBounds_toArray, List.set_cons_zero, List.set_cons_succ, List.getElem_toArray, List.getElem_cons_zero, List.getElem_cons_succ])
  refine wpAnyH_done (by kernel_rfl) ?_ _
  refine NoPanic.normal ?_
  go_end0
  exact ⟨rfl, PutC.keep_then (HK1.out.trans K2.out (fun _ _ y => y)) HG.out (HF4.out.put hg2)⟩

set_option maxRecDepth 100000 in
set_option maxHeartbeats 3200000 in
theorem grid_right (w : World) (p g c W H n : Nat) (f : Nat → CellM) (X Y k : Int) (x : CellM) (h : GridAt w p g c W H n f) :
    Calls Try.prog 21 #[.pointer (some ⟨p, 0, none⟩), .int .i64 X, .int .i64 Y, .int .i64 k, x.v] w fun e w' => e = .returned (.tuple #[]) ∧ PutC g ((restA W X Y) * 6) ((restN W H X Y)) (backF (fun i => f (restA W X Y + i)) (min k.toNat (restN W H X Y)) x) w w' := by
  obtain ⟨w1, hw1⟩ : ∃ w1, w1 = w.alloc (.cells (vcells x) 42) := ⟨_, rfl⟩
  have HK1 : Hid (Keep (fun _ => False) w w1) := Lib.hid (by rw [hw1]; exact (Keep.refl _ w).alloc _)
  have HQ1 : Hid (w1.heap[w.heap.size]? = some (.cells (vcells x) 42 (0, 0))) := Lib.hid (by rw [hw1]; exact heap_alloc_new w _)
  have HG1 := Lib.hid (h.keep HK1.out (fun y => y) (fun y => y))
  have HN := Lib.hid h.n800.1
  have HG := Lib.hid h.hg
  have hle : Hid (0 < (restN W H X Y) → (restA W X Y) + (restN W H X Y) ≤ n) := Lib.hid (fun hz => restN_le h.hn X Y hz)
  have HR : Hid (∀ V, Keep (fun _ => False) w1 V → Calls Try.prog 50 #[.pointer (some ⟨p, 0, none⟩), .int .i64 X, .int .i64 Y] V (Tells V g c ((restA W X Y)) ((restN W H X Y)))) := Lib.hid (fun V k => (grid_rest V p g c W H n f X Y (HG1.out.keep k (fun y => y) (fun y => y))))
  obtain ⟨a, haq⟩ : ∃ a, a = (restA W X Y) := ⟨_, rfl⟩
  obtain ⟨m, hmq⟩ : ∃ m, m = (restN W H X Y) := ⟨_, rfl⟩
  rw [← haq, ← hmq] at HR hle
  rw [← haq, ← hmq]
  have HMQ := Lib.hid hmq
  have HM8 : Hid (m ≤ 100000) := Lib.hid (by
    have h8 := HN.out
    rcases Nat.eq_zero_or_pos m with e | e
    · omega
    · have := hle.out e; omega)
  have hgp : g < w1.heap.size := HG1.out.hg
  clear h haq hmq
  simp only [CellM.v]
  unfold vcells at hw1
  go_enter Try.func21, Try.ntmps21
  go_upto_region 1 with fail
  rw [← hw1]
  obtain ⟨q, hq⟩ : ∃ q, q = w.heap.size := ⟨_, rfl⟩
  rw [← hq] at HQ1
  rw [← hq]
  have hgq : g ≠ q := by have := HG.out; omega
  clear hw1 hq
  refine wp_region_noPanic ?_
  refine wp_region_held_drew (S := fun w' => w'.cell? ⟨q, 0, none⟩ = some (.int .i32 x.r) ∧ w'.cell? ⟨q, 1, none⟩ = some (.int .i64 x.a.fg) ∧ w'.cell? ⟨q, 2, none⟩ = some (.int .i64 x.a.bg) ∧ w'.cell? ⟨q, 3, none⟩ = some (.bool x.a.b) ∧ w'.cell? ⟨q, 4, none⟩ = some (.bool x.a.u) ∧ w'.cell? ⟨q, 5, none⟩ = some (.bool x.a.i)) (by kernel_rfl) (cells_six HQ1.out) (fun hHeld => ?_)
  refine wpAnyH_take (i := 0) (oi := _) (v := ?va0) rfl (by kernel_rfl) (by kernel_rfl) (by kernel_rfl) (fun _ _ _ h => h) (Or.inl ⟨by rfl, ?hya0⟩) (by assumption) ?resta0
  case hya0 => (intro w hSw; (try dsimp only at hSw); (try simp only [List.getElem_toArray, List.getElem_cons_zero, List.getElem_cons_succ]); go_simp; (try with_reducible rfl))
  (try simp only [Act.put, List.setIfInBounds_toArray, List.set_cons_zero, List.set_cons_succ, List.getElem_toArray, List.getElem_cons_zero, List.getElem_cons_succ])
  refine wpAnyH_take (i := 1) (oi := _) (v := ?va1) rfl (by kernel_rfl) (by kernel_rfl) (by kernel_rfl) (fun _ _ _ h => h) (Or.inl ⟨by rfl, ?hya1⟩) (by assumption) ?resta1
  case hya1 => (intro w hSw; (try dsimp only at hSw); (try simp only [List.getElem_toArray, List.getElem_cons_zero, List.getElem_cons_succ]); go_simp; (try with_reducible rfl))
  (try simp only [Act.put, List.setIfInBounds_toArray, List.set_cons_zero, List.set_cons_succ, List.getElem_toArray, List.getElem_cons_zero, List.getElem_cons_succ])
  refine wpAnyH_take (i := 2) (oi := _) (v := ?va2) rfl (by kernel_rfl) (by kernel_rfl) (by kernel_rfl) (fun _ _ _ h => h) (Or.inl ⟨by rfl, ?hya2⟩) (by assumption) ?resta2
  case hya2 => (intro w hSw; (try dsimp only at hSw); (try simp only [List.getElem_toArray, List.getElem_cons_zero, List.getElem_cons_succ]); go_simp; (try with_reducible rfl))
  (try simp only [Act.put, List.setIfInBounds_toArray, List.set_cons_zero, List.set_cons_succ, List.getElem_toArray, List.getElem_cons_zero, List.getElem_cons_succ])
  refine wpAnyH_take (i := 4) (oi := _) (v := ?va4) rfl (by kernel_rfl) (by kernel_rfl) (by kernel_rfl) (fun _ _ _ h => h) (Or.inl ⟨by rfl, ?hya4⟩) (by assumption) ?resta4
  case hya4 => (intro w hSw; (try dsimp only at hSw); (try simp only [List.getElem_toArray, List.getElem_cons_zero, List.getElem_cons_succ]); go_simp; (try with_reducible rfl))
  (try simp only [Act.put, List.setIfInBounds_toArray, List.set_cons_zero, List.set_cons_succ, List.getElem_toArray, List.getElem_cons_zero, List.getElem_cons_succ])
  refine wpAnyH_take (i := 5) (oi := _) (v := ?va5) rfl (by kernel_rfl) (by kernel_rfl) (by kernel_rfl) (fun _ _ _ h => h) (Or.inl ⟨by rfl, ?hya5⟩) (by assumption) ?resta5
  case hya5 => (intro w hSw; (try dsimp only at hSw); (try simp only [List.getElem_toArray, List.getElem_cons_zero, List.getElem_cons_succ]); go_simp; (try with_reducible rfl))
  (try simp only [Act.put, List.setIfInBounds_toArray, List.set_cons_zero, List.set_cons_succ, List.getElem_toArray, List.getElem_cons_zero, List.getElem_cons_succ])
  refine wpAnyH_ready (rs := [3]) (by kernel_rfl) (by simp) ?_
  refine AllReadyH.cons (o := _) rfl (fun K hK => ?_) AllReadyH.nil
  (try simp only [List.getElem_toArray, List.getElem_cons_zero, List.getElem_cons_succ])
  go_simp
  refine (HR.out _ ((Keep.refl _ w1).drew)).mono ?_; rintro e w2 ht; obtain ⟨A2, c2, rfl, k2, hc2, hs2⟩ := ht.slK (HG1.out.keep ((Keep.refl (fun _ => False) w1).drew) (fun y => y) (fun y => y)) hle.out; have K2 : Hid (Keep (fun _ => False) w1 w2) := Lib.hid (((Keep.refl (fun _ => False) w1).drew).trans k2 (fun _ _ y => y)); have HS2 := Lib.hid hs2; have HQ2 := Lib.hid (K2.out.heap HQ1.out (fun y => y)); have hg2 : g < w2.heap.size := (by have := K2.out.size; omega); clear ht hs2 k2
  refine hK.out _ _ ?_ (fun hHeld => ?_)
  · exact cells_six HQ2.out
  clear hK K
  (try simp only [Act.put, List.setIfInBounds_toArray, List.set_cons_zero, List.set_cons_succ, List.getElem_toArray, List.getElem_cons_zero, List.getElem_cons_succ])
  refine wpAnyH_ready (rs := [6]) (by kernel_rfl) (by simp) ?_
  refine AllReadyH.cons (o := _) rfl (fun K hK => ?_) AllReadyH.nil
  (try simp only [List.getElem_toArray, List.getElem_cons_zero, List.getElem_cons_succ])
  go_simp
  refine (toBack_any A2 g (a * 6) m c2 _ x _ (min k.toNat m) _ HS2.out HM8.out hc2 (by omega)).mono ?_; rintro e w4 ⟨rfl, hf⟩; have HF4 := Lib.hid hf; have HQ4 := Lib.hid (hf.keep.heap HQ2.out (fun e => hgq e.symm)); clear hf
  refine hK.out _ _ ?_ (fun hHeld => ?_)
  · exact cells_six HQ4.out
  clear hK K
  (try simp only [Act.put, List.setIfInBounds_toArray, List.set_cons_zero, List.set_cons_succ, List.getElem_toArray, List.getElem_cons_zero, List.getElem_cons_succ])
  refine wpAnyH_done (by kernel_rfl) ?_ _
  refine NoPanic.normal ?_
  go_end0
  exact ⟨rfl, PutC.keep_then (HK1.out.trans K2.out (fun _ _ y => y)) HG.out (HF4.out.put hg2)⟩

set_option maxRecDepth 100000 in
set_option maxHeartbeats 3200000 in
theorem grid_left (w : World) (p g c W H n : Nat) (f : Nat → CellM) (X Y k : Int) (x : CellM) (h : GridAt w p g c W H n f) :
    Calls Try.prog 23 #[.pointer (some ⟨p, 0, none⟩), .int .i64 X, .int .i64 Y, .int .i64 k, x.v] w fun e w' => e = .returned (.tuple #[]) ∧ PutC g ((restA W X Y) * 6) ((restN W H X Y)) (frontF (fun i => f (restA W X Y + i)) (restN W H X Y) (min k.toNat (restN W H X Y)) x) w w' := by
  obtain ⟨w1, hw1⟩ : ∃ w1, w1 = w.alloc (.cells (vcells x) 42) := ⟨_, rfl⟩
  have HK1 : Hid (Keep (fun _ => False) w w1) := Lib.hid (by rw [hw1]; exact (Keep.refl _ w).alloc _)
  have HQ1 : Hid (w1.heap[w.heap.size]? = some (.cells (vcells x) 42 (0, 0))) := Lib.hid (by rw [hw1]; exact heap_alloc_new w _)
  have HG1 := Lib.hid (h.keep HK1.out (fun y => y) (fun y => y))
  have HN := Lib.hid h.n800.1
  have HG := Lib.hid h.hg
  have hle : Hid (0 < (restN W H X Y) → (restA W X Y) + (restN W H X Y) ≤ n) := Lib.hid (fun hz => restN_le h.hn X Y hz)
  have HR : Hid (∀ V, Keep (fun _ => False) w1 V → Calls Try.prog 50 #[.pointer (some ⟨p, 0, none⟩), .int .i64 X, .int .i64 Y] V (Tells V g c ((restA W X Y)) ((restN W H X Y)))) := Lib.hid (fun V k => (grid_rest V p g c W H n f X Y (HG1.out.keep k (fun y => y) (fun y => y))))
  obtain ⟨a, haq⟩ : ∃ a, a = (restA W X Y) := ⟨_, rfl⟩
  obtain ⟨m, hmq⟩ : ∃ m, m = (restN W H X Y) := ⟨_, rfl⟩
  rw [← haq, ← hmq] at HR hle
  rw [← haq, ← hmq]
  have HMQ := Lib.hid hmq
  have HM8 : Hid (m ≤ 100000) := Lib.hid (by
    have h8 := HN.out
    rcases Nat.eq_zero_or_pos m with e | e
    · omega
    · have := hle.out e; omega)
  have hgp : g < w1.heap.size := HG1.out.hg
  clear h haq hmq
  simp only [CellM.v]
  unfold vcells at hw1
  go_enter Try.func23, Try.ntmps23
  go_upto_region 1 with fail
  rw [← hw1]
  obtain ⟨q, hq⟩ : ∃ q, q = w.heap.size := ⟨_, rfl⟩
  rw [← hq] at HQ1
  rw [← hq]
  have hgq : g ≠ q := by have := HG.out; omega
  clear hw1 hq
  refine wp_region_noPanic ?_
  refine wp_region_held_drew (S := fun w' => w'.cell? ⟨q, 0, none⟩ = some (.int .i32 x.r) ∧ w'.cell? ⟨q, 1, none⟩ = some (.int .i64 x.a.fg) ∧ w'.cell? ⟨q, 2, none⟩ = some (.int .i64 x.a.bg) ∧ w'.cell? ⟨q, 3, none⟩ = some (.bool x.a.b) ∧ w'.cell? ⟨q, 4, none⟩ = some (.bool x.a.u) ∧ w'.cell? ⟨q, 5, none⟩ = some (.bool x.a.i)) (by kernel_rfl) (cells_six HQ1.out) (fun hHeld => ?_)
  refine wpAnyH_take (i := 0) (oi := _) (v := ?va0) rfl (by kernel_rfl) (by kernel_rfl) (by kernel_rfl) (fun _ _ _ h => h) (Or.inl ⟨by rfl, ?hya0⟩) (by assumption) ?resta0
  case hya0 => (intro w hSw; (try dsimp only at hSw); (try simp only [List.getElem_toArray, List.getElem_cons_zero, List.getElem_cons_succ]); go_simp; (try with_reducible rfl))
  (try simp only [Act.put, List.setIfInBounds_toArray, List.set_cons_zero, List.set_cons_succ, List.getElem_toArray, List.getElem_cons_zero, List.getElem_cons_succ])
  refine wpAnyH_take (i := 1) (oi := _) (v := ?va1) rfl (by kernel_rfl) (by kernel_rfl) (by kernel_rfl) (fun _ _ _ h => h) (Or.inl ⟨by rfl, ?hya1⟩) (by assumption) ?resta1
  case hya1 => (intro w hSw; (try dsimp only at hSw); (try simp only [List.getElem_toArray, List.getElem_cons_zero, List.getElem_cons_succ]); go_simp; (try with_reducible rfl))
  (try simp only [Act.put, List.setIfInBounds_toArray, List.set_cons_zero, List.set_cons_succ, List.getElem_toArray, List.getElem_cons_zero, List.getElem_cons_succ])
  refine wpAnyH_take (i := 2) (oi := _) (v := ?va2) rfl (by kernel_rfl) (by kernel_rfl) (by kernel_rfl) (fun _ _ _ h => h) (Or.inl ⟨by rfl, ?hya2⟩) (by assumption) ?resta2
  case hya2 => (intro w hSw; (try dsimp only at hSw); (try simp only [List.getElem_toArray, List.getElem_cons_zero, List.getElem_cons_succ]); go_simp; (try with_reducible rfl))
  (try simp only [Act.put, List.setIfInBounds_toArray, List.set_cons_zero, List.set_cons_succ, List.getElem_toArray, List.getElem_cons_zero, List.getElem_cons_succ])
  refine wpAnyH_take (i := 4) (oi := _) (v := ?va4) rfl (by kernel_rfl) (by kernel_rfl) (by kernel_rfl) (fun _ _ _ h => h) (Or.inl ⟨by rfl, ?hya4⟩) (by assumption) ?resta4
  case hya4 => (intro w hSw; (try dsimp only at hSw); (try simp only [List.getElem_toArray, List.getElem_cons_zero, List.getElem_cons_succ]); go_simp; (try with_reducible rfl))
  (try simp only [Act.put, List.setIfInBounds_toArray, List.set_cons_zero, List.set_cons_succ, List.getElem_toArray, List.getElem_cons_zero, List.getElem_cons_succ])
  refine wpAnyH_take (i := 5) (oi := _) (v := ?va5) rfl (by kernel_rfl) (by kernel_rfl) (by kernel_rfl) (fun _ _ _ h => h) (Or.inl ⟨by rfl, ?hya5⟩) (by assumption) ?resta5
  case hya5 => (intro w hSw; (try dsimp only at hSw); (try simp only [List.getElem_toArray, List.getElem_cons_zero, List.getElem_cons_succ]); go_simp; (try with_reducible rfl))
  (try simp only [Act.put, List.setIfInBounds_toArray, List.set_cons_zero, List.set_cons_succ, List.getElem_toArray, List.getElem_cons_zero, List.getElem_cons_succ])
  refine wpAnyH_ready (rs := [3]) (by kernel_rfl) (by simp) ?_
  refine AllReadyH.cons (o := _) rfl (fun K hK => ?_) AllReadyH.nil
  (try simp only [List.getElem_toArray, List.getElem_cons_zero, List.getElem_cons_succ])
  go_simp
  refine (HR.out _ ((Keep.refl _ w1).drew)).mono ?_; rintro e w2 ht; obtain ⟨A2, c2, rfl, k2, hc2, hs2⟩ := ht.slK (HG1.out.keep ((Keep.refl (fun _ => False) w1).drew) (fun y => y) (fun y => y)) hle.out; have K2 : Hid (Keep (fun _ => False) w1 w2) := Lib.hid (((Keep.refl (fun _ => False) w1).drew).trans k2 (fun _ _ y => y)); have HS2 := Lib.hid hs2; have HQ2 := Lib.hid (K2.out.heap HQ1.out (fun y => y)); have hg2 : g < w2.heap.size := (by have := K2.out.size; omega); clear ht hs2 k2
  refine hK.out _ _ ?_ (fun hHeld => ?_)
  · exact cells_six HQ2.out
  clear hK K
  (try simp only [Act.put, List.setIfInBounds_toArray, List.set_cons_zero, List.set_cons_succ, List.getElem_toArray, List.getElem_cons_zero, List.getElem_cons_succ])
  refine wpAnyH_ready (rs := [6]) (by kernel_rfl) (by simp) ?_
  refine AllReadyH.cons (o := _) rfl (fun K hK => ?_) AllReadyH.nil
  (try simp only [List.getElem_toArray, List.getElem_cons_zero, List.getElem_cons_succ])
  go_simp
  refine (toFront_any A2 g (a * 6) m c2 _ x _ (min k.toNat m) _ HS2.out HM8.out hc2 (by omega)).mono ?_; rintro e w4 ⟨rfl, hf⟩; have HF4 := Lib.hid hf; have HQ4 := Lib.hid (hf.keep.heap HQ2.out (fun e => hgq e.symm)); clear hf
  refine hK.out _ _ ?_ (fun hHeld => ?_)
  · exact cells_six HQ4.out
  clear hK K
  (try simp only [Act.put, List.setIfInBounds_toArray, List.set_cons_zero, List.set_cons_succ, List.getElem_toArray, List.getElem_cons_zero, List.getElem_cons_succ])
  refine wpAnyH_done (by kernel_rfl) ?_ _
  refine NoPanic.normal ?_
  go_end0
  exact ⟨rfl, PutC.keep_then (HK1.out.trans K2.out (fun _ _ y => y)) HG.out (HF4.out.put hg2)⟩

end Go.Proofs.Ytbjdcbnmpmcdiaa
