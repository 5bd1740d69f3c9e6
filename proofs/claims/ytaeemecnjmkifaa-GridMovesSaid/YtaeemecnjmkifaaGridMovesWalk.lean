/- Law GridMoves: the walk. By program (rgn/XGridMovesWalk.py). Own work. -/
import Derived.Test.YtaeemecnjmkifaaGridA
import Derived.Test.YtaeemecnjmkifaaGridC
import Derived.Test.YtaeemecnjmkifaaGridQ
namespace Go.Proofs.Ytaeemecnjmkifaa
set_option linter.unusedVariables false
set_option linter.unusedSimpArgs false
open Go.RowKit

def dotM : CellM := ⟨46, .z⟩
def getF3 (xs : List CellM) (k : Nat) : CellM := xs.getD k .z
theorem flatF_get3 (xs : List CellM) : flatF (getF3 xs) xs.length = xs.flatMap cellCs := flatF_list xs _ (fun k c h => by unfold getF3; rw [List.getD_eq_getElem?_getD, h]; rfl)
theorem src_cut {w : World} {A : Option Addr} {n a m : Nat} {f : Nat → CellM} {b off : Nat} (h : Src w A (n * 6) (flatF f n)) (hA : A = some ⟨b, off, none⟩) (hm : a + m ≤ n) (h0 : 0 < n) : Src w (some ⟨b, off + a * 6, none⟩) (m * 6) (flatF (fun k => f (a + k)) m) := by
  refine ⟨flatF_len _ m, fun hz => ?_⟩
  obtain ⟨b', off', e, hb, hc⟩ := h.2 (by omega)
  rw [hA] at e
  injection e with e
  injection e with e1 e2
  subst e1 e2
  refine ⟨b, off + a * 6, rfl, hb, fun i u hu => ?_⟩
  obtain ⟨q1, q2⟩ := (flatF_at _ m i u).1 hu
  have := hc (a * 6 + i) u ((flatF_at f n _ u).2 ⟨by omega, by rw [show (a * 6 + i) / 6 = a + i / 6 from by omega, show (a * 6 + i) % 6 = i % 6 from by omega]; exact q2⟩)
  rwa [← Nat.add_assoc] at this

def upF (f : Nat → CellM) (n m : Nat) (k : Nat) : CellM := if 0 ≤ k ∧ k < 0 + n then frontF (fun i => f (0 + i)) n m dotM (k - 0) else f k
def downF (f : Nat → CellM) (n m : Nat) (k : Nat) : CellM := if 0 ≤ k ∧ k < 0 + n then backF (fun i => f (0 + i)) m dotM (k - 0) else f k
theorem up_down (f : Nat → CellM) (n m k : Nat) (hk : k < n) (hm : m ≤ n) : downF (upF f n m) n m k = if k < m then dotM else f k := by
  have h0 : downF (upF f n m) n m k = backF (fun i => upF f n m (0 + i)) m dotM (k - 0) := if_pos (by omega)
  rw [h0]
  unfold backF
  by_cases h : k < m
  · rw [if_pos (by omega), if_pos h]
  · rw [if_neg (by omega), if_neg h]
    show upF f n m (0 + (k - 0 - m)) = f k
    have h1 : upF f n m (0 + (k - 0 - m)) = frontF (fun i => f (0 + i)) n m dotM (0 + (k - 0 - m) - 0) := if_pos (by omega)
    rw [h1]
    unfold frontF
    rw [if_pos (by omega)]
    refine congrArg f ?_
    omega

theorem six_at {w : World} {g n : Nat} {f : Nat → CellM} (h : Lies w g 0 n f) (k : Nat) (hk : k < n) :
    w.cell? ⟨g, k * 6, none⟩ = some (.int .i32 (f k).r) ∧ w.cell? ⟨g, k * 6 + 1, none⟩ = some (.int .i64 (f k).a.fg) ∧ w.cell? ⟨g, k * 6 + 2, none⟩ = some (.int .i64 (f k).a.bg) ∧ w.cell? ⟨g, k * 6 + 3, none⟩ = some (.bool (f k).a.b) ∧ w.cell? ⟨g, k * 6 + 4, none⟩ = some (.bool (f k).a.u) ∧ w.cell? ⟨g, k * 6 + 5, none⟩ = some (.bool (f k).a.i) := by
  have cc := h.val k hk
  refine ⟨?_, ?_, ?_, ?_, ?_, ?_⟩
  · have := cc 0 _ rfl; simpa using this
  · have := cc 1 _ rfl; simpa using this
  · have := cc 2 _ rfl; simpa using this
  · have := cc 3 _ rfl; simpa using this
  · have := cc 4 _ rfl; simpa using this
  · have := cc 5 _ rfl; simpa using this

set_option maxRecDepth 100000 in
set_option maxHeartbeats 1600000 in
theorem gridMoves_early (x y N : Int) (A : Option Addr) (n cap : Nat) (w : World) (h : (n : Int) > 800) :
    Calls Try.prog 5 #[.int .i64 x, .int .i64 y, .int .i64 N, .slice A n cap] w fun e w' => e = .returned (.bool true) ∧ Below w.heap.size w w' := by
  go_enter Try.func5, Try.ntmps5
  go_wp2_with fail
  refine (alive_any _).mono ?_
  rintro e w1 ⟨rfl, hb⟩
  have HB := Lib.hid hb
  clear hb
  go_wp2_with fail
  go_ret
  exact ⟨rfl, HB.out⟩

set_option maxRecDepth 100000 in
set_option maxHeartbeats 6400000 in
theorem gridMoves_main (x y N0 : Int) (A : Option Addr) (ln cap : Nat) (xs : List CellM) (w : World) (h : CellsL w A ln xs) (hcap : ln ≤ cap) (h800 : ¬ (ln : Int) > 800) (W H n N : Nat) (hW : min (max x 2) 40 = (W : Int)) (hH : min (max y 1) 20 = (H : Int)) (hn : n = W * H) (hN : min (max N0 0) (H : Int) = (N : Int)) :
    Calls Try.prog 5 #[.int .i64 x, .int .i64 y, .int .i64 N0, .slice A ln cap] w fun e w' => e = .returned (.bool true) ∧ Below w.heap.size w w' := by
  have hNew := Lib.hid (fun V => grid_new V x y W H n hW hH hn)
  have HWB : Hid ((2 ≤ W ∧ W ≤ 40) ∧ (1 ≤ H ∧ H ≤ 20)) := Lib.hid (by omega)
  have HNE := Lib.hid hn
  have t1 : (W : Int) ≤ 40 := by omega
  have t2 : (2 : Int) ≤ (W : Int) := by omega
  have t3 : (H : Int) ≤ 20 := by omega
  have t4 : (1 : Int) ≤ (H : Int) := by omega
  have hn8 : n ≤ 800 := by have := Nat.mul_le_mul (show W ≤ 40 by omega) (show H ≤ 20 by omega); omega
  have hPi : (W : Int) * (H : Int) = (n : Int) := by rw [hn]; exact (Int.natCast_mul W H).symm
  have hw1 : IntKind.i64.wrap ((W : Int) * (H : Int)) = (n : Int) := by rw [hPi]; exact IntWalk.i64_in _ (by omega)
  have hNH : Hid (N ≤ H ∧ N * W ≤ n) := Lib.hid ⟨by omega, by rw [hn, Nat.mul_comm W H]; exact Nat.mul_le_mul_right W (by omega)⟩
  have hQi : (N : Int) * (W : Int) = ((N * W : Nat) : Int) := (Int.natCast_mul N W).symm
  obtain ⟨Q, hQ⟩ : ∃ Q, Q = N * W := ⟨_, rfl⟩
  rw [← hQ] at hQi
  have HQE := Lib.hid hQ
  have hQ8 : Q ≤ 800 := by rw [hQ]; have := hNH.out.2; omega
  have hw2 : IntKind.i64.wrap ((N : Int) * (W : Int)) = (Q : Int) := by rw [hQi]; exact IntWalk.i64_in _ (by omega)
  have tq : (Q : Int) ≤ 800 := by omega
  have tn : (n : Int) ≤ 800 := by omega
  have hSr : Hid (Src w A (ln * 6) (flatF (getF3 xs) ln)) := Lib.hid (by have := h.1; rw [← flatF_get3 xs, h.2.1] at this; exact this)
  have hl8 : (ln : Int) ≤ 800 := by omega
  have hlc : (ln : Int) ≤ (cap : Int) := by omega
  have HCAP := Lib.hid hcap
  have hNE := Lib.hid hN
  clear hW hH hn h hN hQ hcap
  go_enter Try.func5, Try.ntmps5
  go_wp2_with fail
  refine (alive_any _).mono ?_
  rintro e w1 ⟨rfl, hb⟩
  have HB1 := Lib.hid hb
  clear hb
  go_wp2_with fail
  refine (hNew.out _).mono ?_
  rintro e w2 ⟨rfl, hG, hb⟩
  obtain ⟨g, hg⟩ : ∃ g, g = w1.heap.size := ⟨_, rfl⟩
  have hgw : Hid (w.heap.size ≤ g) := Lib.hid (by rw [hg]; exact HB1.out.size)
  rw [← hg] at hG
  have HG2 := Lib.hid hG
  have HB2 : Hid (Below w.heap.size w w2) := Lib.hid (HB1.out.trans (hb.mono HB1.out.size))
  rw [← hg]
  clear hG hb hg
  go_wp2_with fail
  refine (grid_W w2 (g + 1) g n W H n _ HG2.out).mono ?_
  rintro e w3 ⟨rfl, rfl⟩
  go_wp2_with fail
  refine (grid_H w3 (g + 1) g n W H n _ HG2.out).mono ?_
  rintro e w4 ⟨rfl, rfl⟩
  go_wp2_with fail
  go_loopw [10] (fun i wr => ∃ k : Nat, i = .int .i64 k ∧ k ≤ H ∧ Hid (∃ f, GridAt wr (g + 1) g n W H n f) ∧ Hid (Below w.heap.size w wr)) (fun i _ => H - (intOf i).toNat)
  case atStart => exact ⟨0, rfl, Nat.zero_le _, ⟨_, HG2.out⟩, HB2⟩
  case round =>
    obtain ⟨k, rfl, hk, HG, HB⟩ := hrel
    by_cases hlt : k < H
    · have hki : ((k : Int) < (H : Int)) := by omega
      have hk0 : (0 : Int) ≤ (k : Int) := by omega
      obtain ⟨P, hP⟩ : ∃ P, P = k * W := ⟨_, rfl⟩
      have hPi2 : (k : Int) * (W : Int) = (P : Int) := by rw [hP]; exact (Int.natCast_mul k W).symm
      have hP8 : P ≤ 800 := by rw [hP]; have := Nat.mul_le_mul (show k ≤ 20 by omega) (show W ≤ 40 by omega); omega
      have hw3 : IntKind.i64.wrap ((k : Int) * (W : Int)) = (P : Int) := by rw [hPi2]; exact IntWalk.i64_in _ (by omega)
      have tp : (P : Int) ≤ 800 := by omega
      clear hP
      by_cases hPl : P < ln
      · have hPli : ((P : Int) < (ln : Int)) := by omega
        obtain ⟨b, off, rfl, hbl, -⟩ := hSr.out.2 (by omega)
        obtain ⟨m, hm⟩ : ∃ m : Nat, min (ln : Int) ((P : Int) + (W : Int)) = (m : Int) := ⟨(min (ln : Int) ((P : Int) + (W : Int))).toNat, by omega⟩
        have hmP : (P : Int) ≤ (m : Int) := by omega
        have hml : (m : Int) ≤ (ln : Int) := by omega
        have hmc : (m : Int) ≤ (cap : Int) := by omega
        have hcP : ¬ cap = P := by omega
        obtain ⟨f, hf⟩ := HG.out
        have HGf := Lib.hid hf
        have hsub : Hid (Src wr (some ⟨b, off + P * 6, none⟩) ((m - P) * 6) (flatF (fun i => getF3 xs (P + i)) (m - P))) := Lib.hid (src_cut (hSr.out.keep (Keep.of_below _ HB.out)) rfl (by omega) (by omega))
        have hrow : Hid (restA W 0 k + restN W H 0 k ≤ n) := Lib.hid (restN_le HNE.out 0 k (by unfold restN; rw [if_pos (by omega)]; have := HWB.out; omega))
        clear hf
        go_wp2_with fail
        refine (grid_setR wr (g + 1) g n W H n f 0 k _ (m - P) _ (fun i => getF3 xs (P + i)) HGf.out hsub.out (by omega) _ rfl).mono ?_
        rintro e w5 ⟨rfl, hp⟩
        have HG5 : Hid (∃ f, GridAt w5 (g + 1) g n W H n f) := Lib.hid ⟨_, HGf.out.put hp (by have := hrow.out; have := Nat.min_le_right (m - P) (restN W H 0 k); omega)⟩
        have HB5 : Hid (Below w.heap.size w w5) := Lib.hid (HB.out.trans (hp.keep.below HB.out.size (fun k hk e => by have := hgw.out; omega)))
        clear hp
        go_wp2_with fail
        go_roundw
        case rel => exact ⟨k + 1, by go_num, by omega, HG5, HB5⟩
        case measure => simp [intOf]; omega
      · have hPli : ¬ ((P : Int) < (ln : Int)) := by omega
        go_wp2_with fail
        go_roundw
        case rel => exact ⟨k + 1, by go_num, by omega, HG, HB⟩
        case measure => simp [intOf]; omega
    · have hkn : k = H := by omega
      subst hkn
      clear hlt hk
      obtain ⟨f, hf⟩ := HG.out
      have HGf := Lib.hid hf
      clear hf HG HG2 HB2 HB1
      go_wp2_with fail
      refine (grid_cells wr (g + 1) g n W k n f HGf.out).mono ?_
      rintro e w5 ⟨g1, c1, rfl, q1, q2, q3, q4, q5, q6, q7⟩
      have K5 := Lib.hid (Keep.of_below (fun _ => False) q7)
      have HL5 := Lib.hid q3
      have HG5 := Lib.hid (HGf.out.keep K5.out (fun y => y) (fun y => y))
      have HB5 : Hid (Below w.heap.size w w5) := Lib.hid (HB.out.trans (q7.mono HB.out.size))
      have hg1 : Hid (g < g1 ∧ g1 < w5.heap.size) := Lib.hid (by have := HGf.out.hg; omega)
      have hc1 : Hid (n ≤ c1) := Lib.hid q4
      clear q1 q2 q3 q4 q5 q6 q7 HGf HB
      have hnz : ((n : Int) == (n : Int)) = true := by simp
      go_upto_region 16 with fail
      try rw [hNE.out]
      go_wp2_with fail
      obtain ⟨w6, hw6⟩ : ∃ w6, w6 = w5.alloc (.cells (vcells dotM) 42) := ⟨_, rfl⟩
      have K6 : Keep (fun _ => False) w5 w6 := by rw [hw6]; exact (Keep.refl _ w5).alloc _
      have HG6 := Lib.hid (HG5.out.keep K6 (fun y => y) (fun y => y))
      have HL6 := Lib.hid (HL5.out.keep hg1.out.2 K6 (fun y => y))
      have HB6 : Hid (Below w.heap.size w w6) := Lib.hid (HB5.out.trans (K6.below HB5.out.size (fun k hk e => e.elim)))
      have HR6 : Hid (w6.heap[w5.heap.size]? = some (.cells (vcells dotM) 42 (0, 0))) := Lib.hid (by rw [hw6]; exact heap_alloc_new w5 _)
      have hgr : Hid (g < w5.heap.size ∧ g1 < w5.heap.size) := Lib.hid (by have := hg1.out; omega)
      unfold vcells dotM At.z at hw6
      dsimp only at hw6
      rw [← hw6]
      obtain ⟨r, hr⟩ : ∃ r, r = w5.heap.size := ⟨_, rfl⟩
      rw [← hr] at HR6 hgr
      rw [← hr]
      clear hw6 hr K6 HG5 HL5 HB5
      have hrw : Hid (rowsA W 0 = 0 ∧ rowsN W k 0 k = n ∧ min (N * W) n = Q) := Lib.hid (by
        refine ⟨by unfold rowsA; rw [show (max (0 : Int) 0).toNat = 0 from rfl, Nat.zero_mul], ?_, by have := HQE.out; have := hNH.out.2; omega⟩
        unfold rowsN
        rw [show (min (k : Int) (k : Int) - max 0 0).toNat = k from by omega, HNE.out, Nat.mul_comm])
      have hQn : Hid (Q ≤ n) := Lib.hid (by have := HQE.out; have := hNH.out.2; omega)
      refine (grid_up w6 (g + 1) g n W k n f 0 k N N dotM HG6.out (by have := hNH.out.1; omega)).mono ?_
      rintro e w7 ⟨rfl, hp⟩
      have HG7 : Hid (GridAt w7 (g + 1) g n W k n (upF f n Q)) := Lib.hid (by
        rw [hrw.out.1, hrw.out.2.1, hrw.out.2.2] at hp
        exact HG6.out.put (a := 0) (m := n) hp (by omega))
      have K7 := Lib.hid hp.keep
      have HR7 := Lib.hid (K7.out.heap HR6.out (by have := hgr.out; omega))
      clear hp
      obtain ⟨x0, x1, x2, x3, x4, x5⟩ := cells_six HR7.out
      simp only [dotM, At.z] at x0 x1 x2 x3 x4 x5
      go_wp2_with fail
      refine (grid_down w7 (g + 1) g n W k n (upF f n Q) 0 k N N dotM HG7.out (by have := hNH.out.1; omega)).mono ?_
      rintro e w8 ⟨rfl, hp⟩
      have HG8 : Hid (GridAt w8 (g + 1) g n W k n (downF (upF f n Q) n Q)) := Lib.hid (by
        rw [hrw.out.1, hrw.out.2.1, hrw.out.2.2] at hp
        exact HG7.out.put (a := 0) (m := n) hp (by omega))
      have K8 : Hid (Keep (· = g) w6 w8) := Lib.hid (K7.out.trans hp.keep (fun _ _ y => y))
      have hg16 : Hid (g1 < w6.heap.size) := Lib.hid (lt_heap HR6.out |> fun h => by have := hgr.out; omega)
      have HL8 := Lib.hid (HL6.out.keep hg16.out K8.out (by have := hg1.out; omega))
      have HB8 : Hid (Below w.heap.size w w8) := Lib.hid (HB6.out.trans (K8.out.below HB6.out.size (fun k hk e => by have := hgw.out; omega)))
      clear hp x0 x1 x2 x3 x4 x5 HR7 K7
      go_wp2_with fail
      refine (grid_cells w8 (g + 1) g n W k n _ HG8.out).mono ?_
      rintro e w9 ⟨g2, c2, rfl, q1, q2, q3, q4, q5, q6, q7⟩
      have K9 : Hid (Keep (fun _ => False) w8 w9) := Lib.hid (Keep.of_below (fun _ => False) q7)
      have HM9 := Lib.hid q3
      have hg18 : g1 < w8.heap.size := by have := hg16.out; have := K8.out.size; omega
      have HL9 := Lib.hid (HL8.out.keep hg18 K9.out (fun y => y))
      have HR9 := Lib.hid (K9.out.heap (K8.out.heap HR6.out (by have := hgr.out; omega)) (fun y => y))
      have HB9 : Hid (Below w.heap.size w w9) := Lib.hid (HB8.out.trans (q7.mono HB8.out.size))
      have hg29 : Hid (g2 < w9.heap.size ∧ g1 < w9.heap.size) := Lib.hid ⟨q2, by have := K9.out.size; omega⟩
      clear q1 q2 q3 q4 q5 q6 q7 HG6 HG7 HG8 HR6 HL6 HL8 HB6 HB8 hg18
      go_wp2_with fail
      go_loopw [14, 15] (fun i _ wr => ∃ j : Nat, i = .int .i64 j ∧ j ≤ n ∧ Hid (Keep (fun _ => False) w9 wr)) (fun i _ _ => n - (intOf i).toNat)
      case atStart => exact ⟨0, rfl, Nat.zero_le _, Keep.refl _ _⟩
      case round =>
        obtain ⟨j, rfl, hj, HK⟩ := hrel
        by_cases hlt : j < n
        · have hji : ((j : Int) < (n : Int)) := by omega
          have hj0 : (0 : Int) ≤ (j : Int) := by omega
          obtain ⟨u, hu⟩ : ∃ u, u = f j := ⟨_, rfl⟩
          have h6u := six_at (HL9.out.keep hg29.out.2 HK.out (fun y => y)) j hlt
          rw [← hu] at h6u
          obtain ⟨u0, u1, u2, u3, u4, u5⟩ := h6u
          have HNW : Hid (Lies wr g2 0 n (downF (upF f n Q) n Q)) := Lib.hid (HM9.out.keep hg29.out.1 HK.out (fun y => y))
          have hfj : Hid (downF (upF f n Q) n Q j = if j < Q then dotM else u) := Lib.hid (by rw [up_down f n Q j hlt hQn.out, hu])
          have hg2r : g2 < wr.heap.size := Nat.lt_of_lt_of_le hg29.out.1 HK.out.size
          have hg1r : g1 < wr.heap.size := Nat.lt_of_lt_of_le hg29.out.2 HK.out.size
          have HRr := Lib.hid (HK.out.heap HR9.out (fun y => y))
          have hrr : r < wr.heap.size := lt_heap HRr.out
          clear hu
          by_cases hq : j < Q
          · have hqi : ((j : Int) < (Q : Int)) := by omega
            obtain ⟨x0, x1, x2, x3, x4, x5⟩ := cells_six HRr.out
            simp only [dotM, At.z] at x0 x1 x2 x3 x4 x5
            have HN6 := Lib.hid (by have := six_at HNW.out j hlt; rw [hfj.out, if_pos hq] at this; exact this)
            obtain ⟨w10, hw10⟩ : ∃ w10, w10 = wr.alloc (.cells (vcells dotM) 42) := ⟨_, rfl⟩
            have K10 : Keep (fun _ => False) wr w10 := by rw [hw10]; exact (Keep.refl _ wr).alloc _
            have HQ10 : Hid (w10.heap[wr.heap.size]? = some (.cells (vcells dotM) 42 (0, 0))) := Lib.hid (by rw [hw10]; exact heap_alloc_new wr _)
            have HS10 : Hid ((w10.cell? ⟨g2, j * 6, none⟩ = some (.int .i32 46) ∧ w10.cell? ⟨g2, j * 6 + 1, none⟩ = some (.int .i64 0) ∧ w10.cell? ⟨g2, j * 6 + 2, none⟩ = some (.int .i64 0) ∧ w10.cell? ⟨g2, j * 6 + 3, none⟩ = some (.bool false) ∧ w10.cell? ⟨g2, j * 6 + 4, none⟩ = some (.bool false) ∧ w10.cell? ⟨g2, j * 6 + 5, none⟩ = some (.bool false)) ∧ (w10.cell? ⟨wr.heap.size, 0, none⟩ = some (.int .i32 46) ∧ w10.cell? ⟨wr.heap.size, 1, none⟩ = some (.int .i64 0) ∧ w10.cell? ⟨wr.heap.size, 2, none⟩ = some (.int .i64 0) ∧ w10.cell? ⟨wr.heap.size, 3, none⟩ = some (.bool false) ∧ w10.cell? ⟨wr.heap.size, 4, none⟩ = some (.bool false) ∧ w10.cell? ⟨wr.heap.size, 5, none⟩ = some (.bool false))) := Lib.hid (by
              obtain ⟨n0, n1, n2, n3, n4, n5⟩ := HN6.out
              exact ⟨⟨(K10.cell (p := ⟨g2, _, none⟩) hg2r (fun y => y)).trans n0, (K10.cell (p := ⟨g2, _, none⟩) hg2r (fun y => y)).trans n1, (K10.cell (p := ⟨g2, _, none⟩) hg2r (fun y => y)).trans n2, (K10.cell (p := ⟨g2, _, none⟩) hg2r (fun y => y)).trans n3, (K10.cell (p := ⟨g2, _, none⟩) hg2r (fun y => y)).trans n4, (K10.cell (p := ⟨g2, _, none⟩) hg2r (fun y => y)).trans n5⟩, cells_six HQ10.out⟩)
            have HK10 : Hid (Keep (fun _ => False) w9 w10) := Lib.hid (HK.out.trans K10 (fun _ _ y => y))
            clear K10 HNW hfj HN6
            unfold vcells at hw10
            unfold dotM At.z at hw10; dsimp only at hw10
            go_upto_region 28 with fail
            rw [← hw10]
            obtain ⟨q, hqq⟩ : ∃ q, q = wr.heap.size := ⟨_, rfl⟩
            rw [← hqq] at HS10
            rw [← hqq]
            clear hw10 hqq HQ10 u0 u1 u2 u3 u4 u5 x0 x1 x2 x3 x4 x5
            refine wp_region_noPanic ?_
            refine wp_region_held_drew (S := fun w' => (w'.cell? ⟨g2, j * 6, none⟩ = some (.int .i32 46) ∧ w'.cell? ⟨g2, j * 6 + 1, none⟩ = some (.int .i64 0) ∧ w'.cell? ⟨g2, j * 6 + 2, none⟩ = some (.int .i64 0) ∧ w'.cell? ⟨g2, j * 6 + 3, none⟩ = some (.bool false) ∧ w'.cell? ⟨g2, j * 6 + 4, none⟩ = some (.bool false) ∧ w'.cell? ⟨g2, j * 6 + 5, none⟩ = some (.bool false)) ∧ (w'.cell? ⟨q, 0, none⟩ = some (.int .i32 46) ∧ w'.cell? ⟨q, 1, none⟩ = some (.int .i64 0) ∧ w'.cell? ⟨q, 2, none⟩ = some (.int .i64 0) ∧ w'.cell? ⟨q, 3, none⟩ = some (.bool false) ∧ w'.cell? ⟨q, 4, none⟩ = some (.bool false) ∧ w'.cell? ⟨q, 5, none⟩ = some (.bool false))) (by kernel_rfl) HS10.out (fun hHeld => ?_)
            refine wpAnyH_take (i := 0) (oi := _) (v := ?va0) rfl (by kernel_rfl) (by kernel_rfl) (by kernel_rfl) (fun _ _ _ h => h) (Or.inl ⟨by rfl, ?hya0⟩) (by assumption) ?resta0
            case hya0 => (intro w hSw; (try dsimp only at hSw); (try simp only [List.getElem_toArray, List.getElem_cons_zero, List.getElem_cons_succ]); go_simp; (try with_reducible rfl))
            (try simp only [Act.put, List.setIfInBounds_toArray, List.set_cons_zero, List.set_cons_succ, List.getElem_toArray, List.getElem_cons_zero, List.getElem_cons_succ])
            refine wpAnyH_take (i := 1) (oi := _) (v := ?va1) rfl (by kernel_rfl) (by kernel_rfl) (by kernel_rfl) (fun _ _ _ h => h) (Or.inl ⟨by rfl, ?hya1⟩) (by assumption) ?resta1
            case hya1 => (intro w hSw; (try dsimp only at hSw); (try simp only [List.getElem_toArray, List.getElem_cons_zero, List.getElem_cons_succ]); go_simp; (try with_reducible rfl))
            (try simp only [Act.put, List.setIfInBounds_toArray, List.set_cons_zero, List.set_cons_succ, List.getElem_toArray, List.getElem_cons_zero, List.getElem_cons_succ])
            refine wpAnyH_take (i := 2) (oi := _) (v := ?va2) rfl (by kernel_rfl) (by kernel_rfl) (by kernel_rfl) (fun _ _ _ h => h) (Or.inl ⟨by rfl, ?hya2⟩) (by assumption) ?resta2
            case hya2 => (intro w hSw; (try dsimp only at hSw); (try simp only [List.getElem_toArray, List.getElem_cons_zero, List.getElem_cons_succ]); go_simp; (try with_reducible rfl))
            (try simp only [Act.put, List.setIfInBounds_toArray, List.set_cons_zero, List.set_cons_succ, List.getElem_toArray, List.getElem_cons_zero, List.getElem_cons_succ])
            refine wpAnyH_take (i := 3) (oi := _) (v := ?va3) rfl (by kernel_rfl) (by kernel_rfl) (by kernel_rfl) (fun _ _ _ h => h) (Or.inl ⟨by rfl, ?hya3⟩) (by assumption) ?resta3
            case hya3 => (intro w hSw; (try dsimp only at hSw); (try simp only [List.getElem_toArray, List.getElem_cons_zero, List.getElem_cons_succ]); go_simp; (try with_reducible rfl))
            (try simp only [Act.put, List.setIfInBounds_toArray, List.set_cons_zero, List.set_cons_succ, List.getElem_toArray, List.getElem_cons_zero, List.getElem_cons_succ])
            refine wpAnyH_take (i := 4) (oi := _) (v := ?va4) rfl (by kernel_rfl) (by kernel_rfl) (by kernel_rfl) (fun _ _ _ h => h) (Or.inl ⟨by rfl, ?hya4⟩) (by assumption) ?resta4
            case hya4 => (intro w hSw; (try dsimp only at hSw); (try simp only [List.getElem_toArray, List.getElem_cons_zero, List.getElem_cons_succ]); go_simp; (try with_reducible rfl))
            (try simp only [Act.put, List.setIfInBounds_toArray, List.set_cons_zero, List.set_cons_succ, List.getElem_toArray, List.getElem_cons_zero, List.getElem_cons_succ])
            refine wpAnyH_take (i := 5) (oi := _) (v := ?va5) rfl (by kernel_rfl) (by kernel_rfl) (by kernel_rfl) (fun _ _ _ h => h) (Or.inl ⟨by rfl, ?hya5⟩) (by assumption) ?resta5
            case hya5 => (intro w hSw; (try dsimp only at hSw); (try simp only [List.getElem_toArray, List.getElem_cons_zero, List.getElem_cons_succ]); go_simp; (try with_reducible rfl))
            (try simp only [Act.put, List.setIfInBounds_toArray, List.set_cons_zero, List.set_cons_succ, List.getElem_toArray, List.getElem_cons_zero, List.getElem_cons_succ])
            refine wpAnyH_done (by kernel_rfl) ?_ _
            refine NoPanic.normal ?_
            go_wp2_with fail
            go_roundw
            case rel => exact ⟨j + 1, by go_num, by omega, Lib.hid (HK10.out.drew)⟩
            case measure => simp [intOf]; omega
          · have hqi : ¬ ((j : Int) < (Q : Int)) := by omega
            have HN6 := Lib.hid (by have := six_at HNW.out j hlt; rw [hfj.out, if_neg hq] at this; exact this)
            obtain ⟨w10, hw10⟩ : ∃ w10, w10 = wr.alloc (.cells (vcells u) 42) := ⟨_, rfl⟩
            have K10 : Keep (fun _ => False) wr w10 := by rw [hw10]; exact (Keep.refl _ wr).alloc _
            have HQ10 : Hid (w10.heap[wr.heap.size]? = some (.cells (vcells u) 42 (0, 0))) := Lib.hid (by rw [hw10]; exact heap_alloc_new wr _)
            have HS10 : Hid ((w10.cell? ⟨g2, j * 6, none⟩ = some (.int .i32 u.r) ∧ w10.cell? ⟨g2, j * 6 + 1, none⟩ = some (.int .i64 u.a.fg) ∧ w10.cell? ⟨g2, j * 6 + 2, none⟩ = some (.int .i64 u.a.bg) ∧ w10.cell? ⟨g2, j * 6 + 3, none⟩ = some (.bool u.a.b) ∧ w10.cell? ⟨g2, j * 6 + 4, none⟩ = some (.bool u.a.u) ∧ w10.cell? ⟨g2, j * 6 + 5, none⟩ = some (.bool u.a.i)) ∧ (w10.cell? ⟨wr.heap.size, 0, none⟩ = some (.int .i32 u.r) ∧ w10.cell? ⟨wr.heap.size, 1, none⟩ = some (.int .i64 u.a.fg) ∧ w10.cell? ⟨wr.heap.size, 2, none⟩ = some (.int .i64 u.a.bg) ∧ w10.cell? ⟨wr.heap.size, 3, none⟩ = some (.bool u.a.b) ∧ w10.cell? ⟨wr.heap.size, 4, none⟩ = some (.bool u.a.u) ∧ w10.cell? ⟨wr.heap.size, 5, none⟩ = some (.bool u.a.i))) := Lib.hid (by
              obtain ⟨n0, n1, n2, n3, n4, n5⟩ := HN6.out
              exact ⟨⟨(K10.cell (p := ⟨g2, _, none⟩) hg2r (fun y => y)).trans n0, (K10.cell (p := ⟨g2, _, none⟩) hg2r (fun y => y)).trans n1, (K10.cell (p := ⟨g2, _, none⟩) hg2r (fun y => y)).trans n2, (K10.cell (p := ⟨g2, _, none⟩) hg2r (fun y => y)).trans n3, (K10.cell (p := ⟨g2, _, none⟩) hg2r (fun y => y)).trans n4, (K10.cell (p := ⟨g2, _, none⟩) hg2r (fun y => y)).trans n5⟩, cells_six HQ10.out⟩)
            have HK10 : Hid (Keep (fun _ => False) w9 w10) := Lib.hid (HK.out.trans K10 (fun _ _ y => y))
            clear K10 HNW hfj HN6
            unfold vcells at hw10
            skip
            go_upto_region 28 with fail
            rw [← hw10]
            obtain ⟨q, hqq⟩ : ∃ q, q = wr.heap.size := ⟨_, rfl⟩
            rw [← hqq] at HS10
            rw [← hqq]
            clear hw10 hqq HQ10 u0 u1 u2 u3 u4 u5 
            refine wp_region_noPanic ?_
            refine wp_region_held_drew (S := fun w' => (w'.cell? ⟨g2, j * 6, none⟩ = some (.int .i32 u.r) ∧ w'.cell? ⟨g2, j * 6 + 1, none⟩ = some (.int .i64 u.a.fg) ∧ w'.cell? ⟨g2, j * 6 + 2, none⟩ = some (.int .i64 u.a.bg) ∧ w'.cell? ⟨g2, j * 6 + 3, none⟩ = some (.bool u.a.b) ∧ w'.cell? ⟨g2, j * 6 + 4, none⟩ = some (.bool u.a.u) ∧ w'.cell? ⟨g2, j * 6 + 5, none⟩ = some (.bool u.a.i)) ∧ (w'.cell? ⟨q, 0, none⟩ = some (.int .i32 u.r) ∧ w'.cell? ⟨q, 1, none⟩ = some (.int .i64 u.a.fg) ∧ w'.cell? ⟨q, 2, none⟩ = some (.int .i64 u.a.bg) ∧ w'.cell? ⟨q, 3, none⟩ = some (.bool u.a.b) ∧ w'.cell? ⟨q, 4, none⟩ = some (.bool u.a.u) ∧ w'.cell? ⟨q, 5, none⟩ = some (.bool u.a.i))) (by kernel_rfl) HS10.out (fun hHeld => ?_)
            refine wpAnyH_take (i := 0) (oi := _) (v := ?vb0) rfl (by kernel_rfl) (by kernel_rfl) (by kernel_rfl) (fun _ _ _ h => h) (Or.inl ⟨by rfl, ?hyb0⟩) (by assumption) ?restb0
            case hyb0 => (intro w hSw; (try dsimp only at hSw); (try simp only [List.getElem_toArray, List.getElem_cons_zero, List.getElem_cons_succ]); go_simp; (try with_reducible rfl))
            (try simp only [Act.put, List.setIfInBounds_toArray, List.set_cons_zero, List.set_cons_succ, List.getElem_toArray, List.getElem_cons_zero, List.getElem_cons_succ])
            refine wpAnyH_take (i := 1) (oi := _) (v := ?vb1) rfl (by kernel_rfl) (by kernel_rfl) (by kernel_rfl) (fun _ _ _ h => h) (Or.inl ⟨by rfl, ?hyb1⟩) (by assumption) ?restb1
            case hyb1 => (intro w hSw; (try dsimp only at hSw); (try simp only [List.getElem_toArray, List.getElem_cons_zero, List.getElem_cons_succ]); go_simp; (try with_reducible rfl))
            (try simp only [Act.put, List.setIfInBounds_toArray, List.set_cons_zero, List.set_cons_succ, List.getElem_toArray, List.getElem_cons_zero, List.getElem_cons_succ])
            refine wpAnyH_take (i := 2) (oi := _) (v := ?vb2) rfl (by kernel_rfl) (by kernel_rfl) (by kernel_rfl) (fun _ _ _ h => h) (Or.inl ⟨by rfl, ?hyb2⟩) (by assumption) ?restb2
            case hyb2 => (intro w hSw; (try dsimp only at hSw); (try simp only [List.getElem_toArray, List.getElem_cons_zero, List.getElem_cons_succ]); go_simp; (try with_reducible rfl))
            (try simp only [Act.put, List.setIfInBounds_toArray, List.set_cons_zero, List.set_cons_succ, List.getElem_toArray, List.getElem_cons_zero, List.getElem_cons_succ])
            refine wpAnyH_take (i := 3) (oi := _) (v := ?vb3) rfl (by kernel_rfl) (by kernel_rfl) (by kernel_rfl) (fun _ _ _ h => h) (Or.inl ⟨by rfl, ?hyb3⟩) (by assumption) ?restb3
            case hyb3 => (intro w hSw; (try dsimp only at hSw); (try simp only [List.getElem_toArray, List.getElem_cons_zero, List.getElem_cons_succ]); go_simp; (try with_reducible rfl))
            (try simp only [Act.put, List.setIfInBounds_toArray, List.set_cons_zero, List.set_cons_succ, List.getElem_toArray, List.getElem_cons_zero, List.getElem_cons_succ])
            refine wpAnyH_take (i := 4) (oi := _) (v := ?vb4) rfl (by kernel_rfl) (by kernel_rfl) (by kernel_rfl) (fun _ _ _ h => h) (Or.inl ⟨by rfl, ?hyb4⟩) (by assumption) ?restb4
            case hyb4 => (intro w hSw; (try dsimp only at hSw); (try simp only [List.getElem_toArray, List.getElem_cons_zero, List.getElem_cons_succ]); go_simp; (try with_reducible rfl))
            (try simp only [Act.put, List.setIfInBounds_toArray, List.set_cons_zero, List.set_cons_succ, List.getElem_toArray, List.getElem_cons_zero, List.getElem_cons_succ])
            refine wpAnyH_take (i := 5) (oi := _) (v := ?vb5) rfl (by kernel_rfl) (by kernel_rfl) (by kernel_rfl) (fun _ _ _ h => h) (Or.inl ⟨by rfl, ?hyb5⟩) (by assumption) ?restb5
            case hyb5 => (intro w hSw; (try dsimp only at hSw); (try simp only [List.getElem_toArray, List.getElem_cons_zero, List.getElem_cons_succ]); go_simp; (try with_reducible rfl))
            (try simp only [Act.put, List.setIfInBounds_toArray, List.set_cons_zero, List.set_cons_succ, List.getElem_toArray, List.getElem_cons_zero, List.getElem_cons_succ])
            refine wpAnyH_done (by kernel_rfl) ?_ _
            refine NoPanic.normal ?_
            go_wp2_with fail
            go_roundw
            case rel => exact ⟨j + 1, by go_num, by omega, Lib.hid (HK10.out.drew)⟩
            case measure => simp [intOf]; omega
        · go_wp2_with fail
          go_ret
          exact ⟨rfl, HB9.out.trans (HK.out.below HB9.out.size (fun _ _ e => e.elim))⟩

theorem walk_GridMoves (x : Int) (wx : (Lit.int .i64 x).wf = true) (y : Int) (wy : (Lit.int .i64 y).wf = true) (N0 : Int) (wN : (Lit.int .i64 N0).wf = true) (A : Option Addr) (ln cap : Nat) (xs : List CellM) (w : World) (h : CellsL w A ln xs ∧ ln ≤ cap) :
    Calls Try.prog 5 #[.int .i64 x, .int .i64 y, .int .i64 N0, .slice A ln cap] w fun e w' => e = .returned (.bool true) ∧ Below w.heap.size w w' := by
  by_cases h8 : (ln : Int) > 800
  · exact gridMoves_early x y N0 A ln cap w h8
  obtain ⟨W, hW⟩ : ∃ W : Nat, min (max x 2) 40 = (W : Int) := ⟨(min (max x 2) 40).toNat, by omega⟩
  obtain ⟨H, hH⟩ : ∃ H : Nat, min (max y 1) 20 = (H : Int) := ⟨(min (max y 1) 20).toNat, by omega⟩
  obtain ⟨N, hN⟩ : ∃ N : Nat, min (max N0 0) (H : Int) = (N : Int) := ⟨(min (max N0 0) (H : Int)).toNat, by omega⟩
  exact gridMoves_main x y N0 A ln cap xs w h.1 h.2 h8 W H _ N hW hH rfl hN

end Go.Proofs.Ytaeemecnjmkifaa
