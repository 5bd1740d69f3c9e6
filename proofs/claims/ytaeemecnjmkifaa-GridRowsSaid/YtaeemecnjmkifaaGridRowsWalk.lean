/- Law GridRows: the walk. By program (rgn/XGridRowsWalk.py). Own work. -/
import Derived.Test.YtaeemecnjmkifaaGridA
import Derived.Test.YtaeemecnjmkifaaGridC
namespace Go.Proofs.Ytaeemecnjmkifaa
set_option linter.unusedVariables false
set_option linter.unusedSimpArgs false
open Go.RowKit

def dotC : CellM := ⟨46, .z⟩
theorem rem_any (c : Int) (W : Nat) (h2 : 2 ≤ W) : ∃ tm : Int, c.tmod (W : Int) = tm ∧ -(W : Int) < tm ∧ tm < (W : Int) ∧ ∃ m : Nat, (tm + (W : Int)) % (W : Int) = (m : Int) ∧ m < W := by
  refine ⟨_, rfl, ?_, Int.tmod_lt_of_pos c (by omega), ((c.tmod (W : Int) + (W : Int)) % (W : Int)).toNat, ?_, ?_⟩
  · have h1 := Int.natAbs_tmod c (W : Int)
    have h3 := Nat.mod_lt c.natAbs (show 0 < (W : Int).natAbs by omega)
    rw [← h1] at h3
    omega
  · have := Int.emod_nonneg (c.tmod (W : Int) + (W : Int)) (show (W : Int) ≠ 0 by omega)
    omega
  · have := Int.emod_lt_of_pos (c.tmod (W : Int) + (W : Int)) (show 0 < (W : Int) by omega)
    have := Int.emod_nonneg (c.tmod (W : Int) + (W : Int)) (show (W : Int) ≠ 0 by omega)
    omega

def rowF1 (W j : Nat) (xs : Nat → CellM) (k : Nat) : CellM := if W ≤ k ∧ k < W + j then xs (k - W) else blankC
def rowF2 (W X N : Nat) (f : Nat → CellM) (k : Nat) : CellM := if W + X ≤ k ∧ k < W + X + (W - X) then backF (fun i => f (W + X + i)) (min N (W - X)) dotC (k - (W + X)) else f k
def rowF3 (W X N : Nat) (f : Nat → CellM) (k : Nat) : CellM := if W + X ≤ k ∧ k < W + X + (W - X) then frontF (fun i => rowF2 W X N f (W + X + i)) (W - X) (min N (W - X)) dotC (k - (W + X)) else rowF2 W X N f k
theorem rowF3_at (W X N i : Nat) (f : Nat → CellM) (hX : X < W) (hi : i < W) : rowF3 W X N f (W + i) = if X ≤ i ∧ W ≤ i + N then dotC else f (W + i) := by
  unfold rowF3
  by_cases h1 : X ≤ i
  · rw [if_pos (by omega)]
    unfold frontF
    by_cases h2 : W ≤ i + N
    · exact (if_neg (by omega)).trans (if_pos ⟨h1, h2⟩).symm
    · refine (if_pos (by omega)).trans (Eq.trans ?_ (if_neg (fun e => h2 e.2)).symm)
      unfold rowF2
      dsimp only
      rw [if_pos (by omega)]
      unfold backF
      rw [if_neg (by omega)]
      refine congrArg f ?_
      omega
  · rw [if_neg (by omega), if_neg (fun e => h1 e.1)]
    unfold rowF2
    rw [if_neg (by omega)]
theorem rowF3_low (W X N i : Nat) (f : Nat → CellM) (hi : i < W) : rowF3 W X N f i = f i := by
  unfold rowF3 rowF2
  rw [if_neg (by omega), if_neg (by omega)]

theorem at_one (W H : Nat) (f : Nat → CellM) (k : Nat) (hk : k < W) (hH : 1 < H) : atF W H f (k : Int) 1 = f (W + k) := by
  unfold atF restA
  rw [if_pos (by omega)]
  simp
theorem at_zero (W H : Nat) (f : Nat → CellM) (k : Nat) (hk : k < W) (hH : 0 < H) : atF W H f (k : Int) 0 = f k := by
  unfold atF restA
  rw [if_pos (by omega)]
  simp

/-- Cells that are read, as a function. -/
def getF (xs : List CellM) (k : Nat) : CellM := xs.getD k .z
theorem flatF_get (xs : List CellM) : flatF (getF xs) xs.length = xs.flatMap cellCs := flatF_list xs _ (fun k c h => by unfold getF; rw [List.getD_eq_getElem?_getD, h]; rfl)

set_option maxRecDepth 100000 in
set_option maxHeartbeats 1600000 in
theorem gridRows_early (x X N : Int) (A : Option Addr) (n cap : Nat) (w : World) (h : (n : Int) > 60) :
    Calls Try.prog 7 #[.int .i64 x, .int .i64 X, .int .i64 N, .slice A n cap] w fun e w' => e = .returned (.bool true) ∧ Below w.heap.size w w' := by
  go_enter Try.func7, Try.ntmps7
  go_wp2_with fail
  refine (alive_any _).mono ?_
  rintro e w1 ⟨rfl, hb⟩
  have HB := Lib.hid hb
  clear hb
  go_wp2_with fail
  go_ret
  exact ⟨rfl, HB.out⟩


set_option maxRecDepth 100000 in
set_option maxHeartbeats 6400000 in
theorem gridRows_main (x X0 N0 : Int) (A : Option Addr) (ln cap : Nat) (xs : List CellM) (w : World) (h : CellsL w A ln xs) (h60 : ¬ (ln : Int) > 60) (W X N n : Nat) (tm : Int) (hW : min (max x 2) 40 = (W : Int)) (hn : n = W * 2)
    (e1 : X0.tmod (W : Int) = tm) (l1 : -(W : Int) < tm) (l2 : tm < (W : Int)) (e2 : (tm + (W : Int)) % (W : Int) = (X : Int)) (hX : X < W) (e3 : min (max N0 0) (W : Int) = (N : Int)) :
    Calls Try.prog 7 #[.int .i64 x, .int .i64 X0, .int .i64 N0, .slice A ln cap] w fun e w' => e = .returned (.bool true) ∧ Below w.heap.size w w' := by
  have hw40 : 2 ≤ W ∧ W ≤ 40 := by omega
  have hNew := Lib.hid (fun V => grid_new V x 2 W 2 n hW (by decide) hn)
  have HWB := Lib.hid hw40
  have HNE := Lib.hid hn
  have t6 : (W : Int) ≤ 40 := by omega
  have t8 : (2 : Int) ≤ (W : Int) := by omega
  have hW0 : ¬ W = 0 := by omega
  have hNW : (N : Int) ≤ (W : Int) := by omega
  have hXW : (X : Int) < (W : Int) := by omega
  have hSr : Hid (Src w A (ln * 6) (flatF (getF xs) ln)) := Lib.hid (by have := h.1; rw [← flatF_get xs, h.2.1] at this; exact this)
  have hl60 : ln ≤ 60 := by omega
  clear hW hn hw40 h
  go_enter Try.func7, Try.ntmps7
  go_wp2_with fail
  refine (alive_any _).mono ?_
  rintro e w1 ⟨rfl, hb⟩
  have HB1 := Lib.hid hb
  clear hb
  go_wp2_with fail
  refine (hNew.out _).mono ?_
  rintro e w2 ⟨rfl, hG, hb⟩
  obtain ⟨g, hg⟩ : ∃ g, g = w1.heap.size := ⟨_, rfl⟩
  have hgw : Hid (w.heap.size ≤ g) := Lib.hid (by rw [hg]; exact HB1.out.size)
  rw [← hg] at hG
  have HG2 := Lib.hid hG
  have HB2 : Hid (Below w.heap.size w w2) := Lib.hid (HB1.out.trans (hb.mono HB1.out.size))
  rw [← hg]
  clear hG hb hg
  go_wp2_with fail
  refine (grid_W w2 (g + 1) g n W 2 n _ HG2.out).mono ?_
  rintro e w3 ⟨rfl, rfl⟩
  go_upto_region 8 with fail
  try rw [e2]
  try rw [e3]
  clear e1 e2 e3 l1 l2
  go_wp2_with fail
  have hj1 : Hid (restN W 2 0 1 = W ∧ restA W 0 1 = W) := Lib.hid ⟨by unfold restN; rw [if_pos (by omega)]; simp, by unfold restA; simp⟩
  refine (grid_setR w3 (g + 1) g n W 2 n _ 0 1 A ln cap (getF xs) HG2.out (hSr.out.keep (Keep.of_below _ HB2.out)) (by omega) (min ln W) (by rw [hj1.out.1])).mono ?_
  rintro e w4 ⟨rfl, hp⟩
  obtain ⟨F1, hF1⟩ : ∃ F1, F1 = rowF1 W (min ln W) (getF xs) := ⟨_, rfl⟩
  have HG4 : Hid (GridAt w4 (g + 1) g n W 2 n F1) := Lib.hid (by
    rw [hj1.out.2] at hp
    rw [hF1]
    exact HG2.out.put hp (by have := HNE.out; omega))
  have HB4 : Hid (Below w.heap.size w w4) := Lib.hid (HB2.out.trans (hp.keep.below HB2.out.size (fun k hk e => by have := hgw.out; omega)))
  clear hp hF1 HG2 hj1
  go_wp2_with fail
  refine (grid_copy w4 (g + 1) g n W 2 n F1 HG4.out).mono ?_
  rintro e w5 ⟨p5, g5, c5, rfl, q1, q2, hG5, hb5⟩
  have K5 := Lib.hid (Keep.of_below (fun _ => False) hb5)
  have HG5 := Lib.hid (HG4.out.keep K5.out (fun y => y) (fun y => y))
  have HC5 := Lib.hid hG5
  have HB5 : Hid (Below w.heap.size w w5) := Lib.hid (HB4.out.trans (hb5.mono HB4.out.size))
  have hgg : Hid (g ≠ p5 ∧ g ≠ g5) := Lib.hid (by have := HG4.out.hg; have := HG4.out.lt; omega)
  clear q1 q2 hG5 hb5 HG4 HB4
  go_wp2_with fail
  obtain ⟨w6, hw6⟩ : ∃ w6, w6 = w5.alloc (.cells (vcells dotC) 42) := ⟨_, rfl⟩
  have K6 : Keep (fun _ => False) w5 w6 := by rw [hw6]; exact (Keep.refl _ w5).alloc _
  have HG6 := Lib.hid (HG5.out.keep K6 (fun y => y) (fun y => y))
  have HC6 := Lib.hid (HC5.out.keep K6 (fun y => y) (fun y => y))
  have HB6 : Hid (Below w.heap.size w w6) := Lib.hid (HB5.out.trans (K6.below HB5.out.size (fun k hk e => e.elim)))
  have HR6 : Hid (w6.heap[w5.heap.size]? = some (.cells (vcells dotC) 42 (0, 0))) := Lib.hid (by rw [hw6]; exact heap_alloc_new w5 _)
  have hgr : g < w5.heap.size := HG5.out.hg
  unfold vcells dotC At.z at hw6
  dsimp only at hw6
  go_upto_region 13 with fail
  rw [← hw6]
  obtain ⟨r, hr⟩ : ∃ r, r = w5.heap.size := ⟨_, rfl⟩
  rw [← hr] at HR6 hgr
  rw [← hr]
  clear hw6 hr K6 HG5 HC5 HB5
  have hrs : Hid (restA W X 1 = W + X ∧ restN W 2 X 1 = W - X) := Lib.hid ⟨by unfold restA; simp, by unfold restN; rw [if_pos (by omega)]; simp⟩
  refine (grid_right w6 (g + 1) g n W 2 n F1 X 1 N dotC HG6.out).mono ?_
  rintro e w7 ⟨rfl, hp⟩
  have HG7 : Hid (GridAt w7 (g + 1) g n W 2 n (rowF2 W X N F1)) := Lib.hid (by
    rw [hrs.out.1, hrs.out.2, Int.toNat_natCast] at hp
    exact HG6.out.put hp (by have := HNE.out; omega))
  have K7 := Lib.hid hp.keep
  have HR7 := Lib.hid (K7.out.heap HR6.out (by omega))
  clear hp
  obtain ⟨x0, x1, x2, x3, x4, x5⟩ := cells_six HR7.out
  simp only [dotC, At.z] at x0 x1 x2 x3 x4 x5
  go_wp2_with fail
  refine (grid_left w7 (g + 1) g n W 2 n (rowF2 W X N F1) X 1 N dotC HG7.out).mono ?_
  rintro e w8 ⟨rfl, hp⟩
  have HG8 : Hid (GridAt w8 (g + 1) g n W 2 n (rowF3 W X N F1)) := Lib.hid (by
    rw [hrs.out.1, hrs.out.2, Int.toNat_natCast] at hp
    exact HG7.out.put hp (by have := HNE.out; omega))
  have K8 : Hid (Keep (· = g) w6 w8) := Lib.hid (K7.out.trans hp.keep (fun _ _ y => y))
  have HR8 := Lib.hid (K8.out.heap HR6.out (by omega))
  have HC8 := Lib.hid (HC6.out.keep K8.out (by have := hgg.out; omega) (by have := hgg.out; omega))
  have HB8 : Hid (Below w.heap.size w w8) := Lib.hid (HB6.out.trans (K8.out.below HB6.out.size (fun k hk e => by have := hgw.out; omega)))
  clear hp x0 x1 x2 x3 x4 x5 HG6 HG7 HR6 HR7 K7 K8 HC6
  go_wp2_with fail
  go_loopw [12, 13] (fun i _ wr => ∃ k : Nat, i = .int .i64 k ∧ k ≤ W ∧ Hid (Keep (fun _ => False) w8 wr)) (fun i _ _ => W - (intOf i).toNat)
  case atStart => exact ⟨0, rfl, Nat.zero_le _, Keep.refl _ _⟩
  case round =>
    obtain ⟨k, rfl, hk, HK⟩ := hrel
    by_cases hlt : k < W
    · have hki : ((k : Int) < (W : Int)) := by omega
      have hk0 : (0 : Int) ≤ (k : Int) := by omega
      have HGr := Lib.hid (HG8.out.keep HK.out (fun y => y) (fun y => y))
      have HCr := Lib.hid (HC8.out.keep HK.out (fun y => y) (fun y => y))
      have HRr := Lib.hid (HK.out.heap HR8.out (fun y => y))
      obtain ⟨u, hu⟩ : ∃ u, u = F1 (W + k) := ⟨_, rfl⟩
      obtain ⟨v, hv⟩ : ∃ v, v = F1 k := ⟨_, rfl⟩
      have HA1 : Hid (∀ V, Keep (fun _ => False) wr V → Calls Try.prog 35 #[.pointer (some ⟨p5, 0, none⟩), .int .i64 k, .int .i64 1] V fun e w' => e = .returned (.agg #[.int .i32 u.r, .int .i64 u.a.fg, .int .i64 u.a.bg, .bool u.a.b, .bool u.a.u, .bool u.a.i]) ∧ Below V.heap.size V w') := Lib.hid (fun V kv => by
        have := grid_at V p5 g5 c5 W 2 n F1 k 1 (HCr.out.keep kv (fun y => y) (fun y => y))
        rwa [at_one W 2 F1 k hlt (by omega), ← hu] at this)
      have HA4 : Hid (∀ V, Keep (fun _ => False) wr V → Calls Try.prog 35 #[.pointer (some ⟨p5, 0, none⟩), .int .i64 k, .int .i64 0] V fun e w' => e = .returned (.agg #[.int .i32 v.r, .int .i64 v.a.fg, .int .i64 v.a.bg, .bool v.a.b, .bool v.a.u, .bool v.a.i]) ∧ Below V.heap.size V w') := Lib.hid (fun V kv => by
        have := grid_at V p5 g5 c5 W 2 n F1 k 0 (HCr.out.keep kv (fun y => y) (fun y => y))
        rwa [at_zero W 2 F1 k hlt (by omega), ← hv] at this)
      have HA3 : Hid (∀ V, Keep (fun _ => False) wr V → Calls Try.prog 35 #[.pointer (some ⟨g + 1, 0, none⟩), .int .i64 k, .int .i64 0] V fun e w' => e = .returned (.agg #[.int .i32 v.r, .int .i64 v.a.fg, .int .i64 v.a.bg, .bool v.a.b, .bool v.a.u, .bool v.a.i]) ∧ Below V.heap.size V w') := Lib.hid (fun V kv => by
        have := grid_at V (g + 1) g n W 2 n (rowF3 W X N F1) k 0 (HGr.out.keep kv (fun y => y) (fun y => y))
        rwa [at_zero W 2 _ k hlt (by omega), rowF3_low W X N k F1 hlt, ← hv] at this)
      have HA2 : Hid (∀ V, Keep (fun _ => False) wr V → Calls Try.prog 35 #[.pointer (some ⟨g + 1, 0, none⟩), .int .i64 k, .int .i64 1] V fun e w' => e = .returned (CellM.v (if X ≤ k ∧ W ≤ k + N then dotC else u)) ∧ Below V.heap.size V w') := Lib.hid (fun V kv => by
        have := grid_at V (g + 1) g n W 2 n (rowF3 W X N F1) k 1 (HGr.out.keep kv (fun y => y) (fun y => y))
        rwa [at_one W 2 _ k hlt (by omega), rowF3_at W X N k F1 hX hlt, ← hu] at this)
      clear hu hv
      go_wp2_with fail
      refine (HA1.out _ (Keep.refl _ _)).mono ?_
      rintro e v1 ⟨rfl, hb⟩
      have KV1 := Lib.hid (Keep.of_below (fun _ => False) hb)
      obtain ⟨x0, x1, x2, x3, x4, x5⟩ := cells_six (KV1.out.heap HRr.out (fun y => y))
      simp only [dotC, At.z] at x0 x1 x2 x3 x4 x5
      have hrl : r < v1.heap.size := lt_heap (KV1.out.heap HRr.out (fun y => y))
      clear hb
      by_cases h1 : X ≤ k
      · have h1i : (k : Int) ≥ (X : Int) := by omega
        by_cases h2 : W ≤ k + N
        · have h2i : (k : Int) ≥ (W : Int) - (N : Int) := by omega
          have hcd : (X ≤ k ∧ W ≤ k + N) := ⟨h1, h2⟩
          have HAF : Hid (∀ V, Keep (fun _ => False) wr V → Calls Try.prog 35 #[.pointer (some ⟨g + 1, 0, none⟩), .int .i64 k, .int .i64 1] V fun e w' => e = .returned (.agg #[.int .i32 46, .int .i64 0, .int .i64 0, .bool false, .bool false, .bool false]) ∧ Below V.heap.size V w') := Lib.hid (fun V kv => by have := HA2.out V kv; rw [if_pos hcd] at this; exact this)
          obtain ⟨w9, hw9⟩ : ∃ w9, w9 = v1.alloc (.cells (vcells dotC) 42) := ⟨_, rfl⟩
          have K9 : Hid (Keep (fun _ => False) wr w9) := Lib.hid (by rw [hw9]; exact KV1.out.alloc _)
          have HQ9 : Hid (w9.heap[v1.heap.size]? = some (.cells (vcells dotC) 42 (0, 0))) := Lib.hid (by rw [hw9]; exact heap_alloc_new v1 _)
          unfold vcells at hw9
          unfold dotC At.z at hw9; dsimp only at hw9
          clear hcd h1 HA2
          go_upto_region 21 with fail
          rw [← hw9]
          obtain ⟨q, hq⟩ : ∃ q, q = v1.heap.size := ⟨_, rfl⟩
          rw [← hq] at HQ9
          rw [← hq]
          clear hw9 hq x0 x1 x2 x3 x4 x5
          refine wp_region_noPanic ?_
          refine wp_region_held_drew (S := fun w' => w'.cell? ⟨q, 0, none⟩ = some (.int .i32 46) ∧ w'.cell? ⟨q, 1, none⟩ = some (.int .i64 0) ∧ w'.cell? ⟨q, 2, none⟩ = some (.int .i64 0) ∧ w'.cell? ⟨q, 3, none⟩ = some (.bool false) ∧ w'.cell? ⟨q, 4, none⟩ = some (.bool false) ∧ w'.cell? ⟨q, 5, none⟩ = some (.bool false)) (by kernel_rfl) (cells_six HQ9.out) (fun hHeld => ?_)
          refine wpAnyH_take (i := 0) (oi := _) (v := ?va0) rfl (by kernel_rfl) (by kernel_rfl) (by kernel_rfl) (fun _ _ _ h => h) (Or.inl ⟨by rfl, ?hya0⟩) (by assumption) ?resta0
          case hya0 => (intro w hSw; (try dsimp only at hSw); (try simp only [List.getElem_toArray, List.getElem_cons_zero, List.getElem_cons_succ]); go_simp; (try with_reducible rfl))
          (try simp only [Act.put, List.setIfInBounds_toArray, List.set_cons_zero, List.set_cons_succ, List.getElem_toArray, List.getElem_cons_zero, List.getElem_cons_succ])
          refine wpAnyH_take (i := 1) (oi := _) (v := ?va1) rfl (by kernel_rfl) (by kernel_rfl) (by kernel_rfl) (fun _ _ _ h => h) (Or.inl ⟨by rfl, ?hya1⟩) (by assumption) ?resta1
          case hya1 => (intro w hSw; (try dsimp only at hSw); (try simp only [List.getElem_toArray, List.getElem_cons_zero, List.getElem_cons_succ]); go_simp; (try with_reducible rfl))
          (try simp only [Act.put, List.setIfInBounds_toArray, List.set_cons_zero, List.set_cons_succ, List.getElem_toArray, List.getElem_cons_zero, List.getElem_cons_succ])
          refine wpAnyH_take (i := 3) (oi := _) (v := ?va3) rfl (by kernel_rfl) (by kernel_rfl) (by kernel_rfl) (fun _ _ _ h => h) (Or.inl ⟨by rfl, ?hya3⟩) (by assumption) ?resta3
          case hya3 => (intro w hSw; (try dsimp only at hSw); (try simp only [List.getElem_toArray, List.getElem_cons_zero, List.getElem_cons_succ]); go_simp; (try with_reducible rfl))
          (try simp only [Act.put, List.setIfInBounds_toArray, List.set_cons_zero, List.set_cons_succ, List.getElem_toArray, List.getElem_cons_zero, List.getElem_cons_succ])
          refine wpAnyH_ready (rs := [2]) (by kernel_rfl) (by simp) ?_
          refine AllReadyH.cons (o := _) rfl (fun K hK => ?_) AllReadyH.nil
          (try simp only [List.getElem_toArray, List.getElem_cons_zero, List.getElem_cons_succ])
          go_simp
          refine (HAF.out _ (K9.out.drew)).mono ?_; rintro e ya1 ⟨rfl, hb⟩; have Ka1 : Hid (Keep (fun _ => False) wr ya1) := Lib.hid ((K9.out.drew).trans (Keep.of_below (fun _ => False) hb) (fun _ _ z => z)); have HQa1 := Lib.hid ((Keep.of_below (fun _ => False) hb).heap (show w9.drew.heap[q]? = _ from HQ9.out) (fun z => z)); clear hb
          refine hK.out _ _ ?_ (fun hHeld => ?_)
          · exact cells_six HQa1.out
          clear hK K
          (try simp only [Act.put, List.setIfInBounds_toArray, List.set_cons_zero, List.set_cons_succ, List.getElem_toArray, List.getElem_cons_zero, List.getElem_cons_succ])
          refine wpAnyH_take (i := 4) (oi := _) (v := ?va4) rfl (by kernel_rfl) (by kernel_rfl) (by kernel_rfl) (fun _ _ _ h => h) (Or.inl ⟨by rfl, ?hya4⟩) (by assumption) ?resta4
          case hya4 => (intro w hSw; (try dsimp only at hSw); (try simp only [List.getElem_toArray, List.getElem_cons_zero, List.getElem_cons_succ]); go_simp; (try with_reducible rfl))
          (try simp only [Act.put, List.setIfInBounds_toArray, List.set_cons_zero, List.set_cons_succ, List.getElem_toArray, List.getElem_cons_zero, List.getElem_cons_succ])
          refine wpAnyH_take (i := 5) (oi := _) (v := ?va5) rfl (by kernel_rfl) (by kernel_rfl) (by kernel_rfl) (fun _ _ _ h => h) (Or.inl ⟨by rfl, ?hya5⟩) (by assumption) ?resta5
          case hya5 => (intro w hSw; (try dsimp only at hSw); (try simp only [List.getElem_toArray, List.getElem_cons_zero, List.getElem_cons_succ]); go_simp; (try with_reducible rfl))
          (try simp only [Act.put, List.setIfInBounds_toArray, List.set_cons_zero, List.set_cons_succ, List.getElem_toArray, List.getElem_cons_zero, List.getElem_cons_succ])
          refine wpAnyH_take (i := 6) (oi := _) (v := ?va6) rfl (by kernel_rfl) (by kernel_rfl) (by kernel_rfl) (fun _ _ _ h => h) (Or.inl ⟨by rfl, ?hya6⟩) (by assumption) ?resta6
          case hya6 => (intro w hSw; (try dsimp only at hSw); (try simp only [List.getElem_toArray, List.getElem_cons_zero, List.getElem_cons_succ]); go_simp; (try with_reducible rfl))
          (try simp only [Act.put, List.setIfInBounds_toArray, List.set_cons_zero, List.set_cons_succ, List.getElem_toArray, List.getElem_cons_zero, List.getElem_cons_succ])
          refine wpAnyH_take (i := 7) (oi := _) (v := ?va7) rfl (by kernel_rfl) (by kernel_rfl) (by kernel_rfl) (fun _ _ _ h => h) (Or.inl ⟨by rfl, ?hya7⟩) (by assumption) ?resta7
          case hya7 => (intro w hSw; (try dsimp only at hSw); (try simp only [List.getElem_toArray, List.getElem_cons_zero, List.getElem_cons_succ]); go_simp; (try with_reducible rfl))
          (try simp only [Act.put, List.setIfInBounds_toArray, List.set_cons_zero, List.set_cons_succ, List.getElem_toArray, List.getElem_cons_zero, List.getElem_cons_succ])
          refine wpAnyH_take (i := 9) (oi := _) (v := ?va9) rfl (by kernel_rfl) (by kernel_rfl) (by kernel_rfl) (fun _ _ _ h => h) (Or.inl ⟨by rfl, ?hya9⟩) (by assumption) ?resta9
          case hya9 => (intro w hSw; (try dsimp only at hSw); (try simp only [List.getElem_toArray, List.getElem_cons_zero, List.getElem_cons_succ]); go_simp; (try with_reducible rfl))
          (try simp only [Act.put, List.setIfInBounds_toArray, List.set_cons_zero, List.set_cons_succ, List.getElem_toArray, List.getElem_cons_zero, List.getElem_cons_succ])
          refine wpAnyH_take (i := 10) (oi := _) (v := ?va10) rfl (by kernel_rfl) (by kernel_rfl) (by kernel_rfl) (fun _ _ _ h => h) (Or.inl ⟨by rfl, ?hya10⟩) (by assumption) ?resta10
          case hya10 => (intro w hSw; (try dsimp only at hSw); (try simp only [List.getElem_toArray, List.getElem_cons_zero, List.getElem_cons_succ]); go_simp; (try with_reducible rfl))
          (try simp only [Act.put, List.setIfInBounds_toArray, List.set_cons_zero, List.set_cons_succ, List.getElem_toArray, List.getElem_cons_zero, List.getElem_cons_succ])
          refine wpAnyH_ready (rs := [8]) (by kernel_rfl) (by simp) ?_
          refine AllReadyH.cons (o := _) rfl (fun K hK => ?_) AllReadyH.nil
          (try simp only [List.getElem_toArray, List.getElem_cons_zero, List.getElem_cons_succ])
          go_simp
          refine (HA3.out _ (Ka1.out)).mono ?_; rintro e ya2 ⟨rfl, hb⟩; have Ka2 : Hid (Keep (fun _ => False) wr ya2) := Lib.hid ((Ka1.out).trans (Keep.of_below (fun _ => False) hb) (fun _ _ z => z)); have HQa2 := Lib.hid ((Keep.of_below (fun _ => False) hb).heap (show ya1.heap[q]? = _ from HQa1.out) (fun z => z)); clear hb
          refine hK.out _ _ ?_ (fun hHeld => ?_)
          · exact cells_six HQa2.out
          clear hK K
          (try simp only [Act.put, List.setIfInBounds_toArray, List.set_cons_zero, List.set_cons_succ, List.getElem_toArray, List.getElem_cons_zero, List.getElem_cons_succ])
          refine wpAnyH_ready (rs := [11]) (by kernel_rfl) (by simp) ?_
          refine AllReadyH.cons (o := _) rfl (fun K hK => ?_) AllReadyH.nil
          (try simp only [List.getElem_toArray, List.getElem_cons_zero, List.getElem_cons_succ])
          go_simp
          refine (HA4.out _ (Ka2.out)).mono ?_; rintro e ya3 ⟨rfl, hb⟩; have Ka3 : Hid (Keep (fun _ => False) wr ya3) := Lib.hid ((Ka2.out).trans (Keep.of_below (fun _ => False) hb) (fun _ _ z => z)); have HQa3 := Lib.hid ((Keep.of_below (fun _ => False) hb).heap (show ya2.heap[q]? = _ from HQa2.out) (fun z => z)); clear hb
          refine hK.out _ _ ?_ (fun hHeld => ?_)
          · exact cells_six HQa3.out
          clear hK K
          (try simp only [Act.put, List.setIfInBounds_toArray, List.set_cons_zero, List.set_cons_succ, List.getElem_toArray, List.getElem_cons_zero, List.getElem_cons_succ])
          refine wpAnyH_take (i := 12) (oi := _) (v := ?va12) rfl (by kernel_rfl) (by kernel_rfl) (by kernel_rfl) (fun _ _ _ h => h) (Or.inl ⟨by rfl, ?hya12⟩) (by assumption) ?resta12
          case hya12 => (intro w hSw; (try dsimp only at hSw); (try simp only [List.getElem_toArray, List.getElem_cons_zero, List.getElem_cons_succ]); go_simp; (try with_reducible rfl))
          (try simp only [Act.put, List.setIfInBounds_toArray, List.set_cons_zero, List.set_cons_succ, List.getElem_toArray, List.getElem_cons_zero, List.getElem_cons_succ])
          refine wpAnyH_take (i := 13) (oi := _) (v := ?va13) rfl (by kernel_rfl) (by kernel_rfl) (by kernel_rfl) (fun _ _ _ h => h) (Or.inl ⟨by rfl, ?hya13⟩) (by assumption) ?resta13
          case hya13 => (intro w hSw; (try dsimp only at hSw); (try simp only [List.getElem_toArray, List.getElem_cons_zero, List.getElem_cons_succ]); go_simp; (try with_reducible rfl))
          (try simp only [Act.put, List.setIfInBounds_toArray, List.set_cons_zero, List.set_cons_succ, List.getElem_toArray, List.getElem_cons_zero, List.getElem_cons_succ])
          refine wpAnyH_done (by kernel_rfl) ?_ _
          refine NoPanic.normal ?_
          go_wp2_with fail
          go_roundw
          case rel => exact ⟨k + 1, by go_num, by omega, Lib.hid (HK.out.trans Ka3.out (fun _ _ y => y))⟩
          case measure => simp [intOf]; omega
        · have h2i : ¬ (k : Int) ≥ (W : Int) - (N : Int) := by omega
          have hcd : ¬ (X ≤ k ∧ W ≤ k + N) := fun e => h2 e.2
          have HAF : Hid (∀ V, Keep (fun _ => False) wr V → Calls Try.prog 35 #[.pointer (some ⟨g + 1, 0, none⟩), .int .i64 k, .int .i64 1] V fun e w' => e = .returned (.agg #[.int .i32 u.r, .int .i64 u.a.fg, .int .i64 u.a.bg, .bool u.a.b, .bool u.a.u, .bool u.a.i]) ∧ Below V.heap.size V w') := Lib.hid (fun V kv => by have := HA2.out V kv; rw [if_neg hcd] at this; exact this)
          obtain ⟨w9, hw9⟩ : ∃ w9, w9 = v1.alloc (.cells (vcells u) 42) := ⟨_, rfl⟩
          have K9 : Hid (Keep (fun _ => False) wr w9) := Lib.hid (by rw [hw9]; exact KV1.out.alloc _)
          have HQ9 : Hid (w9.heap[v1.heap.size]? = some (.cells (vcells u) 42 (0, 0))) := Lib.hid (by rw [hw9]; exact heap_alloc_new v1 _)
          unfold vcells at hw9
          skip
          clear hcd h1 HA2
          go_upto_region 21 with fail
          rw [← hw9]
          obtain ⟨q, hq⟩ : ∃ q, q = v1.heap.size := ⟨_, rfl⟩
          rw [← hq] at HQ9
          rw [← hq]
          clear hw9 hq x0 x1 x2 x3 x4 x5
          refine wp_region_noPanic ?_
          refine wp_region_held_drew (S := fun w' => w'.cell? ⟨q, 0, none⟩ = some (.int .i32 u.r) ∧ w'.cell? ⟨q, 1, none⟩ = some (.int .i64 u.a.fg) ∧ w'.cell? ⟨q, 2, none⟩ = some (.int .i64 u.a.bg) ∧ w'.cell? ⟨q, 3, none⟩ = some (.bool u.a.b) ∧ w'.cell? ⟨q, 4, none⟩ = some (.bool u.a.u) ∧ w'.cell? ⟨q, 5, none⟩ = some (.bool u.a.i)) (by kernel_rfl) (cells_six HQ9.out) (fun hHeld => ?_)
          refine wpAnyH_take (i := 0) (oi := _) (v := ?vb0) rfl (by kernel_rfl) (by kernel_rfl) (by kernel_rfl) (fun _ _ _ h => h) (Or.inl ⟨by rfl, ?hyb0⟩) (by assumption) ?restb0
          case hyb0 => (intro w hSw; (try dsimp only at hSw); (try simp only [List.getElem_toArray, List.getElem_cons_zero, List.getElem_cons_succ]); go_simp; (try with_reducible rfl))
          (try simp only [Act.put, List.setIfInBounds_toArray, List.set_cons_zero, List.set_cons_succ, List.getElem_toArray, List.getElem_cons_zero, List.getElem_cons_succ])
          refine wpAnyH_take (i := 1) (oi := _) (v := ?vb1) rfl (by kernel_rfl) (by kernel_rfl) (by kernel_rfl) (fun _ _ _ h => h) (Or.inl ⟨by rfl, ?hyb1⟩) (by assumption) ?restb1
          case hyb1 => (intro w hSw; (try dsimp only at hSw); (try simp only [List.getElem_toArray, List.getElem_cons_zero, List.getElem_cons_succ]); go_simp; (try with_reducible rfl))
          (try simp only [Act.put, List.setIfInBounds_toArray, List.set_cons_zero, List.set_cons_succ, List.getElem_toArray, List.getElem_cons_zero, List.getElem_cons_succ])
          refine wpAnyH_take (i := 3) (oi := _) (v := ?vb3) rfl (by kernel_rfl) (by kernel_rfl) (by kernel_rfl) (fun _ _ _ h => h) (Or.inl ⟨by rfl, ?hyb3⟩) (by assumption) ?restb3
          case hyb3 => (intro w hSw; (try dsimp only at hSw); (try simp only [List.getElem_toArray, List.getElem_cons_zero, List.getElem_cons_succ]); go_simp; (try with_reducible rfl))
          (try simp only [Act.put, List.setIfInBounds_toArray, List.set_cons_zero, List.set_cons_succ, List.getElem_toArray, List.getElem_cons_zero, List.getElem_cons_succ])
          refine wpAnyH_ready (rs := [2]) (by kernel_rfl) (by simp) ?_
          refine AllReadyH.cons (o := _) rfl (fun K hK => ?_) AllReadyH.nil
          (try simp only [List.getElem_toArray, List.getElem_cons_zero, List.getElem_cons_succ])
          go_simp
          refine (HAF.out _ (K9.out.drew)).mono ?_; rintro e yb1 ⟨rfl, hb⟩; have Kb1 : Hid (Keep (fun _ => False) wr yb1) := Lib.hid ((K9.out.drew).trans (Keep.of_below (fun _ => False) hb) (fun _ _ z => z)); have HQb1 := Lib.hid ((Keep.of_below (fun _ => False) hb).heap (show w9.drew.heap[q]? = _ from HQ9.out) (fun z => z)); clear hb
          refine hK.out _ _ ?_ (fun hHeld => ?_)
          · exact cells_six HQb1.out
          clear hK K
          (try simp only [Act.put, List.setIfInBounds_toArray, List.set_cons_zero, List.set_cons_succ, List.getElem_toArray, List.getElem_cons_zero, List.getElem_cons_succ])
          refine wpAnyH_take (i := 4) (oi := _) (v := ?vb4) rfl (by kernel_rfl) (by kernel_rfl) (by kernel_rfl) (fun _ _ _ h => h) (Or.inl ⟨by rfl, ?hyb4⟩) (by assumption) ?restb4
          case hyb4 => (intro w hSw; (try dsimp only at hSw); (try simp only [List.getElem_toArray, List.getElem_cons_zero, List.getElem_cons_succ]); go_simp; (try with_reducible rfl))
          (try simp only [Act.put, List.setIfInBounds_toArray, List.set_cons_zero, List.set_cons_succ, List.getElem_toArray, List.getElem_cons_zero, List.getElem_cons_succ])
          refine wpAnyH_take (i := 5) (oi := _) (v := ?vb5) rfl (by kernel_rfl) (by kernel_rfl) (by kernel_rfl) (fun _ _ _ h => h) (Or.inl ⟨by rfl, ?hyb5⟩) (by assumption) ?restb5
          case hyb5 => (intro w hSw; (try dsimp only at hSw); (try simp only [List.getElem_toArray, List.getElem_cons_zero, List.getElem_cons_succ]); go_simp; (try with_reducible rfl))
          (try simp only [Act.put, List.setIfInBounds_toArray, List.set_cons_zero, List.set_cons_succ, List.getElem_toArray, List.getElem_cons_zero, List.getElem_cons_succ])
          refine wpAnyH_take (i := 6) (oi := _) (v := ?vb6) rfl (by kernel_rfl) (by kernel_rfl) (by kernel_rfl) (fun _ _ _ h => h) (Or.inl ⟨by rfl, ?hyb6⟩) (by assumption) ?restb6
          case hyb6 => (intro w hSw; (try dsimp only at hSw); (try simp only [List.getElem_toArray, List.getElem_cons_zero, List.getElem_cons_succ]); go_simp; (try with_reducible rfl))
          (try simp only [Act.put, List.setIfInBounds_toArray, List.set_cons_zero, List.set_cons_succ, List.getElem_toArray, List.getElem_cons_zero, List.getElem_cons_succ])
          refine wpAnyH_take (i := 7) (oi := _) (v := ?vb7) rfl (by kernel_rfl) (by kernel_rfl) (by kernel_rfl) (fun _ _ _ h => h) (Or.inl ⟨by rfl, ?hyb7⟩) (by assumption) ?restb7
          case hyb7 => (intro w hSw; (try dsimp only at hSw); (try simp only [List.getElem_toArray, List.getElem_cons_zero, List.getElem_cons_succ]); go_simp; (try with_reducible rfl))
          (try simp only [Act.put, List.setIfInBounds_toArray, List.set_cons_zero, List.set_cons_succ, List.getElem_toArray, List.getElem_cons_zero, List.getElem_cons_succ])
          refine wpAnyH_take (i := 9) (oi := _) (v := ?vb9) rfl (by kernel_rfl) (by kernel_rfl) (by kernel_rfl) (fun _ _ _ h => h) (Or.inl ⟨by rfl, ?hyb9⟩) (by assumption) ?restb9
          case hyb9 => (intro w hSw; (try dsimp only at hSw); (try simp only [List.getElem_toArray, List.getElem_cons_zero, List.getElem_cons_succ]); go_simp; (try with_reducible rfl))
          (try simp only [Act.put, List.setIfInBounds_toArray, List.set_cons_zero, List.set_cons_succ, List.getElem_toArray, List.getElem_cons_zero, List.getElem_cons_succ])
          refine wpAnyH_take (i := 10) (oi := _) (v := ?vb10) rfl (by kernel_rfl) (by kernel_rfl) (by kernel_rfl) (fun _ _ _ h => h) (Or.inl ⟨by rfl, ?hyb10⟩) (by assumption) ?restb10
          case hyb10 => (intro w hSw; (try dsimp only at hSw); (try simp only [List.getElem_toArray, List.getElem_cons_zero, List.getElem_cons_succ]); go_simp; (try with_reducible rfl))
          (try simp only [Act.put, List.setIfInBounds_toArray, List.set_cons_zero, List.set_cons_succ, List.getElem_toArray, List.getElem_cons_zero, List.getElem_cons_succ])
          refine wpAnyH_ready (rs := [8]) (by kernel_rfl) (by simp) ?_
          refine AllReadyH.cons (o := _) rfl (fun K hK => ?_) AllReadyH.nil
          (try simp only [List.getElem_toArray, List.getElem_cons_zero, List.getElem_cons_succ])
          go_simp
          refine (HA3.out _ (Kb1.out)).mono ?_; rintro e yb2 ⟨rfl, hb⟩; have Kb2 : Hid (Keep (fun _ => False) wr yb2) := Lib.hid ((Kb1.out).trans (Keep.of_below (fun _ => False) hb) (fun _ _ z => z)); have HQb2 := Lib.hid ((Keep.of_below (fun _ => False) hb).heap (show yb1.heap[q]? = _ from HQb1.out) (fun z => z)); clear hb
          refine hK.out _ _ ?_ (fun hHeld => ?_)
          · exact cells_six HQb2.out
          clear hK K
          (try simp only [Act.put, List.setIfInBounds_toArray, List.set_cons_zero, List.set_cons_succ, List.getElem_toArray, List.getElem_cons_zero, List.getElem_cons_succ])
          refine wpAnyH_ready (rs := [11]) (by kernel_rfl) (by simp) ?_
          refine AllReadyH.cons (o := _) rfl (fun K hK => ?_) AllReadyH.nil
          (try simp only [List.getElem_toArray, List.getElem_cons_zero, List.getElem_cons_succ])
          go_simp
          refine (HA4.out _ (Kb2.out)).mono ?_; rintro e yb3 ⟨rfl, hb⟩; have Kb3 : Hid (Keep (fun _ => False) wr yb3) := Lib.hid ((Kb2.out).trans (Keep.of_below (fun _ => False) hb) (fun _ _ z => z)); have HQb3 := Lib.hid ((Keep.of_below (fun _ => False) hb).heap (show yb2.heap[q]? = _ from HQb2.out) (fun z => z)); clear hb
          refine hK.out _ _ ?_ (fun hHeld => ?_)
          · exact cells_six HQb3.out
          clear hK K
          (try simp only [Act.put, List.setIfInBounds_toArray, List.set_cons_zero, List.set_cons_succ, List.getElem_toArray, List.getElem_cons_zero, List.getElem_cons_succ])
          refine wpAnyH_take (i := 12) (oi := _) (v := ?vb12) rfl (by kernel_rfl) (by kernel_rfl) (by kernel_rfl) (fun _ _ _ h => h) (Or.inl ⟨by rfl, ?hyb12⟩) (by assumption) ?restb12
          case hyb12 => (intro w hSw; (try dsimp only at hSw); (try simp only [List.getElem_toArray, List.getElem_cons_zero, List.getElem_cons_succ]); go_simp; (try with_reducible rfl))
          (try simp only [Act.put, List.setIfInBounds_toArray, List.set_cons_zero, List.set_cons_succ, List.getElem_toArray, List.getElem_cons_zero, List.getElem_cons_succ])
          refine wpAnyH_take (i := 13) (oi := _) (v := ?vb13) rfl (by kernel_rfl) (by kernel_rfl) (by kernel_rfl) (fun _ _ _ h => h) (Or.inl ⟨by rfl, ?hyb13⟩) (by assumption) ?restb13
          case hyb13 => (intro w hSw; (try dsimp only at hSw); (try simp only [List.getElem_toArray, List.getElem_cons_zero, List.getElem_cons_succ]); go_simp; (try with_reducible rfl))
          (try simp only [Act.put, List.setIfInBounds_toArray, List.set_cons_zero, List.set_cons_succ, List.getElem_toArray, List.getElem_cons_zero, List.getElem_cons_succ])
          refine wpAnyH_done (by kernel_rfl) ?_ _
          refine NoPanic.normal ?_
          go_wp2_with fail
          go_roundw
          case rel => exact ⟨k + 1, by go_num, by omega, Lib.hid (HK.out.trans Kb3.out (fun _ _ y => y))⟩
          case measure => simp [intOf]; omega
      · have h1i : ¬ (k : Int) ≥ (X : Int) := by omega
        have h1d : decide ((k : Int) ≥ (X : Int)) = false := by simp; omega
        have hcd : ¬ (X ≤ k ∧ W ≤ k + N) := fun e => h1 e.1
        have HAF : Hid (∀ V, Keep (fun _ => False) wr V → Calls Try.prog 35 #[.pointer (some ⟨g + 1, 0, none⟩), .int .i64 k, .int .i64 1] V fun e w' => e = .returned (.agg #[.int .i32 u.r, .int .i64 u.a.fg, .int .i64 u.a.bg, .bool u.a.b, .bool u.a.u, .bool u.a.i]) ∧ Below V.heap.size V w') := Lib.hid (fun V kv => by have := HA2.out V kv; rw [if_neg hcd] at this; exact this)
        obtain ⟨w9, hw9⟩ : ∃ w9, w9 = v1.alloc (.cells (vcells u) 42) := ⟨_, rfl⟩
        have K9 : Hid (Keep (fun _ => False) wr w9) := Lib.hid (by rw [hw9]; exact KV1.out.alloc _)
        have HQ9 : Hid (w9.heap[v1.heap.size]? = some (.cells (vcells u) 42 (0, 0))) := Lib.hid (by rw [hw9]; exact heap_alloc_new v1 _)
        unfold vcells at hw9
        skip
        clear hcd h1 HA2
        go_upto_region 21 with fail
        rw [← hw9]
        obtain ⟨q, hq⟩ : ∃ q, q = v1.heap.size := ⟨_, rfl⟩
        rw [← hq] at HQ9
        rw [← hq]
        clear hw9 hq x0 x1 x2 x3 x4 x5
        refine wp_region_noPanic ?_
        refine wp_region_held_drew (S := fun w' => w'.cell? ⟨q, 0, none⟩ = some (.int .i32 u.r) ∧ w'.cell? ⟨q, 1, none⟩ = some (.int .i64 u.a.fg) ∧ w'.cell? ⟨q, 2, none⟩ = some (.int .i64 u.a.bg) ∧ w'.cell? ⟨q, 3, none⟩ = some (.bool u.a.b) ∧ w'.cell? ⟨q, 4, none⟩ = some (.bool u.a.u) ∧ w'.cell? ⟨q, 5, none⟩ = some (.bool u.a.i)) (by kernel_rfl) (cells_six HQ9.out) (fun hHeld => ?_)
        refine wpAnyH_take (i := 0) (oi := _) (v := ?vc0) rfl (by kernel_rfl) (by kernel_rfl) (by kernel_rfl) (fun _ _ _ h => h) (Or.inl ⟨by rfl, ?hyc0⟩) (by assumption) ?restc0
        case hyc0 => (intro w hSw; (try dsimp only at hSw); (try simp only [List.getElem_toArray, List.getElem_cons_zero, List.getElem_cons_succ]); go_simp; (try with_reducible rfl))
        (try simp only [Act.put, List.setIfInBounds_toArray, List.set_cons_zero, List.set_cons_succ, List.getElem_toArray, List.getElem_cons_zero, List.getElem_cons_succ])
        refine wpAnyH_take (i := 1) (oi := _) (v := ?vc1) rfl (by kernel_rfl) (by kernel_rfl) (by kernel_rfl) (fun _ _ _ h => h) (Or.inl ⟨by rfl, ?hyc1⟩) (by assumption) ?restc1
        case hyc1 => (intro w hSw; (try dsimp only at hSw); (try simp only [List.getElem_toArray, List.getElem_cons_zero, List.getElem_cons_succ]); go_simp; (try with_reducible rfl))
        (try simp only [Act.put, List.setIfInBounds_toArray, List.set_cons_zero, List.set_cons_succ, List.getElem_toArray, List.getElem_cons_zero, List.getElem_cons_succ])
        refine wpAnyH_take (i := 3) (oi := _) (v := ?vc3) rfl (by kernel_rfl) (by kernel_rfl) (by kernel_rfl) (fun _ _ _ h => h) (Or.inl ⟨by rfl, ?hyc3⟩) (by assumption) ?restc3
        case hyc3 => (intro w hSw; (try dsimp only at hSw); (try simp only [List.getElem_toArray, List.getElem_cons_zero, List.getElem_cons_succ]); go_simp; (try with_reducible rfl))
        (try simp only [Act.put, List.setIfInBounds_toArray, List.set_cons_zero, List.set_cons_succ, List.getElem_toArray, List.getElem_cons_zero, List.getElem_cons_succ])
        refine wpAnyH_ready (rs := [2]) (by kernel_rfl) (by simp) ?_
        refine AllReadyH.cons (o := _) rfl (fun K hK => ?_) AllReadyH.nil
        (try simp only [List.getElem_toArray, List.getElem_cons_zero, List.getElem_cons_succ])
        go_simp
        refine (HAF.out _ (K9.out.drew)).mono ?_; rintro e yc1 ⟨rfl, hb⟩; have Kc1 : Hid (Keep (fun _ => False) wr yc1) := Lib.hid ((K9.out.drew).trans (Keep.of_below (fun _ => False) hb) (fun _ _ z => z)); have HQc1 := Lib.hid ((Keep.of_below (fun _ => False) hb).heap (show w9.drew.heap[q]? = _ from HQ9.out) (fun z => z)); clear hb
        refine hK.out _ _ ?_ (fun hHeld => ?_)
        · exact cells_six HQc1.out
        clear hK K
        (try simp only [Act.put, List.setIfInBounds_toArray, List.set_cons_zero, List.set_cons_succ, List.getElem_toArray, List.getElem_cons_zero, List.getElem_cons_succ])
        refine wpAnyH_take (i := 4) (oi := _) (v := ?vc4) rfl (by kernel_rfl) (by kernel_rfl) (by kernel_rfl) (fun _ _ _ h => h) (Or.inl ⟨by rfl, ?hyc4⟩) (by assumption) ?restc4
        case hyc4 => (intro w hSw; (try dsimp only at hSw); (try simp only [List.getElem_toArray, List.getElem_cons_zero, List.getElem_cons_succ]); go_simp; (try with_reducible rfl))
        (try simp only [Act.put, List.setIfInBounds_toArray, List.set_cons_zero, List.set_cons_succ, List.getElem_toArray, List.getElem_cons_zero, List.getElem_cons_succ])
        refine wpAnyH_take (i := 5) (oi := _) (v := ?vc5) rfl (by kernel_rfl) (by kernel_rfl) (by kernel_rfl) (fun _ _ _ h => h) (Or.inl ⟨by rfl, ?hyc5⟩) (by assumption) ?restc5
        case hyc5 => (intro w hSw; (try dsimp only at hSw); (try simp only [List.getElem_toArray, List.getElem_cons_zero, List.getElem_cons_succ]); go_simp; (try with_reducible rfl))
        (try simp only [Act.put, List.setIfInBounds_toArray, List.set_cons_zero, List.set_cons_succ, List.getElem_toArray, List.getElem_cons_zero, List.getElem_cons_succ])
        refine wpAnyH_take (i := 6) (oi := _) (v := ?vc6) rfl (by kernel_rfl) (by kernel_rfl) (by kernel_rfl) (fun _ _ _ h => h) (Or.inl ⟨by rfl, ?hyc6⟩) (by assumption) ?restc6
        case hyc6 => (intro w hSw; (try dsimp only at hSw); (try simp only [List.getElem_toArray, List.getElem_cons_zero, List.getElem_cons_succ]); go_simp; (try with_reducible rfl))
        (try simp only [Act.put, List.setIfInBounds_toArray, List.set_cons_zero, List.set_cons_succ, List.getElem_toArray, List.getElem_cons_zero, List.getElem_cons_succ])
        refine wpAnyH_take (i := 7) (oi := _) (v := ?vc7) rfl (by kernel_rfl) (by kernel_rfl) (by kernel_rfl) (fun _ _ _ h => h) (Or.inl ⟨by rfl, ?hyc7⟩) (by assumption) ?restc7
        case hyc7 => (intro w hSw; (try dsimp only at hSw); (try simp only [List.getElem_toArray, List.getElem_cons_zero, List.getElem_cons_succ]); go_simp; (try with_reducible rfl))
        (try simp only [Act.put, List.setIfInBounds_toArray, List.set_cons_zero, List.set_cons_succ, List.getElem_toArray, List.getElem_cons_zero, List.getElem_cons_succ])
        refine wpAnyH_take (i := 9) (oi := _) (v := ?vc9) rfl (by kernel_rfl) (by kernel_rfl) (by kernel_rfl) (fun _ _ _ h => h) (Or.inl ⟨by rfl, ?hyc9⟩) (by assumption) ?restc9
        case hyc9 => (intro w hSw; (try dsimp only at hSw); (try simp only [List.getElem_toArray, List.getElem_cons_zero, List.getElem_cons_succ]); go_simp; (try with_reducible rfl))
        (try simp only [Act.put, List.setIfInBounds_toArray, List.set_cons_zero, List.set_cons_succ, List.getElem_toArray, List.getElem_cons_zero, List.getElem_cons_succ])
        refine wpAnyH_take (i := 10) (oi := _) (v := ?vc10) rfl (by kernel_rfl) (by kernel_rfl) (by kernel_rfl) (fun _ _ _ h => h) (Or.inl ⟨by rfl, ?hyc10⟩) (by assumption) ?restc10
        case hyc10 => (intro w hSw; (try dsimp only at hSw); (try simp only [List.getElem_toArray, List.getElem_cons_zero, List.getElem_cons_succ]); go_simp; (try with_reducible rfl))
        (try simp only [Act.put, List.setIfInBounds_toArray, List.set_cons_zero, List.set_cons_succ, List.getElem_toArray, List.getElem_cons_zero, List.getElem_cons_succ])
        refine wpAnyH_ready (rs := [8]) (by kernel_rfl) (by simp) ?_
        refine AllReadyH.cons (o := _) rfl (fun K hK => ?_) AllReadyH.nil
        (try simp only [List.getElem_toArray, List.getElem_cons_zero, List.getElem_cons_succ])
        go_simp
        refine (HA3.out _ (Kc1.out)).mono ?_; rintro e yc2 ⟨rfl, hb⟩; have Kc2 : Hid (Keep (fun _ => False) wr yc2) := Lib.hid ((Kc1.out).trans (Keep.of_below (fun _ => False) hb) (fun _ _ z => z)); have HQc2 := Lib.hid ((Keep.of_below (fun _ => False) hb).heap (show yc1.heap[q]? = _ from HQc1.out) (fun z => z)); clear hb
        refine hK.out _ _ ?_ (fun hHeld => ?_)
        · exact cells_six HQc2.out
        clear hK K
        (try simp only [Act.put, List.setIfInBounds_toArray, List.set_cons_zero, List.set_cons_succ, List.getElem_toArray, List.getElem_cons_zero, List.getElem_cons_succ])
        refine wpAnyH_ready (rs := [11]) (by kernel_rfl) (by simp) ?_
        refine AllReadyH.cons (o := _) rfl (fun K hK => ?_) AllReadyH.nil
        (try simp only [List.getElem_toArray, List.getElem_cons_zero, List.getElem_cons_succ])
        go_simp
        refine (HA4.out _ (Kc2.out)).mono ?_; rintro e yc3 ⟨rfl, hb⟩; have Kc3 : Hid (Keep (fun _ => False) wr yc3) := Lib.hid ((Kc2.out).trans (Keep.of_below (fun _ => False) hb) (fun _ _ z => z)); have HQc3 := Lib.hid ((Keep.of_below (fun _ => False) hb).heap (show yc2.heap[q]? = _ from HQc2.out) (fun z => z)); clear hb
        refine hK.out _ _ ?_ (fun hHeld => ?_)
        · exact cells_six HQc3.out
        clear hK K
        (try simp only [Act.put, List.setIfInBounds_toArray, List.set_cons_zero, List.set_cons_succ, List.getElem_toArray, List.getElem_cons_zero, List.getElem_cons_succ])
        refine wpAnyH_take (i := 12) (oi := _) (v := ?vc12) rfl (by kernel_rfl) (by kernel_rfl) (by kernel_rfl) (fun _ _ _ h => h) (Or.inl ⟨by rfl, ?hyc12⟩) (by assumption) ?restc12
        case hyc12 => (intro w hSw; (try dsimp only at hSw); (try simp only [List.getElem_toArray, List.getElem_cons_zero, List.getElem_cons_succ]); go_simp; (try with_reducible rfl))
        (try simp only [Act.put, List.setIfInBounds_toArray, List.set_cons_zero, List.set_cons_succ, List.getElem_toArray, List.getElem_cons_zero, List.getElem_cons_succ])
        refine wpAnyH_take (i := 13) (oi := _) (v := ?vc13) rfl (by kernel_rfl) (by kernel_rfl) (by kernel_rfl) (fun _ _ _ h => h) (Or.inl ⟨by rfl, ?hyc13⟩) (by assumption) ?restc13
        case hyc13 => (intro w hSw; (try dsimp only at hSw); (try simp only [List.getElem_toArray, List.getElem_cons_zero, List.getElem_cons_succ]); go_simp; (try with_reducible rfl))
        (try simp only [Act.put, List.setIfInBounds_toArray, List.set_cons_zero, List.set_cons_succ, List.getElem_toArray, List.getElem_cons_zero, List.getElem_cons_succ])
        refine wpAnyH_done (by kernel_rfl) ?_ _
        refine NoPanic.normal ?_
        go_wp2_with fail
        go_roundw
        case rel => exact ⟨k + 1, by go_num, by omega, Lib.hid (HK.out.trans Kc3.out (fun _ _ y => y))⟩
        case measure => simp [intOf]; omega
    · go_wp2_with fail
      go_ret
      exact ⟨rfl, HB8.out.trans (HK.out.below HB8.out.size (fun _ _ e => e.elim))⟩

theorem walk_GridRows (x : Int) (wx : (Lit.int .i64 x).wf = true) (X0 : Int) (wX : (Lit.int .i64 X0).wf = true) (N0 : Int) (wN : (Lit.int .i64 N0).wf = true) (A : Option Addr) (ln cap : Nat) (xs : List CellM) (w : World) (h : CellsL w A ln xs) :
    Calls Try.prog 7 #[.int .i64 x, .int .i64 X0, .int .i64 N0, .slice A ln cap] w fun e w' => e = .returned (.bool true) ∧ Below w.heap.size w w' := by
  by_cases h60 : (ln : Int) > 60
  · exact gridRows_early x X0 N0 A ln cap w h60
  obtain ⟨W, hW⟩ : ∃ W : Nat, min (max x 2) 40 = (W : Int) := ⟨(min (max x 2) 40).toNat, by omega⟩
  obtain ⟨tm, e1, l1, l2, X, e2, hX⟩ := rem_any X0 W (by omega)
  obtain ⟨N, hN⟩ : ∃ N : Nat, min (max N0 0) (W : Int) = (N : Int) := ⟨(min (max N0 0) (W : Int)).toNat, by omega⟩
  exact gridRows_main x X0 N0 A ln cap xs w h h60 W X N _ tm hW rfl e1 l1 l2 e2 hX hN

end Go.Proofs.Ytaeemecnjmkifaa
