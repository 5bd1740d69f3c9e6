/- Law GridFills: the walk. By program (rgn/XGridFillsWalk.py). Own work. -/
import Derived.Test.YtaeemecnjmkifaaGridA
namespace Go.Proofs.Ytaeemecnjmkifaa
set_option linter.unusedVariables false
set_option linter.unusedSimpArgs false
open Go.RowKit

theorem at_place (W H n k : Nat) (f : Nat → CellM) (hW : 0 < W) (hn : n = W * H) (hk : k < n) : atF W H f ((k % W : Nat) : Int) ((k / W : Nat) : Int) = f k := by
  have h1 := Nat.mod_lt k hW
  have h2 : k / W < H := by rw [Nat.div_lt_iff_lt_mul hW, Nat.mul_comm, ← hn]; exact hk
  have h3 := Nat.div_add_mod k W
  generalize k % W = r at *
  generalize k / W = d at *
  unfold atF restA
  rw [if_pos (by omega), Int.toNat_natCast, Int.toNat_natCast]
  congr 1
  rw [Nat.mul_comm]; exact h3
def fillF (a m : Nat) (c : CellM) (k : Nat) : CellM := if a ≤ k ∧ k < a + m then c else blankC

set_option maxRecDepth 100000 in
set_option maxHeartbeats 6400000 in
theorem walk_GridFills (x : Int) (wx : (Lit.int .i64 x).wf = true) (y : Int) (wy : (Lit.int .i64 y).wf = true) (s : Int) (ws : (Lit.int .i64 s).wf = true) (t : Int) (wt : (Lit.int .i64 t).wf = true) (c : CellM) (wc : c.wf) (w : World) :
    Calls Try.prog 8 #[.int .i64 x, .int .i64 y, .int .i64 s, .int .i64 t, c.v] w fun e w' => e = .returned (.bool true) ∧ Below w.heap.size w w' := by
  obtain ⟨W, hW⟩ : ∃ W : Nat, min (max x 2) 40 = (W : Int) := ⟨(min (max x 2) 40).toNat, by omega⟩
  obtain ⟨H, hH⟩ : ∃ H : Nat, min (max y 1) 20 = (H : Int) := ⟨(min (max y 1) 20).toNat, by omega⟩
  obtain ⟨n, hn⟩ : ∃ n, n = W * H := ⟨_, rfl⟩
  have hw40 : 2 ≤ W ∧ W ≤ 40 := by omega
  have hh20 : 1 ≤ H ∧ H ≤ 20 := by omega
  have h8 : W * H ≤ 800 := Nat.mul_le_mul hw40.2 hh20.2
  have hPi : (W : Int) * (H : Int) = (n : Int) := by rw [hn]; exact (Int.natCast_mul W H).symm
  have hw1 : IntKind.i64.wrap ((W : Int) * (H : Int)) = (n : Int) := by rw [hPi]; exact IntWalk.i64_in _ (by omega)
  have hNew := Lib.hid (fun V => grid_new V x y W H n hW hH hn)
  have HWB := Lib.hid hw40
  have HHB := Lib.hid hh20
  have HNE := Lib.hid hn
  have t5 : (n : Int) ≤ 800 := by omega
  have t6 : (W : Int) ≤ 40 := by omega
  have t7 : (H : Int) ≤ 20 := by omega
  have t8 : (2 : Int) ≤ (W : Int) := by omega
  have hW0 : ¬ W = 0 := by omega
  have t9 : (1 : Int) ≤ (H : Int) := by omega
  obtain ⟨w1, hw1'⟩ : ∃ w1, w1 = w.alloc (.cells (vcells c) 42) := ⟨_, rfl⟩
  have HK1 : Hid (Keep (fun _ => False) w w1) := Lib.hid (by rw [hw1']; exact (Keep.refl _ w).alloc _)
  have HQ1 : Hid (w1.heap[w.heap.size]? = some (.cells (vcells c) 42 (0, 0))) := Lib.hid (by rw [hw1']; exact heap_alloc_new w _)
  clear hW hH hn hw40 hh20 h8 wx wy ws wt wc
  simp only [CellM.v]
  unfold vcells at hw1'
  go_enter Try.func8, Try.ntmps8
  go_upto_region 1 with fail
  rw [← hw1']
  obtain ⟨q, hq⟩ : ∃ q, q = w.heap.size := ⟨_, rfl⟩
  have HQE := Lib.hid hq
  rw [← hq] at HQ1
  rw [← hq]
  clear hw1' hq
  go_wp2_with fail
  refine (alive_any _).mono ?_
  rintro e w2 ⟨rfl, hb⟩
  have K2 : Hid (Keep (fun _ => False) w w2) := Lib.hid (HK1.out.trans (Keep.of_below _ hb) (fun _ _ y => y))
  have HQ2 : Hid (w2.heap[q]? = some (.cells (vcells c) 42 (0, 0))) := Lib.hid ((Keep.of_below (fun _ => False) hb).heap HQ1.out (fun y => y))
  clear hb
  go_wp2_with fail
  refine (hNew.out _).mono ?_
  rintro e w3 ⟨rfl, hG, hb⟩
  obtain ⟨g, hg⟩ : ∃ g, g = w2.heap.size := ⟨_, rfl⟩
  have hgw : w.heap.size ≤ g := by rw [hg]; exact K2.out.size
  have hgq : g ≠ q := by have := HQ2.out; have := lt_heap this; omega
  have HGW := Lib.hid hgw
  rw [← hg] at hG
  have HG3 := Lib.hid hG
  have K3 : Hid (Keep (fun _ => False) w w3) := Lib.hid (K2.out.trans (Keep.of_below _ hb) (fun _ _ y => y))
  have HQ3 : Hid (w3.heap[q]? = some (.cells (vcells c) 42 (0, 0))) := Lib.hid ((Keep.of_below (fun _ => False) hb).heap HQ2.out (fun y => y))
  rw [← hg]
  clear hG hb hg hgw
  go_wp2_with fail
  refine (grid_W w3 (g + 1) g n W H n _ HG3.out).mono ?_
  rintro e w4 ⟨rfl, rfl⟩
  go_wp2_with fail
  refine (grid_H w4 (g + 1) g n W H n _ HG3.out).mono ?_
  rintro e w5 ⟨rfl, rfl⟩
  obtain ⟨x0, x1, x2, x3, x4, x5⟩ := cells_six HQ3.out
  go_wp2_with fail
  obtain ⟨a, ha⟩ : ∃ a : Nat, max s 0 = (a : Int) := ⟨(max s 0).toNat, by omega⟩
  obtain ⟨m, hm⟩ : ∃ m, m = (min t (n : Int) - max s 0).toNat := ⟨_, rfl⟩
  have HAM : Hid (∀ k : Nat, k < n → ((a ≤ k ∧ k < a + m) ↔ ((k : Int) ≥ s ∧ (k : Int) < t))) := Lib.hid (fun k hk => by omega)
  have HLE : Hid (0 < m → a + m ≤ n) := Lib.hid (fun h0 => by omega)
  refine (grid_fill w5 (g + 1) g n W H n _ s t a m c HG3.out hm (fun _ => ha)).mono ?_
  rintro e w6 ⟨rfl, hp⟩
  have HG6 : Hid (GridAt w6 (g + 1) g n W H n (fillF a m c)) := Lib.hid (by
    by_cases h0 : 0 < m
    · exact HG3.out.put hp (HLE.out h0)
    · have hm0 : m = 0 := by omega
      subst hm0
      have := HG3.out.put (a := 0) (m := 0) (x := fun _ => c) ⟨hp.keep, hp.fz, fun k hk => by omega, fun i hi => hp.out i (by omega)⟩ (by omega)
      exact this.congr (fun k hk => by unfold fillF; rw [if_neg (by omega), if_neg (by omega)]))
  have K6 : Hid (Below w.heap.size w w6) := Lib.hid ((K3.out.below (Nat.le_refl _) (fun _ _ e => e.elim)).trans (hp.keep.below K3.out.size (fun k hk e => by have := HGW.out; omega)))
  have HQ6 : Hid (w6.heap[q]? = some (.cells (vcells c) 42 (0, 0))) := Lib.hid (hp.keep.heap HQ3.out (fun e => hgq e.symm))
  clear hp ha hm x0 x1 x2 x3 x4 x5 HG3
  go_wp2_with fail
  go_loopw [12, 13] (fun i _ wr => ∃ k : Nat, i = .int .i64 k ∧ k ≤ n ∧ Hid (Keep (fun _ => False) w6 wr)) (fun i _ _ => n - (intOf i).toNat)
  case atStart => exact ⟨0, rfl, Nat.zero_le _, Keep.refl _ _⟩
  case round =>
    obtain ⟨k, rfl, hk, HK⟩ := hrel
    by_cases hlt : k < n
    · have hki : ((k : Int) < (n : Int)) := by omega
      have hk0 : (0 : Int) ≤ (k : Int) := by omega
      obtain ⟨rx, hrx⟩ : ∃ rx, rx = k % W := ⟨_, rfl⟩
      obtain ⟨ry, hry⟩ : ∃ ry, ry = k / W := ⟨_, rfl⟩
      have e1 : (k : Int).tmod (W : Int) = (rx : Int) := by rw [hrx]; rfl
      have e2 : (k : Int).tdiv (W : Int) = (ry : Int) := by rw [hry]; rfl
      have e3 : (k : Int) % (W : Int) = (rx : Int) := by rw [hrx]; rfl
      have e4 : (k : Int) / (W : Int) = (ry : Int) := by rw [hry]; rfl
      have hrx40 : rx < 40 := by rw [hrx]; have := Nat.mod_lt k (show 0 < W by have := HWB.out; omega); omega
      have hry8 : ry ≤ 800 := by rw [hry]; have := Nat.div_le_self k W; omega
      have e5 : IntKind.i64.wrap (rx : Int) = (rx : Int) := IntWalk.i64_in _ (by omega)
      have e6 : IntKind.i64.wrap (ry : Int) = (ry : Int) := IntWalk.i64_in _ (by omega)
      have HAT : Hid (∀ V, Keep (fun _ => False) wr V → Calls Try.prog 35 #[.pointer (some ⟨g + 1, 0, none⟩), .int .i64 rx, .int .i64 ry] V fun e w' => e = .returned (fillF a m c k).v ∧ Below V.heap.size V w') := Lib.hid (fun V kv => by
        have := grid_at V (g + 1) g n W H n (fillF a m c) rx ry (HG6.out.keep (HK.out.trans kv (fun _ _ y => y)) (fun y => y) (fun y => y))
        rwa [hrx, hry, at_place W H n k _ (by have := HWB.out; omega) HNE.out hlt, ← hrx, ← hry] at this)
      have HAMK := Lib.hid (HAM.out k hlt)
      obtain ⟨x0, x1, x2, x3, x4, x5⟩ := cells_six (HK.out.heap HQ6.out (fun y => y))
      have hql : q < wr.heap.size := lt_heap (HK.out.heap HQ6.out (fun y => y))
      clear hrx hry
      by_cases hks : (k : Int) ≥ s
      · by_cases hkt : (k : Int) < t
        · skip
          skip
          obtain ⟨w7, hw7⟩ : ∃ w7, w7 = wr.alloc (.cells (vcells c) 42) := ⟨_, rfl⟩
          have K7 : Hid (Keep (fun _ => False) wr w7) := Lib.hid (by rw [hw7]; exact (Keep.refl _ wr).alloc _)
          have HR7 : Hid (w7.heap[wr.heap.size]? = some (.cells (vcells c) 42 (0, 0))) := Lib.hid (by rw [hw7]; exact heap_alloc_new wr _)
          have HFE : Hid (fillF a m c k = c) := Lib.hid (by unfold fillF; exact if_pos (HAMK.out.2 ⟨hks, hkt⟩))
          rw [HFE.out] at HAT
          unfold vcells at hw7
          skip
          go_upto_region 14 with fail
          rw [← hw7]
          obtain ⟨r, hr⟩ : ∃ r, r = wr.heap.size := ⟨_, rfl⟩
          rw [← hr] at HR7
          rw [← hr]
          have HAT2 : Hid (∀ V, Keep (fun _ => False) wr V → Calls Try.prog 35 #[.pointer (some ⟨g + 1, 0, none⟩), .int .i64 rx, .int .i64 ry] V fun e w' => e = .returned (.agg #[.int .i32 c.r, .int .i64 c.a.fg, .int .i64 c.a.bg, .bool c.a.b, .bool c.a.u, .bool c.a.i]) ∧ Below V.heap.size V w') := Lib.hid (fun V kv => HAT.out V kv)
          clear hw7 hr HAT x0 x1 x2 x3 x4 x5 HFE HAMK
          refine wp_region_noPanic ?_
          refine wp_region_held_drew (S := fun w' => w'.cell? ⟨r, 0, none⟩ = some (.int .i32 c.r) ∧ w'.cell? ⟨r, 1, none⟩ = some (.int .i64 c.a.fg) ∧ w'.cell? ⟨r, 2, none⟩ = some (.int .i64 c.a.bg) ∧ w'.cell? ⟨r, 3, none⟩ = some (.bool c.a.b) ∧ w'.cell? ⟨r, 4, none⟩ = some (.bool c.a.u) ∧ w'.cell? ⟨r, 5, none⟩ = some (.bool c.a.i)) (by kernel_rfl) (cells_six HR7.out) (fun hHeld => ?_)
          refine wpAnyH_take (i := 0) (oi := _) (v := ?va0) rfl (by kernel_rfl) (by kernel_rfl) (by kernel_rfl) (fun _ _ _ h => h) (Or.inl ⟨by rfl, ?hya0⟩) (by assumption) ?resta0
          case hya0 => (intro w hSw; (try dsimp only at hSw); (try simp only [List.getElem_toArray, List.getElem_cons_zero, List.getElem_cons_succ]); go_simp; (try with_reducible rfl))
          (try simp only [Act.put, List.setIfInBounds_toArray, List.set_cons_zero, List.set_cons_succ, List.getElem_toArray, List.getElem_cons_zero, List.getElem_cons_succ])
          refine wpAnyH_take (i := 1) (oi := _) (v := ?va1) rfl (by kernel_rfl) (by kernel_rfl) (by kernel_rfl) (fun _ _ _ h => h) (Or.inl ⟨by rfl, ?hya1⟩) (by assumption) ?resta1
          case hya1 => (intro w hSw; (try dsimp only at hSw); (try simp only [List.getElem_toArray, List.getElem_cons_zero, List.getElem_cons_succ]); go_simp; (try with_reducible rfl))
          (try simp only [Act.put, List.setIfInBounds_toArray, List.set_cons_zero, List.set_cons_succ, List.getElem_toArray, List.getElem_cons_zero, List.getElem_cons_succ])
          refine wpAnyH_take (i := 2) (oi := _) (v := ?va2) rfl (by kernel_rfl) (by kernel_rfl) (by kernel_rfl) (fun _ _ _ h => h) (Or.inl ⟨by rfl, ?hya2⟩) (by assumption) ?resta2
          case hya2 => (intro w hSw; (try dsimp only at hSw); (try simp only [List.getElem_toArray, List.getElem_cons_zero, List.getElem_cons_succ]); go_simp; (try with_reducible rfl))
          (try simp only [Act.put, List.setIfInBounds_toArray, List.set_cons_zero, List.set_cons_succ, List.getElem_toArray, List.getElem_cons_zero, List.getElem_cons_succ])
          refine wpAnyH_take (i := 3) (oi := _) (v := ?va3) rfl (by kernel_rfl) (by kernel_rfl) (by kernel_rfl) (fun _ _ _ h => h) (Or.inl ⟨by rfl, ?hya3⟩) (by assumption) ?resta3
          case hya3 => (intro w hSw; (try dsimp only at hSw); (try simp only [List.getElem_toArray, List.getElem_cons_zero, List.getElem_cons_succ]); go_simp; (try with_reducible rfl))
          (try simp only [Act.put, List.setIfInBounds_toArray, List.set_cons_zero, List.set_cons_succ, List.getElem_toArray, List.getElem_cons_zero, List.getElem_cons_succ])
          refine wpAnyH_take (i := 4) (oi := _) (v := ?va4) rfl (by kernel_rfl) (by kernel_rfl) (by kernel_rfl) (fun _ _ _ h => h) (Or.inl ⟨by rfl, ?hya4⟩) (by assumption) ?resta4
          case hya4 => (intro w hSw; (try dsimp only at hSw); (try simp only [List.getElem_toArray, List.getElem_cons_zero, List.getElem_cons_succ]); go_simp; (try with_reducible rfl))
          (try simp only [Act.put, List.setIfInBounds_toArray, List.set_cons_zero, List.set_cons_succ, List.getElem_toArray, List.getElem_cons_zero, List.getElem_cons_succ])
          refine wpAnyH_take (i := 5) (oi := _) (v := ?va5) rfl (by kernel_rfl) (by kernel_rfl) (by kernel_rfl) (fun _ _ _ h => h) (Or.inl ⟨by rfl, ?hya5⟩) (by assumption) ?resta5
          case hya5 => (intro w hSw; (try dsimp only at hSw); (try simp only [List.getElem_toArray, List.getElem_cons_zero, List.getElem_cons_succ]); go_simp; (try with_reducible rfl))
          (try simp only [Act.put, List.setIfInBounds_toArray, List.set_cons_zero, List.set_cons_succ, List.getElem_toArray, List.getElem_cons_zero, List.getElem_cons_succ])
          refine wpAnyH_take (i := 6) (oi := _) (v := ?va6) rfl (by kernel_rfl) (by kernel_rfl) (by kernel_rfl) (fun _ _ _ h => h) (Or.inl ⟨by rfl, ?hya6⟩) (by assumption) ?resta6
          case hya6 => (intro w hSw; (try dsimp only at hSw); (try simp only [List.getElem_toArray, List.getElem_cons_zero, List.getElem_cons_succ]); go_simp; (try with_reducible rfl))
          (try simp only [Act.put, List.setIfInBounds_toArray, List.set_cons_zero, List.set_cons_succ, List.getElem_toArray, List.getElem_cons_zero, List.getElem_cons_succ])
          refine wpAnyH_take (i := 8) (oi := _) (v := ?va8) rfl (by kernel_rfl) (by kernel_rfl) (by kernel_rfl) (fun _ _ _ h => h) (Or.inl ⟨by rfl, ?hya8⟩) (by assumption) ?resta8
          case hya8 => (intro w hSw; (try dsimp only at hSw); (try simp only [List.getElem_toArray, List.getElem_cons_zero, List.getElem_cons_succ]); go_simp; (try with_reducible rfl))
          (try simp only [Act.put, List.setIfInBounds_toArray, List.set_cons_zero, List.set_cons_succ, List.getElem_toArray, List.getElem_cons_zero, List.getElem_cons_succ])
          refine wpAnyH_ready (rs := [7]) (by kernel_rfl) (by simp) ?_
          refine AllReadyH.cons (o := _) rfl (fun K hK => ?_) AllReadyH.nil
          (try simp only [List.getElem_toArray, List.getElem_cons_zero, List.getElem_cons_succ])
          go_simp
          refine (HAT2.out _ (K7.out.drew)).mono ?_; rintro e w8 ⟨rfl, hb⟩; have K78 := Keep.of_below (fun _ => False) hb; have K8 : Hid (Keep (fun _ => False) wr w8) := Lib.hid ((K7.out.drew).trans K78 (fun _ _ y => y)); have HR8 := Lib.hid (K78.heap (show w7.drew.heap[r]? = _ from HR7.out) (fun y => y)); clear hb K78
          refine hK.out _ _ ?_ (fun hHeld => ?_)
          · exact cells_six HR8.out
          clear hK K
          (try simp only [Act.put, List.setIfInBounds_toArray, List.set_cons_zero, List.set_cons_succ, List.getElem_toArray, List.getElem_cons_zero, List.getElem_cons_succ])
          refine wpAnyH_take (i := 9) (oi := _) (v := ?va9) rfl (by kernel_rfl) (by kernel_rfl) (by kernel_rfl) (fun _ _ _ h => h) (Or.inl ⟨by rfl, ?hya9⟩) (by assumption) ?resta9
          case hya9 => (intro w hSw; (try dsimp only at hSw); (try simp only [List.getElem_toArray, List.getElem_cons_zero, List.getElem_cons_succ]); go_simp; (try with_reducible rfl))
          (try simp only [Act.put, List.setIfInBounds_toArray, List.set_cons_zero, List.set_cons_succ, List.getElem_toArray, List.getElem_cons_zero, List.getElem_cons_succ])
          refine wpAnyH_done (by kernel_rfl) ?_ _
          refine NoPanic.normal ?_
          go_wp2_with fail
          go_roundw
          case rel => exact ⟨k + 1, by go_num, by omega, Lib.hid (HK.out.trans K8.out (fun _ _ y => y))⟩
          case measure => simp [intOf]; omega
        · skip
          have hkd : decide ((k : Int) < t) = false := by simp; omega
          obtain ⟨w7, hw7⟩ : ∃ w7, w7 = wr.alloc (.cells (vcells blankC) 42) := ⟨_, rfl⟩
          have K7 : Hid (Keep (fun _ => False) wr w7) := Lib.hid (by rw [hw7]; exact (Keep.refl _ wr).alloc _)
          have HR7 : Hid (w7.heap[wr.heap.size]? = some (.cells (vcells blankC) 42 (0, 0))) := Lib.hid (by rw [hw7]; exact heap_alloc_new wr _)
          have HFE : Hid (fillF a m c k = blankC) := Lib.hid (by unfold fillF; exact if_neg (fun e => hkt (HAMK.out.1 e).2))
          rw [HFE.out] at HAT
          unfold vcells at hw7
          unfold blankC At.z at hw7; dsimp only at hw7
          go_upto_region 14 with fail
          rw [← hw7]
          obtain ⟨r, hr⟩ : ∃ r, r = wr.heap.size := ⟨_, rfl⟩
          rw [← hr] at HR7
          rw [← hr]
          have HAT2 : Hid (∀ V, Keep (fun _ => False) wr V → Calls Try.prog 35 #[.pointer (some ⟨g + 1, 0, none⟩), .int .i64 rx, .int .i64 ry] V fun e w' => e = .returned (.agg #[.int .i32 32, .int .i64 0, .int .i64 0, .bool false, .bool false, .bool false]) ∧ Below V.heap.size V w') := Lib.hid (fun V kv => HAT.out V kv)
          clear hw7 hr HAT x0 x1 x2 x3 x4 x5 HFE HAMK
          refine wp_region_noPanic ?_
          refine wp_region_held_drew (S := fun w' => w'.cell? ⟨r, 0, none⟩ = some (.int .i32 32) ∧ w'.cell? ⟨r, 1, none⟩ = some (.int .i64 0) ∧ w'.cell? ⟨r, 2, none⟩ = some (.int .i64 0) ∧ w'.cell? ⟨r, 3, none⟩ = some (.bool false) ∧ w'.cell? ⟨r, 4, none⟩ = some (.bool false) ∧ w'.cell? ⟨r, 5, none⟩ = some (.bool false)) (by kernel_rfl) (cells_six HR7.out) (fun hHeld => ?_)
          refine wpAnyH_take (i := 0) (oi := _) (v := ?vb0) rfl (by kernel_rfl) (by kernel_rfl) (by kernel_rfl) (fun _ _ _ h => h) (Or.inl ⟨by rfl, ?hyb0⟩) (by assumption) ?restb0
          case hyb0 => (intro w hSw; (try dsimp only at hSw); (try simp only [List.getElem_toArray, List.getElem_cons_zero, List.getElem_cons_succ]); go_simp; (try with_reducible rfl))
          (try simp only [Act.put, List.setIfInBounds_toArray, List.set_cons_zero, List.set_cons_succ, List.getElem_toArray, List.getElem_cons_zero, List.getElem_cons_succ])
          refine wpAnyH_take (i := 1) (oi := _) (v := ?vb1) rfl (by kernel_rfl) (by kernel_rfl) (by kernel_rfl) (fun _ _ _ h => h) (Or.inl ⟨by rfl, ?hyb1⟩) (by assumption) ?restb1
          case hyb1 => (intro w hSw; (try dsimp only at hSw); (try simp only [List.getElem_toArray, List.getElem_cons_zero, List.getElem_cons_succ]); go_simp; (try with_reducible rfl))
          (try simp only [Act.put, List.setIfInBounds_toArray, List.set_cons_zero, List.set_cons_succ, List.getElem_toArray, List.getElem_cons_zero, List.getElem_cons_succ])
          refine wpAnyH_take (i := 2) (oi := _) (v := ?vb2) rfl (by kernel_rfl) (by kernel_rfl) (by kernel_rfl) (fun _ _ _ h => h) (Or.inl ⟨by rfl, ?hyb2⟩) (by assumption) ?restb2
          case hyb2 => (intro w hSw; (try dsimp only at hSw); (try simp only [List.getElem_toArray, List.getElem_cons_zero, List.getElem_cons_succ]); go_simp; (try with_reducible rfl))
          (try simp only [Act.put, List.setIfInBounds_toArray, List.set_cons_zero, List.set_cons_succ, List.getElem_toArray, List.getElem_cons_zero, List.getElem_cons_succ])
          refine wpAnyH_take (i := 3) (oi := _) (v := ?vb3) rfl (by kernel_rfl) (by kernel_rfl) (by kernel_rfl) (fun _ _ _ h => h) (Or.inl ⟨by rfl, ?hyb3⟩) (by assumption) ?restb3
          case hyb3 => (intro w hSw; (try dsimp only at hSw); (try simp only [List.getElem_toArray, List.getElem_cons_zero, List.getElem_cons_succ]); go_simp; (try with_reducible rfl))
          (try simp only [Act.put, List.setIfInBounds_toArray, List.set_cons_zero, List.set_cons_succ, List.getElem_toArray, List.getElem_cons_zero, List.getElem_cons_succ])
          refine wpAnyH_take (i := 4) (oi := _) (v := ?vb4) rfl (by kernel_rfl) (by kernel_rfl) (by kernel_rfl) (fun _ _ _ h => h) (Or.inl ⟨by rfl, ?hyb4⟩) (by assumption) ?restb4
          case hyb4 => (intro w hSw; (try dsimp only at hSw); (try simp only [List.getElem_toArray, List.getElem_cons_zero, List.getElem_cons_succ]); go_simp; (try with_reducible rfl))
          (try simp only [Act.put, List.setIfInBounds_toArray, List.set_cons_zero, List.set_cons_succ, List.getElem_toArray, List.getElem_cons_zero, List.getElem_cons_succ])
          refine wpAnyH_take (i := 5) (oi := _) (v := ?vb5) rfl (by kernel_rfl) (by kernel_rfl) (by kernel_rfl) (fun _ _ _ h => h) (Or.inl ⟨by rfl, ?hyb5⟩) (by assumption) ?restb5
          case hyb5 => (intro w hSw; (try dsimp only at hSw); (try simp only [List.getElem_toArray, List.getElem_cons_zero, List.getElem_cons_succ]); go_simp; (try with_reducible rfl))
          (try simp only [Act.put, List.setIfInBounds_toArray, List.set_cons_zero, List.set_cons_succ, List.getElem_toArray, List.getElem_cons_zero, List.getElem_cons_succ])
          refine wpAnyH_take (i := 6) (oi := _) (v := ?vb6) rfl (by kernel_rfl) (by kernel_rfl) (by kernel_rfl) (fun _ _ _ h => h) (Or.inl ⟨by rfl, ?hyb6⟩) (by assumption) ?restb6
          case hyb6 => (intro w hSw; (try dsimp only at hSw); (try simp only [List.getElem_toArray, List.getElem_cons_zero, List.getElem_cons_succ]); go_simp; (try with_reducible rfl))
          (try simp only [Act.put, List.setIfInBounds_toArray, List.set_cons_zero, List.set_cons_succ, List.getElem_toArray, List.getElem_cons_zero, List.getElem_cons_succ])
          refine wpAnyH_take (i := 8) (oi := _) (v := ?vb8) rfl (by kernel_rfl) (by kernel_rfl) (by kernel_rfl) (fun _ _ _ h => h) (Or.inl ⟨by rfl, ?hyb8⟩) (by assumption) ?restb8
          case hyb8 => (intro w hSw; (try dsimp only at hSw); (try simp only [List.getElem_toArray, List.getElem_cons_zero, List.getElem_cons_succ]); go_simp; (try with_reducible rfl))
          (try simp only [Act.put, List.setIfInBounds_toArray, List.set_cons_zero, List.set_cons_succ, List.getElem_toArray, List.getElem_cons_zero, List.getElem_cons_succ])
          refine wpAnyH_ready (rs := [7]) (by kernel_rfl) (by simp) ?_
          refine AllReadyH.cons (o := _) rfl (fun K hK => ?_) AllReadyH.nil
          (try simp only [List.getElem_toArray, List.getElem_cons_zero, List.getElem_cons_succ])
          go_simp
          refine (HAT2.out _ (K7.out.drew)).mono ?_; rintro e w8 ⟨rfl, hb⟩; have K78 := Keep.of_below (fun _ => False) hb; have K8 : Hid (Keep (fun _ => False) wr w8) := Lib.hid ((K7.out.drew).trans K78 (fun _ _ y => y)); have HR8 := Lib.hid (K78.heap (show w7.drew.heap[r]? = _ from HR7.out) (fun y => y)); clear hb K78
          refine hK.out _ _ ?_ (fun hHeld => ?_)
          · exact cells_six HR8.out
          clear hK K
          (try simp only [Act.put, List.setIfInBounds_toArray, List.set_cons_zero, List.set_cons_succ, List.getElem_toArray, List.getElem_cons_zero, List.getElem_cons_succ])
          refine wpAnyH_take (i := 9) (oi := _) (v := ?vb9) rfl (by kernel_rfl) (by kernel_rfl) (by kernel_rfl) (fun _ _ _ h => h) (Or.inl ⟨by rfl, ?hyb9⟩) (by assumption) ?restb9
          case hyb9 => (intro w hSw; (try dsimp only at hSw); (try simp only [List.getElem_toArray, List.getElem_cons_zero, List.getElem_cons_succ]); go_simp; (try with_reducible rfl))
          (try simp only [Act.put, List.setIfInBounds_toArray, List.set_cons_zero, List.set_cons_succ, List.getElem_toArray, List.getElem_cons_zero, List.getElem_cons_succ])
          refine wpAnyH_done (by kernel_rfl) ?_ _
          refine NoPanic.normal ?_
          go_wp2_with fail
          go_roundw
          case rel => exact ⟨k + 1, by go_num, by omega, Lib.hid (HK.out.trans K8.out (fun _ _ y => y))⟩
          case measure => simp [intOf]; omega
      · skip
        have hkd : decide ((k : Int) ≥ s) = false := by simp; omega
        obtain ⟨w7, hw7⟩ : ∃ w7, w7 = wr.alloc (.cells (vcells blankC) 42) := ⟨_, rfl⟩
        have K7 : Hid (Keep (fun _ => False) wr w7) := Lib.hid (by rw [hw7]; exact (Keep.refl _ wr).alloc _)
        have HR7 : Hid (w7.heap[wr.heap.size]? = some (.cells (vcells blankC) 42 (0, 0))) := Lib.hid (by rw [hw7]; exact heap_alloc_new wr _)
        have HFE : Hid (fillF a m c k = blankC) := Lib.hid (by unfold fillF; exact if_neg (fun e => hks (HAMK.out.1 e).1))
        rw [HFE.out] at HAT
        unfold vcells at hw7
        unfold blankC At.z at hw7; dsimp only at hw7
        go_upto_region 14 with fail
        rw [← hw7]
        obtain ⟨r, hr⟩ : ∃ r, r = wr.heap.size := ⟨_, rfl⟩
        rw [← hr] at HR7
        rw [← hr]
        have HAT2 : Hid (∀ V, Keep (fun _ => False) wr V → Calls Try.prog 35 #[.pointer (some ⟨g + 1, 0, none⟩), .int .i64 rx, .int .i64 ry] V fun e w' => e = .returned (.agg #[.int .i32 32, .int .i64 0, .int .i64 0, .bool false, .bool false, .bool false]) ∧ Below V.heap.size V w') := Lib.hid (fun V kv => HAT.out V kv)
        clear hw7 hr HAT x0 x1 x2 x3 x4 x5 HFE HAMK
        refine wp_region_noPanic ?_
        refine wp_region_held_drew (S := fun w' => w'.cell? ⟨r, 0, none⟩ = some (.int .i32 32) ∧ w'.cell? ⟨r, 1, none⟩ = some (.int .i64 0) ∧ w'.cell? ⟨r, 2, none⟩ = some (.int .i64 0) ∧ w'.cell? ⟨r, 3, none⟩ = some (.bool false) ∧ w'.cell? ⟨r, 4, none⟩ = some (.bool false) ∧ w'.cell? ⟨r, 5, none⟩ = some (.bool false)) (by kernel_rfl) (cells_six HR7.out) (fun hHeld => ?_)
        refine wpAnyH_take (i := 0) (oi := _) (v := ?vc0) rfl (by kernel_rfl) (by kernel_rfl) (by kernel_rfl) (fun _ _ _ h => h) (Or.inl ⟨by rfl, ?hyc0⟩) (by assumption) ?restc0
        case hyc0 => (intro w hSw; (try dsimp only at hSw); (try simp only [List.getElem_toArray, List.getElem_cons_zero, List.getElem_cons_succ]); go_simp; (try with_reducible rfl))
        (try simp only [Act.put, List.setIfInBounds_toArray, List.set_cons_zero, List.set_cons_succ, List.getElem_toArray, List.getElem_cons_zero, List.getElem_cons_succ])
        refine wpAnyH_take (i := 1) (oi := _) (v := ?vc1) rfl (by kernel_rfl) (by kernel_rfl) (by kernel_rfl) (fun _ _ _ h => h) (Or.inl ⟨by rfl, ?hyc1⟩) (by assumption) ?restc1
        case hyc1 => (intro w hSw; (try dsimp only at hSw); (try simp only [List.getElem_toArray, List.getElem_cons_zero, List.getElem_cons_succ]); go_simp; (try with_reducible rfl))
        (try simp only [Act.put, List.setIfInBounds_toArray, List.set_cons_zero, List.set_cons_succ, List.getElem_toArray, List.getElem_cons_zero, List.getElem_cons_succ])
        refine wpAnyH_take (i := 2) (oi := _) (v := ?vc2) rfl (by kernel_rfl) (by kernel_rfl) (by kernel_rfl) (fun _ _ _ h => h) (Or.inl ⟨by rfl, ?hyc2⟩) (by assumption) ?restc2
        case hyc2 => (intro w hSw; (try dsimp only at hSw); (try simp only [List.getElem_toArray, List.getElem_cons_zero, List.getElem_cons_succ]); go_simp; (try with_reducible rfl))
        (try simp only [Act.put, List.setIfInBounds_toArray, List.set_cons_zero, List.set_cons_succ, List.getElem_toArray, List.getElem_cons_zero, List.getElem_cons_succ])
        refine wpAnyH_take (i := 3) (oi := _) (v := ?vc3) rfl (by kernel_rfl) (by kernel_rfl) (by kernel_rfl) (fun _ _ _ h => h) (Or.inl ⟨by rfl, ?hyc3⟩) (by assumption) ?restc3
        case hyc3 => (intro w hSw; (try dsimp only at hSw); (try simp only [List.getElem_toArray, List.getElem_cons_zero, List.getElem_cons_succ]); go_simp; (try with_reducible rfl))
        (try simp only [Act.put, List.setIfInBounds_toArray, List.set_cons_zero, List.set_cons_succ, List.getElem_toArray, List.getElem_cons_zero, List.getElem_cons_succ])
        refine wpAnyH_take (i := 4) (oi := _) (v := ?vc4) rfl (by kernel_rfl) (by kernel_rfl) (by kernel_rfl) (fun _ _ _ h => h) (Or.inl ⟨by rfl, ?hyc4⟩) (by assumption) ?restc4
        case hyc4 => (intro w hSw; (try dsimp only at hSw); (try simp only [List.getElem_toArray, List.getElem_cons_zero, List.getElem_cons_succ]); go_simp; (try with_reducible rfl))
        (try simp only [Act.put, List.setIfInBounds_toArray, List.set_cons_zero, List.set_cons_succ, List.getElem_toArray, List.getElem_cons_zero, List.getElem_cons_succ])
        refine wpAnyH_take (i := 5) (oi := _) (v := ?vc5) rfl (by kernel_rfl) (by kernel_rfl) (by kernel_rfl) (fun _ _ _ h => h) (Or.inl ⟨by rfl, ?hyc5⟩) (by assumption) ?restc5
        case hyc5 => (intro w hSw; (try dsimp only at hSw); (try simp only [List.getElem_toArray, List.getElem_cons_zero, List.getElem_cons_succ]); go_simp; (try with_reducible rfl))
        (try simp only [Act.put, List.setIfInBounds_toArray, List.set_cons_zero, List.set_cons_succ, List.getElem_toArray, List.getElem_cons_zero, List.getElem_cons_succ])
        refine wpAnyH_take (i := 6) (oi := _) (v := ?vc6) rfl (by kernel_rfl) (by kernel_rfl) (by kernel_rfl) (fun _ _ _ h => h) (Or.inl ⟨by rfl, ?hyc6⟩) (by assumption) ?restc6
        case hyc6 => (intro w hSw; (try dsimp only at hSw); (try simp only [List.getElem_toArray, List.getElem_cons_zero, List.getElem_cons_succ]); go_simp; (try with_reducible rfl))
        (try simp only [Act.put, List.setIfInBounds_toArray, List.set_cons_zero, List.set_cons_succ, List.getElem_toArray, List.getElem_cons_zero, List.getElem_cons_succ])
        refine wpAnyH_take (i := 8) (oi := _) (v := ?vc8) rfl (by kernel_rfl) (by kernel_rfl) (by kernel_rfl) (fun _ _ _ h => h) (Or.inl ⟨by rfl, ?hyc8⟩) (by assumption) ?restc8
        case hyc8 => (intro w hSw; (try dsimp only at hSw); (try simp only [List.getElem_toArray, List.getElem_cons_zero, List.getElem_cons_succ]); go_simp; (try with_reducible rfl))
        (try simp only [Act.put, List.setIfInBounds_toArray, List.set_cons_zero, List.set_cons_succ, List.getElem_toArray, List.getElem_cons_zero, List.getElem_cons_succ])
        refine wpAnyH_ready (rs := [7]) (by kernel_rfl) (by simp) ?_
        refine AllReadyH.cons (o := _) rfl (fun K hK => ?_) AllReadyH.nil
        (try simp only [List.getElem_toArray, List.getElem_cons_zero, List.getElem_cons_succ])
        go_simp
        refine (HAT2.out _ (K7.out.drew)).mono ?_; rintro e w8 ⟨rfl, hb⟩; have K78 := Keep.of_below (fun _ => False) hb; have K8 : Hid (Keep (fun _ => False) wr w8) := Lib.hid ((K7.out.drew).trans K78 (fun _ _ y => y)); have HR8 := Lib.hid (K78.heap (show w7.drew.heap[r]? = _ from HR7.out) (fun y => y)); clear hb K78
        refine hK.out _ _ ?_ (fun hHeld => ?_)
        · exact cells_six HR8.out
        clear hK K
        (try simp only [Act.put, List.setIfInBounds_toArray, List.set_cons_zero, List.set_cons_succ, List.getElem_toArray, List.getElem_cons_zero, List.getElem_cons_succ])
        refine wpAnyH_take (i := 9) (oi := _) (v := ?vc9) rfl (by kernel_rfl) (by kernel_rfl) (by kernel_rfl) (fun _ _ _ h => h) (Or.inl ⟨by rfl, ?hyc9⟩) (by assumption) ?restc9
        case hyc9 => (intro w hSw; (try dsimp only at hSw); (try simp only [List.getElem_toArray, List.getElem_cons_zero, List.getElem_cons_succ]); go_simp; (try with_reducible rfl))
        (try simp only [Act.put, List.setIfInBounds_toArray, List.set_cons_zero, List.set_cons_succ, List.getElem_toArray, List.getElem_cons_zero, List.getElem_cons_succ])
        refine wpAnyH_done (by kernel_rfl) ?_ _
        refine NoPanic.normal ?_
        go_wp2_with fail
        go_roundw
        case rel => exact ⟨k + 1, by go_num, by omega, Lib.hid (HK.out.trans K8.out (fun _ _ y => y))⟩
        case measure => simp [intOf]; omega
    · have hkn : k = n := by omega
      subst hkn
      have HGr := Lib.hid (HG6.out.keep HK.out (fun y => y) (fun y => y))
      have HQr := Lib.hid (HK.out.heap HQ6.out (fun y => y))
      have HA1 : Hid (∀ V, Keep (fun _ => False) wr V → Calls Try.prog 35 #[.pointer (some ⟨g + 1, 0, none⟩), .int .i64 W, .int .i64 0] V fun e w' => e = .returned (.agg #[.int .i32 0, .int .i64 0, .int .i64 0, .bool false, .bool false, .bool false]) ∧ Below V.heap.size V w') := Lib.hid (fun V kv => by
        have := grid_at V (g + 1) g k W H k (fillF a m c) W 0 (HGr.out.keep kv (fun y => y) (fun y => y))
        rw [show atF W H (fillF a m c) W 0 = .z from if_neg (by omega)] at this
        exact this)
      have HA2 : Hid (∀ V, Keep (fun _ => False) wr V → Calls Try.prog 35 #[.pointer (some ⟨g + 1, 0, none⟩), .int .i64 0, .int .i64 H] V fun e w' => e = .returned (.agg #[.int .i32 0, .int .i64 0, .int .i64 0, .bool false, .bool false, .bool false]) ∧ Below V.heap.size V w') := Lib.hid (fun V kv => by
        have := grid_at V (g + 1) g k W H k (fillF a m c) 0 H (HGr.out.keep kv (fun y => y) (fun y => y))
        rw [show atF W H (fillF a m c) 0 H = .z from if_neg (by omega)] at this
        exact this)
      have hj0 : Hid (0 = min 1 (restN W H W 0)) := Lib.hid (by rw [show restN W H W 0 = 0 from if_neg (by omega)]; rfl)
      have hj1 : Hid (1 = min 2 (restN W H ((W : Int) - 1) ((H : Int) - 1))) := Lib.hid (by rw [show restN W H ((W : Int) - 1) ((H : Int) - 1) = W - ((W : Int) - 1).toNat from if_pos (by omega)]; omega)
      clear hlt hk
      go_wp2_with fail
      refine (HA1.out _ (Keep.refl _ _)).mono ?_
      rintro e v1 ⟨rfl, hb⟩
      have KV1 := Lib.hid (Keep.of_below (fun _ => False) hb)
      clear hb
      go_wp2_with fail
      refine (HA2.out _ KV1.out).mono ?_
      rintro e v2 ⟨rfl, hb⟩
      have KV2 : Hid (Keep (fun _ => False) wr v2) := Lib.hid (KV1.out.trans (Keep.of_below (fun _ => False) hb) (fun _ _ y => y))
      have HQv := Lib.hid (KV2.out.heap HQr.out (fun y => y))
      obtain ⟨x0, x1, x2, x3, x4, x5⟩ := cells_six HQv.out
      clear hb
      go_wp2_with fail
      refine (grid_set _ (g + 1) g k W H k (fillF a m c) W 0 _ 1 1 (fun _ => c) v2.heap.size 0 (HGr.out.keep (KV2.out.alloc _) (fun y => y) (fun y => y)) (fun _ => ⟨rfl, lies_block v2 _ _ (fun _ => c) 1 rfl, by simp⟩) (by omega) 0 hj0.out).mono ?_
      rintro e v3 ⟨rfl, hp3⟩
      have KV3 : Hid (Keep (· = g) wr v3) := Lib.hid (((KV2.out.alloc _).mono (fun _ _ y => y.elim) : Keep (· = g) wr _).trans hp3.keep (fun _ _ y => y))
      have HGv3 : Hid (GridAt v3 (g + 1) g k W H k (fillF a m c)) := Lib.hid ((HGr.out.keep (KV2.out.alloc _) (fun y => y) (fun y => y)).put (a := 0) (m := 0) (x := fun _ => c) ⟨hp3.keep, hp3.fz, fun j hj => by omega, fun i hi => hp3.out i (by omega)⟩ (by omega) |>.congr (fun j hj => if_neg (by omega)))
      have HQv3 := Lib.hid (KV3.out.heap HQr.out (fun e => hgq e.symm))
      clear hp3 x0 x1 x2 x3 x4 x5
      obtain ⟨x0, x1, x2, x3, x4, x5⟩ := cells_six HQv3.out
      go_wp2_with fail
      refine (grid_set _ (g + 1) g k W H k (fillF a m c) ((W : Int) - 1) ((H : Int) - 1) _ 2 2 (fun _ => c) v3.heap.size 0 (HGv3.out.keep ((Keep.refl (fun _ => False) v3).alloc _) (fun y => y) (fun y => y)) (fun _ => ⟨rfl, lies_block v3 _ _ (fun _ => c) 2 rfl, by simp⟩) (by omega) 1 hj1.out).mono ?_
      rintro e v4 ⟨rfl, hp4⟩
      have KV4 : Hid (Keep (· = g) wr v4) := Lib.hid (KV3.out.trans (((Keep.refl (· = g) v3).alloc _).trans hp4.keep (fun _ _ y => y)) (fun _ _ y => y))
      clear hp4 x0 x1 x2 x3 x4 x5
      go_wp2_with fail
      go_ret
      exact ⟨rfl, K6.out.trans ((HK.out.below K6.out.size (fun _ _ e => e.elim)).trans (KV4.out.below (Nat.le_trans K6.out.size HK.out.size) (fun i hi e => by have := HGW.out; omega)))⟩

end Go.Proofs.Ytaeemecnjmkifaa
