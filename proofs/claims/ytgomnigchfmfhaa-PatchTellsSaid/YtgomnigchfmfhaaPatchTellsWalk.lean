/- Law PatchTells: the walk. By program (rgn/XPatchTellsWalk.py). Own work. -/
import Derived.Test.YtgomnigchfmfhaaPatA
import Derived.Test.YtgomnigchfmfhaaPatX
import Derived.Test.YtgomnigchfmfhaaGridB
import Derived.Deep.RegionHeldLaw
import Derived.Deep.CutRange
import Derived.Deep.Cut
import Derived.RegionTactic
namespace Go.Proofs.Ytgomnigchfmfhaa
set_option linter.unusedVariables false
set_option linter.unusedSimpArgs false
open Go.RowKit

def listF (xs : List CellM) (k : Nat) : CellM := xs.getD k .z
theorem listF_src {w : World} {A : Option Addr} {n : Nat} {xs : List CellM} (h : Src w A (n * 6) (flatL xs)) (hl : xs.length = n) : Src w A (n * 6) (flatF (listF xs) n) := by
  have e : flatF (listF xs) xs.length = flatL xs := flatF_list xs (listF xs) (fun k c hk => by unfold listF; rw [List.getD_eq_getElem?_getD, hk]; rfl)
  rw [← hl, e, hl]
  exact h

theorem boxes_two (V : World) (x y : Array Value) (t : TypeId) : ((V.alloc (.cells x t)).alloc (.cells y t)).drew.heap[V.heap.size]? = some (.cells x t (0, 0)) ∧ ((V.alloc (.cells x t)).alloc (.cells y t)).drew.heap[V.heap.size + 1]? = some (.cells y t (0, 0)) ∧ Below V.heap.size V ((V.alloc (.cells x t)).alloc (.cells y t)).drew := by
  refine ⟨(Lib.alloc_old _ _ _ (by simp)).trans (heap_alloc_new V _), ?_, Below.drewN' (((Below.refl _ V).alloc (Nat.le_refl _) _).alloc (by simp) _) 1⟩
  have := heap_alloc_new (V.alloc (.cells x t)) (.cells y t)
  rw [show (V.alloc (.cells x t)).heap.size = V.heap.size + 1 from by simp] at this
  exact this

set_option maxRecDepth 100000 in
set_option maxHeartbeats 25600000 in
theorem walk_PatchTells (W : Int) (wW : (Lit.int .i64 W).wf = true) (H : Int) (wH : (Lit.int .i64 H).wf = true) (A : Option Addr) (n c : Nat) (xs : List CellM) (X Y : Int) (hi : Bool)
    (W' : Int) (wW' : (Lit.int .i64 W').wf = true) (H' : Int) (wH' : (Lit.int .i64 H').wf = true) (B : Option Addr) (n' d : Nat) (ys : List CellM) (X' Y' : Int) (hi' : Bool) (w : World) (hx : CellsL w A n xs) (hy : CellsL w B n' ys) :
    Calls Try.prog 3 #[.agg #[.int .i64 W, .int .i64 H, .slice A n c, .int .i64 X, .int .i64 Y, .bool hi], .agg #[.int .i64 W', .int .i64 H', .slice B n' d, .int .i64 X', .int .i64 Y', .bool hi']] w fun e w' => e = .returned (.bool true) ∧ Below w.heap.size w w' := by
  obtain ⟨a, ha⟩ : ∃ a : Scr, a = ⟨W, H, n, listF xs, X, Y, hi⟩ := ⟨_, rfl⟩
  obtain ⟨b, hb⟩ : ∃ b : Scr, b = ⟨W', H', n', listF ys, X', Y', hi'⟩ := ⟨_, rfl⟩
  have HXA : Hid (Src w A (n * 6) (flatL xs)) := Lib.hid hx.1
  have HXB : Hid (Src w B (n' * 6) (flatL ys)) := Lib.hid hy.1
  have HXL : Hid (xs.length = n) := Lib.hid hx.2.1
  have HYL : Hid (ys.length = n') := Lib.hid hy.2.1
  obtain ⟨W0, hW0, hb0, q1, q2⟩ := scr_boxes w #[.int .i64 W, .int .i64 H, .slice A n c, .int .i64 X, .int .i64 Y, .bool hi] #[.int .i64 W', .int .i64 H', .slice B n' d, .int .i64 X', .int .i64 Y', .bool hi'] 24
  have HB0 := Lib.hid hb0
  have Q1 := Lib.hid q1
  have Q2 := Lib.hid q2
  obtain ⟨p, hp⟩ : ∃ p, p = w.heap.size := ⟨_, rfl⟩
  rw [← hp] at Q1 Q2
  have HC00 : Hid (∀ V, Below W0.heap.size W0 V → V.cell? ⟨p, 0, none⟩ = some (.int .i64 W) ∧ V.cell? ⟨p, 1, none⟩ = some (.int .i64 H) ∧ V.cell? ⟨p, 2, none⟩ = some (.slice A n c) ∧ V.cell? ⟨p, 3, none⟩ = some (.int .i64 X) ∧ V.cell? ⟨p, 4, none⟩ = some (.int .i64 Y) ∧ V.cell? ⟨p, 5, none⟩ = some (.bool hi) ∧ V.cell? ⟨p + 1, 0, none⟩ = some (.int .i64 W') ∧ V.cell? ⟨p + 1, 1, none⟩ = some (.int .i64 H') ∧ V.cell? ⟨p + 1, 2, none⟩ = some (.slice B n' d) ∧ V.cell? ⟨p + 1, 3, none⟩ = some (.int .i64 X') ∧ V.cell? ⟨p + 1, 4, none⟩ = some (.int .i64 Y') ∧ V.cell? ⟨p + 1, 5, none⟩ = some (.bool hi')) := Lib.hid (fun V k => by
    have h1 := (Keep.of_below (fun _ => False) k).heap Q1.out (fun x => x)
    have h2 := (Keep.of_below (fun _ => False) k).heap Q2.out (fun x => x)
    exact ⟨cell_at h1 0, cell_at h1 1, cell_at h1 2, cell_at h1 3, cell_at h1 4, cell_at h1 5, cell_at h2 0, cell_at h2 1, cell_at h2 2, cell_at h2 3, cell_at h2 4, cell_at h2 5⟩)
  clear hx hy hb0 q1 q2 wW wH wW' wH'
  by_cases hbig : (n : Int) > 900 ∨ (n' : Int) > 900
  · have HAL := Lib.hid (patch_alive W0)
    obtain ⟨a0, a1, a2, a3, a4, a5, b0, b1, b2, b3, b4, b5⟩ := HC00.out W0 (Below.refl _ _)
    by_cases h1 : (n : Int) > 900
    · clear hbig
      go_enter Try.func3, Try.ntmps3
      go_upto_region 1 with fail
      rw [← hW0, ← hp]
      clear hW0 hp
      go_wp2_with fail
      refine HAL.out.mono ?_
      rintro e w1 ⟨rfl, hb⟩
      have HB1 : Hid (Below w.heap.size w w1) := Lib.hid (HB0.out.trans (hb.mono HB0.out.size))
      clear hb
      go_wp2_with fail
      go_ret
      exact ⟨rfl, HB1.out⟩
    · have h2 : (n' : Int) > 900 := by omega
      clear hbig
      go_enter Try.func3, Try.ntmps3
      go_upto_region 1 with fail
      rw [← hW0, ← hp]
      clear hW0 hp
      go_wp2_with fail
      refine HAL.out.mono ?_
      rintro e w1 ⟨rfl, hb⟩
      have HB1 : Hid (Below w.heap.size w w1) := Lib.hid (HB0.out.trans (hb.mono HB0.out.size))
      clear hb
      go_wp2_with fail
      go_ret
      exact ⟨rfl, HB1.out⟩
  have h1 : ¬ (n : Int) > 900 := fun h => hbig (.inl h)
  have h2 : ¬ (n' : Int) > 900 := fun h => hbig (.inr h)
  have hn9 : n ≤ 900 := by omega
  have hn9' : n' ≤ 900 := by omega
  clear hbig
  have HAL := Lib.hid (patch_alive W0)
  obtain ⟨a0, a1, a2, a3, a4, a5, b0, b1, b2, b3, b4, b5⟩ := HC00.out W0 (Below.refl _ _)
  go_enter Try.func3, Try.ntmps3
  go_upto_region 1 with fail
  rw [← hW0, ← hp]
  clear hW0 hp
  go_wp2_with fail
  refine HAL.out.mono ?_
  rintro e w3 ⟨rfl, hb3⟩
  have HB3 : Hid (Below w.heap.size w w3) := Lib.hid (HB0.out.trans (hb3.mono HB0.out.size))
  have HB03 := Lib.hid hb3
  have HC0 : Hid (∀ V, Below w3.heap.size w3 V → V.cell? ⟨p, 0, none⟩ = some (.int .i64 W) ∧ V.cell? ⟨p, 1, none⟩ = some (.int .i64 H) ∧ V.cell? ⟨p, 2, none⟩ = some (.slice A n c) ∧ V.cell? ⟨p, 3, none⟩ = some (.int .i64 X) ∧ V.cell? ⟨p, 4, none⟩ = some (.int .i64 Y) ∧ V.cell? ⟨p, 5, none⟩ = some (.bool hi) ∧ V.cell? ⟨p + 1, 0, none⟩ = some (.int .i64 W') ∧ V.cell? ⟨p + 1, 1, none⟩ = some (.int .i64 H') ∧ V.cell? ⟨p + 1, 2, none⟩ = some (.slice B n' d) ∧ V.cell? ⟨p + 1, 3, none⟩ = some (.int .i64 X') ∧ V.cell? ⟨p + 1, 4, none⟩ = some (.int .i64 Y') ∧ V.cell? ⟨p + 1, 5, none⟩ = some (.bool hi')) := Lib.hid (fun V k => HC00.out V (HB03.out.trans (k.mono HB03.out.size)))
  have HLA : Hid (∀ V, Below w3.heap.size w3 V → Calls Try.prog 6 #[.slice A n c] V fun e w' => ∃ g c', e = .returned (.slice (some ⟨g, 0, none⟩) n c') ∧ LentC w' g c' xs ∧ V.heap.size ≤ g ∧ Below V.heap.size V w') := Lib.hid (fun V k =>
    lent_Cells A n c xs V (HXA.out.keep (Keep.of_below _ (HB3.out.trans (k.mono HB3.out.size)))) (by omega))
  have HLB : Hid (∀ V, Below w3.heap.size w3 V → Calls Try.prog 6 #[.slice B n' d] V fun e w' => ∃ g c', e = .returned (.slice (some ⟨g, 0, none⟩) n' c') ∧ LentC w' g c' ys ∧ V.heap.size ≤ g ∧ Below V.heap.size V w') := Lib.hid (fun V k =>
    lent_Cells B n' d ys V (HXB.out.keep (Keep.of_below _ (HB3.out.trans (k.mono HB3.out.size)))) (by omega))
  clear hb3 a0 a1 a2 a3 a4 a5 b0 b1 b2 b3 b4 b5 HAL HC00
  go_upto_region 3 with fail
  refine wp_region_noPanic ?_
  refine wp_region_held_drew (S := fun V => V.cell? ⟨p, 0, none⟩ = some (.int .i64 W) ∧ V.cell? ⟨p, 1, none⟩ = some (.int .i64 H) ∧ V.cell? ⟨p, 2, none⟩ = some (.slice A n c) ∧ V.cell? ⟨p, 3, none⟩ = some (.int .i64 X) ∧ V.cell? ⟨p, 4, none⟩ = some (.int .i64 Y) ∧ V.cell? ⟨p, 5, none⟩ = some (.bool hi) ∧ V.cell? ⟨p + 1, 0, none⟩ = some (.int .i64 W') ∧ V.cell? ⟨p + 1, 1, none⟩ = some (.int .i64 H') ∧ V.cell? ⟨p + 1, 2, none⟩ = some (.slice B n' d) ∧ V.cell? ⟨p + 1, 3, none⟩ = some (.int .i64 X') ∧ V.cell? ⟨p + 1, 4, none⟩ = some (.int .i64 Y') ∧ V.cell? ⟨p + 1, 5, none⟩ = some (.bool hi')) (by kernel_rfl) (HC0.out w3 (Below.refl _ _)) (fun hHeld => ?_)
  obtain ⟨V0, hV0⟩ : ∃ V, V = w3.drew := ⟨_, rfl⟩
  have HBV0 : Hid (Below w3.heap.size w3 V0) := Lib.hid (by rw [hV0]; exact Below.drewN' (Below.refl _ w3) 1)
  rw [← hV0]
  clear hV0 hHeld
  have hHeld := HC0.out _ HBV0.out
  refine wpAnyH_take (i := 0) (oi := _) (v := ?va0) rfl (by kernel_rfl) (by kernel_rfl) (by kernel_rfl) (fun _ _ _ h => h) (Or.inl ⟨by rfl, ?hya0⟩) (by assumption) ?resta0
  case hya0 => (intro w hSw; (try dsimp only at hSw); (try simp only [List.getElem_toArray, List.getElem_cons_zero, List.getElem_cons_succ]); go_simp; (try with_reducible rfl))
  (try simp only [Act.put, List.setIfInBounds_toArray, List.set_cons_zero, List.set_cons_succ, List.getElem_toArray, List.getElem_cons_zero, List.getElem_cons_succ])
  refine wpAnyH_take (i := 1) (oi := _) (v := ?va1) rfl (by kernel_rfl) (by kernel_rfl) (by kernel_rfl) (fun _ _ _ h => h) (Or.inl ⟨by rfl, ?hya1⟩) (by assumption) ?resta1
  case hya1 => (intro w hSw; (try dsimp only at hSw); (try simp only [List.getElem_toArray, List.getElem_cons_zero, List.getElem_cons_succ]); go_simp; (try with_reducible rfl))
  (try simp only [Act.put, List.setIfInBounds_toArray, List.set_cons_zero, List.set_cons_succ, List.getElem_toArray, List.getElem_cons_zero, List.getElem_cons_succ])
  refine wpAnyH_take (i := 3) (oi := _) (v := ?va3) rfl (by kernel_rfl) (by kernel_rfl) (by kernel_rfl) (fun _ _ _ h => h) (Or.inl ⟨by rfl, ?hya3⟩) (by assumption) ?resta3
  case hya3 => (intro w hSw; (try dsimp only at hSw); (try simp only [List.getElem_toArray, List.getElem_cons_zero, List.getElem_cons_succ]); go_simp; (try with_reducible rfl))
  (try simp only [Act.put, List.setIfInBounds_toArray, List.set_cons_zero, List.set_cons_succ, List.getElem_toArray, List.getElem_cons_zero, List.getElem_cons_succ])
  refine wpAnyH_take (i := 4) (oi := _) (v := ?va4) rfl (by kernel_rfl) (by kernel_rfl) (by kernel_rfl) (fun _ _ _ h => h) (Or.inl ⟨by rfl, ?hya4⟩) (by assumption) ?resta4
  case hya4 => (intro w hSw; (try dsimp only at hSw); (try simp only [List.getElem_toArray, List.getElem_cons_zero, List.getElem_cons_succ]); go_simp; (try with_reducible rfl))
  (try simp only [Act.put, List.setIfInBounds_toArray, List.set_cons_zero, List.set_cons_succ, List.getElem_toArray, List.getElem_cons_zero, List.getElem_cons_succ])
  refine wpAnyH_ready (rs := [2]) (by kernel_rfl) (by simp) ?_
  refine AllReadyH.cons (o := _) rfl (fun K hK => ?_) AllReadyH.nil
  (try simp only [List.getElem_toArray, List.getElem_cons_zero, List.getElem_cons_succ])
  go_simp
  refine (HLA.out _ HBV0.out).mono ?_; rintro e V1 ⟨g1, c1, rfl, hl, hg, hb⟩; have HBV1 : Hid (Below w3.heap.size w3 V1) := Lib.hid (HBV0.out.trans (hb.mono HBV0.out.size)); have HL1 := Lib.hid hl; have HG1 : Hid (w3.heap.size ≤ g1 ∧ g1 < V1.heap.size) := Lib.hid ⟨Nat.le_trans HBV0.out.size hg, hl.lt⟩; clear hl hg hb
  refine hK.out _ _ ?_ (fun hHeld => ?_)
  · exact HC0.out _ HBV1.out
  clear hK K
  (try simp only [Act.put, List.setIfInBounds_toArray, List.set_cons_zero, List.set_cons_succ, List.getElem_toArray, List.getElem_cons_zero, List.getElem_cons_succ])
  refine wpAnyH_ready (rs := [5]) (by kernel_rfl) (by simp) ?_
  refine AllReadyH.cons (o := _) rfl (fun K hK => ?_) AllReadyH.nil
  (try simp only [List.getElem_toArray, List.getElem_cons_zero, List.getElem_cons_succ])
  go_simp
  refine (HLB.out _ HBV1.out).mono ?_; rintro e V2 ⟨g2, c2, rfl, hl, hg, hb⟩; have HBV2 : Hid (Below w3.heap.size w3 V2) := Lib.hid (HBV1.out.trans (hb.mono HBV1.out.size)); have HL2 := Lib.hid hl; have HL1' := Lib.hid (HL1.out.keep (Keep.of_below (fun _ => False) hb) (fun x => x)); have HG2 : Hid (w3.heap.size ≤ g1 ∧ g1 < g2 ∧ g2 < V2.heap.size) := Lib.hid ⟨HG1.out.1, Nat.lt_of_lt_of_le HG1.out.2 hg, hl.lt⟩; clear hl hg hb HL1 HG1
  refine hK.out _ _ ?_ (fun hHeld => ?_)
  · exact HC0.out _ HBV2.out
  clear hK K
  (try simp only [Act.put, List.setIfInBounds_toArray, List.set_cons_zero, List.set_cons_succ, List.getElem_toArray, List.getElem_cons_zero, List.getElem_cons_succ])
  refine wpAnyH_take (i := 6) (oi := _) (v := ?va6) rfl (by kernel_rfl) (by kernel_rfl) (by kernel_rfl) (fun _ _ _ h => h) (Or.inl ⟨by rfl, ?hya6⟩) (by assumption) ?resta6
  case hya6 => (intro w hSw; (try dsimp only at hSw); (try simp only [List.getElem_toArray, List.getElem_cons_zero, List.getElem_cons_succ]); go_simp; (try with_reducible rfl))
  (try simp only [Act.put, List.setIfInBounds_toArray, List.set_cons_zero, List.set_cons_succ, List.getElem_toArray, List.getElem_cons_zero, List.getElem_cons_succ])
  refine wpAnyH_take (i := 7) (oi := _) (v := ?va7) rfl (by kernel_rfl) (by kernel_rfl) (by kernel_rfl) (fun _ _ _ h => h) (Or.inl ⟨by rfl, ?hya7⟩) (by assumption) ?resta7
  case hya7 => (intro w hSw; (try dsimp only at hSw); (try simp only [List.getElem_toArray, List.getElem_cons_zero, List.getElem_cons_succ]); go_simp; (try with_reducible rfl))
  (try simp only [Act.put, List.setIfInBounds_toArray, List.set_cons_zero, List.set_cons_succ, List.getElem_toArray, List.getElem_cons_zero, List.getElem_cons_succ])
  refine wpAnyH_done (by kernel_rfl) ?_ _
  refine NoPanic.normal ?_
  go_upto_region 4 with fail
  go_cut [7, 8] from 33 to 38 (fun u v wx => ∃ b1 b2 : Nat, u = .pointer (some ⟨b1, 0, none⟩) ∧ v = .pointer (some ⟨b2, 0, none⟩) ∧ b1 ≠ b2 ∧ Hid (wx.heap[b1]? = some (.cells #[.int .i64 W, .int .i64 H, .slice A n c, .int .i64 X, .int .i64 Y, .bool hi] 24 (0, 0))) ∧ Hid (wx.heap[b2]? = some (.cells #[.int .i64 W', .int .i64 H', .slice B n' d, .int .i64 X', .int .i64 Y', .bool hi'] 24 (0, 0))) ∧ Hid (Below V2.heap.size V2 wx) ∧ Hid (V2.heap.size ≤ b1 ∧ V2.heap.size ≤ b2))
  case first =>
    obtain ⟨a0, a1, a2, a3, a4, a5, b0, b1, b2, b3, b4, b5⟩ := HC0.out V2 HBV2.out
    have l2 : p + 1 < V2.heap.size := World.block_lt_of_cell? V2 _ b0
    have l1 : p < V2.heap.size := World.block_lt_of_cell? V2 _ a0
    go_region
    all_goals
      go_wp2_with fail
      go_meet
      first
        | exact ⟨V2.heap.size, V2.heap.size + 1, rfl, rfl, by omega, Lib.hid (boxes_two _ _ _ _).1, Lib.hid (boxes_two _ _ _ _).2.1, Lib.hid (boxes_two _ _ _ _).2.2, Lib.hid ⟨by omega, by omega⟩⟩
        | exact ⟨V2.heap.size + 1, V2.heap.size, rfl, rfl, by omega, Lib.hid (boxes_two _ _ _ _).2.1, Lib.hid (boxes_two _ _ _ _).1, Lib.hid (boxes_two _ _ _ _).2.2, Lib.hid ⟨by omega, by omega⟩⟩
  case rest =>
    obtain ⟨b1, b2, rfl, rfl, hbb, HX, HY, HBc, HGb⟩ := hcut
    have x2 := cell_at HX.out 2
    have y2 := cell_at HY.out 2
    have f1 := free_at HX.out 2
    have f2 := free_at HY.out 2
    simp at x2 y2
    go_upto_region 6 with fail
    obtain ⟨w5, hw5⟩ : ∃ w5, w5 = (wc.setCell ⟨b1, 2, none⟩ (.slice (some ⟨g1, 0, none⟩) n c1)).setCell ⟨b2, 2, none⟩ (.slice (some ⟨g2, 0, none⟩) n' c2) := ⟨_, rfl⟩
    have K5 : Keep (fun k => k = b1 ∨ k = b2) wc w5 := by
      rw [hw5]
      exact ((keep_set wc b1 2 _).mono (fun _ _ x => .inl x)).trans (keep_set _ b2 2 _) (fun _ _ x => .inr x)
    have HX5 : Hid (w5.heap[b1]? = some (.cells #[.int .i64 W, .int .i64 H, .slice (some ⟨g1, 0, none⟩) n c1, .int .i64 X, .int .i64 Y, .bool hi] 24 (0, 0))) := Lib.hid (by
      rw [hw5]
      have := heap_far (heap_set HX.out 2 (.slice (some ⟨g1, 0, none⟩) n c1)) (p := ⟨b2, 2, none⟩) hbb (.slice (some ⟨g2, 0, none⟩) n' c2)
      simpa using this)
    have HY5 : Hid (w5.heap[b2]? = some (.cells #[.int .i64 W', .int .i64 H', .slice (some ⟨g2, 0, none⟩) n' c2, .int .i64 X', .int .i64 Y', .bool hi'] 24 (0, 0))) := Lib.hid (by
      rw [hw5]
      have := heap_set (heap_far HY.out (p := ⟨b1, 2, none⟩) (fun e => hbb e.symm) (.slice (some ⟨g1, 0, none⟩) n c1)) 2 (.slice (some ⟨g2, 0, none⟩) n' c2)
      simpa using this)
    have HBV5 : Hid (Below V2.heap.size V2 w5) := Lib.hid (HBc.out.trans (K5.below HBc.out.size (fun k hk e => by have := HGb.out; omega)))
    have HB5 : Hid (Below w.heap.size w w5) := Lib.hid ((HB3.out.trans (HBV2.out.mono HB3.out.size)).trans (HBV5.out.mono (by have h1 := HB3.out.size; have h2 := HBV2.out.size; omega)))
    have HB35 : Hid (Below w3.heap.size w3 w5) := Lib.hid (HBV2.out.trans (HBV5.out.mono HBV2.out.size))
    have HL15 := Lib.hid (HL1'.out.keep (Keep.of_below (fun _ => False) HBV5.out) (fun x => x))
    have HL25 := Lib.hid (HL2.out.keep (Keep.of_below (fun _ => False) HBV5.out) (fun x => x))
    rw [← hw5]
    clear hw5 K5 x2 y2 f1 f2 HX HY HBc HGb HL1' HL2 HBV2 HBV5 HBV0 HBV1 hHeld
    have HC : Hid (∀ V, Below w5.heap.size w5 V → V.cell? ⟨p, 0, none⟩ = some (.int .i64 W) ∧ V.cell? ⟨p, 1, none⟩ = some (.int .i64 H) ∧ V.cell? ⟨p, 2, none⟩ = some (.slice A n c) ∧ V.cell? ⟨p, 3, none⟩ = some (.int .i64 X) ∧ V.cell? ⟨p, 4, none⟩ = some (.int .i64 Y) ∧ V.cell? ⟨p, 5, none⟩ = some (.bool hi) ∧ V.cell? ⟨p + 1, 0, none⟩ = some (.int .i64 W') ∧ V.cell? ⟨p + 1, 1, none⟩ = some (.int .i64 H') ∧ V.cell? ⟨p + 1, 2, none⟩ = some (.slice B n' d) ∧ V.cell? ⟨p + 1, 3, none⟩ = some (.int .i64 X') ∧ V.cell? ⟨p + 1, 4, none⟩ = some (.int .i64 Y') ∧ V.cell? ⟨p + 1, 5, none⟩ = some (.bool hi') ∧ V.cell? ⟨b1, 0, none⟩ = some (.int .i64 W) ∧ V.cell? ⟨b1, 1, none⟩ = some (.int .i64 H) ∧ V.cell? ⟨b1, 2, none⟩ = some (.slice (some ⟨g1, 0, none⟩) n c1) ∧ V.cell? ⟨b1, 3, none⟩ = some (.int .i64 X) ∧ V.cell? ⟨b1, 4, none⟩ = some (.int .i64 Y) ∧ V.cell? ⟨b1, 5, none⟩ = some (.bool hi) ∧ V.cell? ⟨b2, 0, none⟩ = some (.int .i64 W') ∧ V.cell? ⟨b2, 1, none⟩ = some (.int .i64 H') ∧ V.cell? ⟨b2, 2, none⟩ = some (.slice (some ⟨g2, 0, none⟩) n' c2) ∧ V.cell? ⟨b2, 3, none⟩ = some (.int .i64 X') ∧ V.cell? ⟨b2, 4, none⟩ = some (.int .i64 Y') ∧ V.cell? ⟨b2, 5, none⟩ = some (.bool hi')) := Lib.hid (fun V k => by
      obtain ⟨a0, a1, a2, a3, a4, a5, b0, b1, b2, b3, b4, b5⟩ := HC0.out V (HB35.out.trans (k.mono HB35.out.size))
      have h1 := (Keep.of_below (fun _ => False) k).heap HX5.out (fun x => x)
      have h2 := (Keep.of_below (fun _ => False) k).heap HY5.out (fun x => x)
      exact ⟨a0, a1, a2, a3, a4, a5, b0, b1, b2, b3, b4, b5, cell_at h1 0, cell_at h1 1, cell_at h1 2, cell_at h1 3, cell_at h1 4, cell_at h1 5, cell_at h2 0, cell_at h2 1, cell_at h2 2, cell_at h2 3, cell_at h2 4, cell_at h2 5⟩)
    have HW : Hid (∀ V, Below w5.heap.size w5 V → Below w.heap.size w V) := Lib.hid (fun V k => HB5.out.trans (k.mono HB5.out.size))
    have HAo : Hid (∀ V, Below w5.heap.size w5 V → a.at' V A) := Lib.hid (fun V k => by rw [ha]; exact listF_src (HXA.out.keep (Keep.of_below _ (HW.out V k))) HXL.out)
    have HBo : Hid (∀ V, Below w5.heap.size w5 V → b.at' V B) := Lib.hid (fun V k => by rw [hb]; exact listF_src (HXB.out.keep (Keep.of_below _ (HW.out V k))) HYL.out)
    have HAx : Hid (∀ V, Below w5.heap.size w5 V → a.at' V (some ⟨g1, 0, none⟩)) := Lib.hid (fun V k => by
      rw [ha]
      have := (HL15.out.keep (Keep.of_below (fun _ => False) k) (fun x => x)).src
      rw [HXL.out] at this
      exact listF_src this HXL.out)
    have HBx : Hid (∀ V, Below w5.heap.size w5 V → b.at' V (some ⟨g2, 0, none⟩)) := Lib.hid (fun V k => by
      rw [hb]
      have := (HL25.out.keep (Keep.of_below (fun _ => False) k) (fun x => x)).src
      rw [HYL.out] at this
      exact listF_src this HYL.out)
    have hcap : n' ≤ c2 := by have := HL25.out.cap; rw [HYL.out] at this; omega
    have han : a.n = n := by rw [ha]
    have hbn : b.n = n' := by rw [hb]
    have HVX : Hid (∀ V, Below w5.heap.size w5 V → Calls Try.prog 9 #[a.v (some ⟨g1, 0, none⟩) c1] V fun e w' => e = .returned (.bool (validB a)) ∧ Below V.heap.size V w') := Lib.hid (fun V k => patch_Valid a _ c1 V (HAx.out V k) (by omega))
    have HRA : Hid (∀ V, Below w5.heap.size w5 V → Calls Try.prog 8 #[a.v A c] V fun e w' => e = .returned (.bool (validB a)) ∧ Below V.heap.size V w') := Lib.hid (fun V k => ref_Valid a _ c V (HAo.out V k) (by omega))
    have HRB : Hid (∀ V, Below w5.heap.size w5 V → Calls Try.prog 8 #[b.v B d] V fun e w' => e = .returned (.bool (validB b)) ∧ Below V.heap.size V w') := Lib.hid (fun V k => ref_Valid b _ d V (HBo.out V k) (by omega))
    have HSX : Hid (∀ V, Below w5.heap.size w5 V → Calls Try.prog 10 #[a.v (some ⟨g1, 0, none⟩) c1, b.v (some ⟨g2, 0, none⟩) c2] V fun e w' => e = .returned (.bool (likeB a b)) ∧ Below V.heap.size V w') := Lib.hid (fun V k => patch_Same a b _ _ c1 c2 V (HAx.out V k) (HBx.out V k) (by omega))
    have HSR : Hid (∀ V, Below w5.heap.size w5 V → Calls Try.prog 11 #[a.v A c, b.v B d] V fun e w' => e = .returned (.bool (likeB a b)) ∧ Below V.heap.size V w') := Lib.hid (fun V k => ref_Same a b _ _ c d V (HAo.out V k) (HBo.out V k) (by omega))
    have HSS : Hid (∀ V, Below w5.heap.size w5 V → Calls Try.prog 10 #[a.v (some ⟨g1, 0, none⟩) c1, a.v (some ⟨g1, 0, none⟩) c1] V fun e w' => e = .returned (.bool true) ∧ Below V.heap.size V w') := Lib.hid (fun V k => by
      have := patch_Same a a _ _ c1 c1 V (HAx.out V k) (HAx.out V k) (by omega)
      rwa [(likeB_iff a a).2 (Scr.Like.refl a)] at this)
    have HT1 : Hid (∀ V, Below w5.heap.size w5 V → Calls Try.prog 15 #[.slice (some ⟨g1, 0, none⟩) n c1, .slice A n c] V fun e w' => e = .returned (.bool true) ∧ Below V.heap.size V w') := Lib.hid (fun V k =>
      (stays_Cells g1 c1 A n c xs V (HL15.out.keep (Keep.of_below (fun _ => False) k) (fun x => x)) (HXA.out.keep (Keep.of_below _ (HW.out V k))) (by omega)).mono fun e w' ⟨h1, z, h2⟩ => ⟨h1, by rw [h2]; exact Below.drewN' (Below.refl _ V) z⟩)
    have HT2 : Hid (∀ V, Below w5.heap.size w5 V → Calls Try.prog 15 #[.slice (some ⟨g2, 0, none⟩) n' c2, .slice B n' d] V fun e w' => e = .returned (.bool true) ∧ Below V.heap.size V w') := Lib.hid (fun V k =>
      (stays_Cells g2 c2 B n' d ys V (HL25.out.keep (Keep.of_below (fun _ => False) k) (fun x => x)) (HXB.out.keep (Keep.of_below _ (HW.out V k))) (by omega)).mono fun e w' ⟨h1, z, h2⟩ => ⟨h1, by rw [h2]; exact Below.drewN' (Below.refl _ V) z⟩)
    have hnn : sizeB a b = true → validB a = true → validB b = true → a.n = b.n := fun hs h1 h2 => by
      simp only [sizeB, decide_eq_true_eq] at hs
      have e1 := ((validB_iff a).1 h1).n
      have e2 := ((validB_iff b).1 h2).n
      rw [hs.1, hs.2] at e1
      omega
    obtain ⟨DS, ee, cnt, HDF, HSZ, HDR, HRZ, HDS⟩ : ∃ (DS : ByteArray) (ee : Int) (cnt : Nat), Hid (∀ V, Below w5.heap.size w5 V → Calls Try.prog 7 #[a.v (some ⟨g1, 0, none⟩) c1, b.v (some ⟨g2, 0, none⟩) c2] V fun e w' => e = .returned (.tuple #[.string DS, .int .i64 ee]) ∧ Below V.heap.size V w') ∧
        Hid (∀ V, Below w5.heap.size w5 V → Calls Try.prog 12 #[a.v (some ⟨g1, 0, none⟩) c1, b.v (some ⟨g2, 0, none⟩) c2] V fun e w' => e = .returned (.int .i64 (cnt : Nat)) ∧ Below V.heap.size V w') ∧
        Hid ((validB a && validB b) = true → ∀ V, Below w5.heap.size w5 V → Calls Try.prog 13 #[a.v A c, b.v B d] V fun e w' => e = .returned (.string DS) ∧ Below V.heap.size V w') ∧
        Hid ((validB a && validB b) = true → ∀ V, Below w5.heap.size w5 V → Calls Try.prog 14 #[a.v A c, b.v B d] V fun e w' => e = .returned (.int .i64 (cnt : Nat)) ∧ Below V.heap.size V w') ∧
        Hid (((validB a && validB b) = true → ee = 0) ∧ ((validB a && validB b) = false → ee = 1 ∧ DS = ⟨#[]⟩ ∧ cnt = 0)) := by
      cases hr : (validB a && validB b) with
      | true =>
        have hr' := hr
        rw [Bool.and_eq_true] at hr'
        have ho1 := (validB_iff a).1 hr'.1
        have ho2 := (validB_iff b).1 hr'.2
        exact ⟨⟨(diffB a b).toArray⟩, 0, cntN (chg a b) b.n, Lib.hid (fun V k => patch_Diff a b _ _ c1 c2 V (HAx.out V k) (HBx.out V k) (by rw [hbn]; exact hcap) ho1 ho2), Lib.hid (fun V k => patch_Size a b _ _ c1 c2 V (HAx.out V k) (HBx.out V k) ho1 ho2),
          Lib.hid (fun _ V k => ref_Diff a b _ _ c d V (HAo.out V k) (HBo.out V k) (fun hs => hnn hs hr'.1 hr'.2) ho2), Lib.hid (fun _ V k => ref_Size a b _ _ c d V (HAo.out V k) (HBo.out V k) (fun hs => hnn hs hr'.1 hr'.2) (by omega)), Lib.hid ⟨fun _ => rfl, fun h => by cases h⟩⟩
      | false =>
        exact ⟨⟨#[]⟩, 1, 0, Lib.hid (fun V k => patch_Diff_bad a b _ _ c1 c2 V (HAx.out V k) (HBx.out V k) (by omega) (by omega) hr), Lib.hid (fun V k => patch_Size_bad a b _ _ c1 c2 V (HAx.out V k) (HBx.out V k) (by omega) (by omega) hr), Lib.hid (fun h => by cases h), Lib.hid (fun h => by cases h), Lib.hid ⟨fun h => (by cases h), fun _ => ⟨rfl, rfl, rfl⟩⟩⟩
    generalize validB a = va at HVX HRA HDR HRZ HDS
    generalize validB b = vb at HRB HDR HRZ HDS
    generalize likeB a b = lk at HSX HSR
    subst ha hb
    simp only [Scr.v] at HVX HRA HRB HSX HSR HSS HDF HSZ HDR HRZ
    clear hnn han hbn HAx HBx HAo HBo HL15 HL25 HX5 HY5 HB35
    obtain ⟨a0, a1, a2, a3, a4, a5, b0, b1', b2', b3, b4, b5, x0, x1, x2, x3, x4, x5, y0, y1, y2, y3, y4, y5⟩ := HC.out w5 (Below.refl _ _)
    go_wp2_with fail
    refine (HDF.out w5 (Below.refl _ _)).mono ?_
    rintro e w6 ⟨rfl, hb⟩
    have HBw6 : Hid (Below w5.heap.size w5 w6) := Lib.hid hb
    clear hb a0 a1 a2 a3 a4 a5 b0 b1' b2' b3 b4 b5 x0 x1 x2 x3 x4 x5 y0 y1 y2 y3 y4 y5
    obtain ⟨a0, a1, a2, a3, a4, a5, b0, b1', b2', b3, b4, b5, x0, x1, x2, x3, x4, x5, y0, y1, y2, y3, y4, y5⟩ := HC.out w6 HBw6.out
    go_wp2_with fail
    refine (HRA.out w6 HBw6.out).mono ?_
    rintro e w7 ⟨rfl, hb⟩
    have HBw7 : Hid (Below w5.heap.size w5 w7) := Lib.hid (HBw6.out.trans (hb.mono HBw6.out.size))
    clear hb a0 a1 a2 a3 a4 a5 b0 b1' b2' b3 b4 b5 x0 x1 x2 x3 x4 x5 y0 y1 y2 y3 y4 y5
    obtain ⟨a0, a1, a2, a3, a4, a5, b0, b1', b2', b3, b4, b5, x0, x1, x2, x3, x4, x5, y0, y1, y2, y3, y4, y5⟩ := HC.out w7 HBw7.out
    obtain ⟨vr, hvr⟩ : ∃ vr, (va && vb) = vr := ⟨_, rfl⟩
    rw [hvr] at HDR HRZ HDS
    have hvv : (va != va) = false := by cases va <;> rfl
    have hvw : (va == va) = true := by cases va <;> rfl
    have hll : (lk != lk) = false := by cases lk <;> rfl
    have hlw : (lk == lk) = true := by cases lk <;> rfl
    cases va
    · obtain rfl : vr = false := by rw [← hvr]; rfl
      go_upto_region 8 with fail
      refine wp_region_noPanic ?_
      refine wp_region_held_drew (S := fun V => V.cell? ⟨p, 0, none⟩ = some (.int .i64 W) ∧ V.cell? ⟨p, 1, none⟩ = some (.int .i64 H) ∧ V.cell? ⟨p, 2, none⟩ = some (.slice A n c) ∧ V.cell? ⟨p, 3, none⟩ = some (.int .i64 X) ∧ V.cell? ⟨p, 4, none⟩ = some (.int .i64 Y) ∧ V.cell? ⟨p, 5, none⟩ = some (.bool hi) ∧ V.cell? ⟨p + 1, 0, none⟩ = some (.int .i64 W') ∧ V.cell? ⟨p + 1, 1, none⟩ = some (.int .i64 H') ∧ V.cell? ⟨p + 1, 2, none⟩ = some (.slice B n' d) ∧ V.cell? ⟨p + 1, 3, none⟩ = some (.int .i64 X') ∧ V.cell? ⟨p + 1, 4, none⟩ = some (.int .i64 Y') ∧ V.cell? ⟨p + 1, 5, none⟩ = some (.bool hi') ∧ V.cell? ⟨b1, 0, none⟩ = some (.int .i64 W) ∧ V.cell? ⟨b1, 1, none⟩ = some (.int .i64 H) ∧ V.cell? ⟨b1, 2, none⟩ = some (.slice (some ⟨g1, 0, none⟩) n c1) ∧ V.cell? ⟨b1, 3, none⟩ = some (.int .i64 X) ∧ V.cell? ⟨b1, 4, none⟩ = some (.int .i64 Y) ∧ V.cell? ⟨b1, 5, none⟩ = some (.bool hi) ∧ V.cell? ⟨b2, 0, none⟩ = some (.int .i64 W') ∧ V.cell? ⟨b2, 1, none⟩ = some (.int .i64 H') ∧ V.cell? ⟨b2, 2, none⟩ = some (.slice (some ⟨g2, 0, none⟩) n' c2) ∧ V.cell? ⟨b2, 3, none⟩ = some (.int .i64 X') ∧ V.cell? ⟨b2, 4, none⟩ = some (.int .i64 Y') ∧ V.cell? ⟨b2, 5, none⟩ = some (.bool hi')) (by kernel_rfl) (HC.out w7 HBw7.out) (fun hHeld => ?_)
      obtain ⟨V0, hV0⟩ : ∃ V, V = w7.drew := ⟨_, rfl⟩
      have HBV0 : Hid (Below w5.heap.size w5 V0) := Lib.hid (by rw [hV0]; exact Below.drewN' HBw7.out 1)
      rw [← hV0]
      clear hV0 hHeld a0 a1 a2 a3 a4 a5 b0 b1' b2' b3 b4 b5 x0 x1 x2 x3 x4 x5 y0 y1 y2 y3 y4 y5
      have hHeld := HC.out _ HBV0.out
      refine wpAnyH_take (i := 0) (oi := _) (v := ?vhax0) rfl (by kernel_rfl) (by kernel_rfl) (by kernel_rfl) (fun _ _ _ h => h) (Or.inl ⟨by rfl, ?hyhax0⟩) (by assumption) ?resthax0
      case hyhax0 => (intro w hSw; (try dsimp only at hSw); (try simp only [List.getElem_toArray, List.getElem_cons_zero, List.getElem_cons_succ]); go_simp; (try with_reducible rfl))
      (try simp only [Act.put, List.setIfInBounds_toArray, List.set_cons_zero, List.set_cons_succ, List.getElem_toArray, List.getElem_cons_zero, List.getElem_cons_succ])
      refine wpAnyH_take (i := 2) (oi := _) (v := ?vhax2) rfl (by kernel_rfl) (by kernel_rfl) (by kernel_rfl) (fun _ _ _ h => h) (Or.inl ⟨by rfl, ?hyhax2⟩) (by assumption) ?resthax2
      case hyhax2 => (intro w hSw; (try dsimp only at hSw); (try simp only [List.getElem_toArray, List.getElem_cons_zero, List.getElem_cons_succ]); go_simp; (try with_reducible rfl))
      (try simp only [Act.put, List.setIfInBounds_toArray, List.set_cons_zero, List.set_cons_succ, List.getElem_toArray, List.getElem_cons_zero, List.getElem_cons_succ])
      refine wpAnyH_ready (rs := [1]) (by kernel_rfl) (by simp) ?_
      refine AllReadyH.cons (o := _) rfl (fun K hK => ?_) AllReadyH.nil
      (try simp only [List.getElem_toArray, List.getElem_cons_zero, List.getElem_cons_succ])
      go_simp
      refine (HVX.out _ HBV0.out).mono ?_; rintro e V1 ⟨rfl, hb⟩; have HBV1 : Hid (Below w5.heap.size w5 V1) := Lib.hid (HBV0.out.trans (hb.mono HBV0.out.size)); clear hb
      refine hK.out _ _ ?_ (fun hHeld => ?_)
      · exact HC.out _ HBV1.out
      clear hK K
      (try simp only [Act.put, List.setIfInBounds_toArray, List.set_cons_zero, List.set_cons_succ, List.getElem_toArray, List.getElem_cons_zero, List.getElem_cons_succ])
      refine wpAnyH_ready (rs := [3]) (by kernel_rfl) (by simp) ?_
      refine AllReadyH.cons (o := _) rfl (fun K hK => ?_) AllReadyH.nil
      (try simp only [List.getElem_toArray, List.getElem_cons_zero, List.getElem_cons_succ])
      go_simp
      refine (HRA.out _ HBV1.out).mono ?_; rintro e V2 ⟨rfl, hb⟩; have HBV2 : Hid (Below w5.heap.size w5 V2) := Lib.hid (HBV1.out.trans (hb.mono HBV1.out.size)); clear hb
      refine hK.out _ _ ?_ (fun hHeld => ?_)
      · exact HC.out _ HBV2.out
      clear hK K
      (try simp only [Act.put, List.setIfInBounds_toArray, List.set_cons_zero, List.set_cons_succ, List.getElem_toArray, List.getElem_cons_zero, List.getElem_cons_succ])
      refine wpAnyH_take (i := 4) (oi := _) (v := ?vhax4) rfl (by kernel_rfl) (by kernel_rfl) (by kernel_rfl) (fun _ _ _ h => h) (Or.inl ⟨by rfl, ?hyhax4⟩) (by assumption) ?resthax4
      case hyhax4 => (intro w hSw; (try dsimp only at hSw); (try simp only [List.getElem_toArray, List.getElem_cons_zero, List.getElem_cons_succ]); go_simp; (try with_reducible rfl))
      (try simp only [Act.put, List.setIfInBounds_toArray, List.set_cons_zero, List.set_cons_succ, List.getElem_toArray, List.getElem_cons_zero, List.getElem_cons_succ])
      refine wpAnyH_take (i := 5) (oi := _) (v := ?vhax5) rfl (by kernel_rfl) (by kernel_rfl) (by kernel_rfl) (fun _ _ _ h => h) (Or.inl ⟨by rfl, ?hyhax5⟩) (by assumption) ?resthax5
      case hyhax5 => (intro w hSw; (try dsimp only at hSw); (try simp only [List.getElem_toArray, List.getElem_cons_zero, List.getElem_cons_succ]); go_simp; (try with_reducible rfl))
      (try simp only [Act.put, List.setIfInBounds_toArray, List.set_cons_zero, List.set_cons_succ, List.getElem_toArray, List.getElem_cons_zero, List.getElem_cons_succ])
      refine wpAnyH_take (i := 6) (oi := _) (v := ?vhax6) rfl (by kernel_rfl) (by kernel_rfl) (by kernel_rfl) (fun _ _ _ h => h) (Or.inl ⟨by rfl, ?hyhax6⟩) (by assumption) ?resthax6
      case hyhax6 => (intro w hSw; (try dsimp only at hSw); (try simp only [List.getElem_toArray, List.getElem_cons_zero, List.getElem_cons_succ]); go_simp; (try with_reducible rfl))
      (try simp only [Act.put, List.setIfInBounds_toArray, List.set_cons_zero, List.set_cons_succ, List.getElem_toArray, List.getElem_cons_zero, List.getElem_cons_succ])
      refine wpAnyH_take (i := 7) (oi := _) (v := ?vhax7) rfl (by kernel_rfl) (by kernel_rfl) (by kernel_rfl) (fun _ _ _ h => h) (Or.inl ⟨by rfl, ?hyhax7⟩) (by assumption) ?resthax7
      case hyhax7 => (intro w hSw; (try dsimp only at hSw); (try simp only [List.getElem_toArray, List.getElem_cons_zero, List.getElem_cons_succ]); go_simp; (try with_reducible rfl))
      (try simp only [Act.put, List.setIfInBounds_toArray, List.set_cons_zero, List.set_cons_succ, List.getElem_toArray, List.getElem_cons_zero, List.getElem_cons_succ])
      refine wpAnyH_take (i := 9) (oi := _) (v := ?vhax9) rfl (by kernel_rfl) (by kernel_rfl) (by kernel_rfl) (fun _ _ _ h => h) (Or.inl ⟨by rfl, ?hyhax9⟩) (by assumption) ?resthax9
      case hyhax9 => (intro w hSw; (try dsimp only at hSw); (try simp only [List.getElem_toArray, List.getElem_cons_zero, List.getElem_cons_succ]); go_simp; (try with_reducible rfl))
      (try simp only [Act.put, List.setIfInBounds_toArray, List.set_cons_zero, List.set_cons_succ, List.getElem_toArray, List.getElem_cons_zero, List.getElem_cons_succ])
      refine wpAnyH_take (i := 10) (oi := _) (v := ?vhax10) rfl (by kernel_rfl) (by kernel_rfl) (by kernel_rfl) (fun _ _ _ h => h) (Or.inl ⟨by rfl, ?hyhax10⟩) (by assumption) ?resthax10
      case hyhax10 => (intro w hSw; (try dsimp only at hSw); (try simp only [List.getElem_toArray, List.getElem_cons_zero, List.getElem_cons_succ]); go_simp; (try with_reducible rfl))
      (try simp only [Act.put, List.setIfInBounds_toArray, List.set_cons_zero, List.set_cons_succ, List.getElem_toArray, List.getElem_cons_zero, List.getElem_cons_succ])
      refine wpAnyH_ready (rs := [8]) (by kernel_rfl) (by simp) ?_
      refine AllReadyH.cons (o := _) rfl (fun K hK => ?_) AllReadyH.nil
      (try simp only [List.getElem_toArray, List.getElem_cons_zero, List.getElem_cons_succ])
      go_simp
      refine (HSX.out _ HBV2.out).mono ?_; rintro e V3 ⟨rfl, hb⟩; have HBV3 : Hid (Below w5.heap.size w5 V3) := Lib.hid (HBV2.out.trans (hb.mono HBV2.out.size)); clear hb
      refine hK.out _ _ ?_ (fun hHeld => ?_)
      · exact HC.out _ HBV3.out
      clear hK K
      (try simp only [Act.put, List.setIfInBounds_toArray, List.set_cons_zero, List.set_cons_succ, List.getElem_toArray, List.getElem_cons_zero, List.getElem_cons_succ])
      refine wpAnyH_ready (rs := [11]) (by kernel_rfl) (by simp) ?_
      refine AllReadyH.cons (o := _) rfl (fun K hK => ?_) AllReadyH.nil
      (try simp only [List.getElem_toArray, List.getElem_cons_zero, List.getElem_cons_succ])
      go_simp
      refine (HSR.out _ HBV3.out).mono ?_; rintro e V4 ⟨rfl, hb⟩; have HBV4 : Hid (Below w5.heap.size w5 V4) := Lib.hid (HBV3.out.trans (hb.mono HBV3.out.size)); clear hb
      refine hK.out _ _ ?_ (fun hHeld => ?_)
      · exact HC.out _ HBV4.out
      clear hK K
      (try simp only [Act.put, List.setIfInBounds_toArray, List.set_cons_zero, List.set_cons_succ, List.getElem_toArray, List.getElem_cons_zero, List.getElem_cons_succ])
      refine wpAnyH_take (i := 12) (oi := _) (v := ?vhax12) rfl (by kernel_rfl) (by kernel_rfl) (by kernel_rfl) (fun _ _ _ h => h) (Or.inl ⟨by rfl, ?hyhax12⟩) (by assumption) ?resthax12
      case hyhax12 => (intro w hSw; (try dsimp only at hSw); (try simp only [List.getElem_toArray, List.getElem_cons_zero, List.getElem_cons_succ]); go_simp; (try with_reducible rfl))
      (try simp only [Act.put, List.setIfInBounds_toArray, List.set_cons_zero, List.set_cons_succ, List.getElem_toArray, List.getElem_cons_zero, List.getElem_cons_succ])
      refine wpAnyH_take (i := 13) (oi := _) (v := ?vhax13) rfl (by kernel_rfl) (by kernel_rfl) (by kernel_rfl) (fun _ _ _ h => h) (Or.inl ⟨by rfl, ?hyhax13⟩) (by assumption) ?resthax13
      case hyhax13 => (intro w hSw; (try dsimp only at hSw); (try simp only [List.getElem_toArray, List.getElem_cons_zero, List.getElem_cons_succ]); go_simp; (try with_reducible rfl))
      (try simp only [Act.put, List.setIfInBounds_toArray, List.set_cons_zero, List.set_cons_succ, List.getElem_toArray, List.getElem_cons_zero, List.getElem_cons_succ])
      refine wpAnyH_take (i := 14) (oi := _) (v := ?vhax14) rfl (by kernel_rfl) (by kernel_rfl) (by kernel_rfl) (fun _ _ _ h => h) (Or.inl ⟨by rfl, ?hyhax14⟩) (by assumption) ?resthax14
      case hyhax14 => (intro w hSw; (try dsimp only at hSw); (try simp only [List.getElem_toArray, List.getElem_cons_zero, List.getElem_cons_succ]); go_simp; (try with_reducible rfl))
      (try simp only [Act.put, List.setIfInBounds_toArray, List.set_cons_zero, List.set_cons_succ, List.getElem_toArray, List.getElem_cons_zero, List.getElem_cons_succ])
      refine wpAnyH_take (i := 15) (oi := _) (v := ?vhax15) rfl (by kernel_rfl) (by kernel_rfl) (by kernel_rfl) (fun _ _ _ h => h) (Or.inl ⟨by rfl, ?hyhax15⟩) (by assumption) ?resthax15
      case hyhax15 => (intro w hSw; (try dsimp only at hSw); (try simp only [List.getElem_toArray, List.getElem_cons_zero, List.getElem_cons_succ]); go_simp; (try with_reducible rfl))
      (try simp only [Act.put, List.setIfInBounds_toArray, List.set_cons_zero, List.set_cons_succ, List.getElem_toArray, List.getElem_cons_zero, List.getElem_cons_succ])
      refine wpAnyH_take (i := 16) (oi := _) (v := ?vhax16) rfl (by kernel_rfl) (by kernel_rfl) (by kernel_rfl) (fun _ _ _ h => h) (Or.inl ⟨by rfl, ?hyhax16⟩) (by assumption) ?resthax16
      case hyhax16 => (intro w hSw; (try dsimp only at hSw); (try simp only [List.getElem_toArray, List.getElem_cons_zero, List.getElem_cons_succ]); go_simp; (try with_reducible rfl))
      (try simp only [Act.put, List.setIfInBounds_toArray, List.set_cons_zero, List.set_cons_succ, List.getElem_toArray, List.getElem_cons_zero, List.getElem_cons_succ])
      refine wpAnyH_ready (rs := [17]) (by kernel_rfl) (by simp) ?_
      refine AllReadyH.cons (o := _) rfl (fun K hK => ?_) AllReadyH.nil
      (try simp only [List.getElem_toArray, List.getElem_cons_zero, List.getElem_cons_succ])
      go_simp
      refine (HSS.out _ HBV4.out).mono ?_; rintro e V5 ⟨rfl, hb⟩; have HBV5 : Hid (Below w5.heap.size w5 V5) := Lib.hid (HBV4.out.trans (hb.mono HBV4.out.size)); clear hb
      refine hK.out _ _ ?_ (fun hHeld => ?_)
      · exact HC.out _ HBV5.out
      clear hK K
      (try simp only [Act.put, List.setIfInBounds_toArray, List.set_cons_zero, List.set_cons_succ, List.getElem_toArray, List.getElem_cons_zero, List.getElem_cons_succ])
      refine wpAnyH_take (i := 18) (oi := _) (v := ?vhax18) rfl (by kernel_rfl) (by kernel_rfl) (by kernel_rfl) (fun _ _ _ h => h) (Or.inl ⟨by rfl, ?hyhax18⟩) (by assumption) ?resthax18
      case hyhax18 => (intro w hSw; (try dsimp only at hSw); (try simp only [List.getElem_toArray, List.getElem_cons_zero, List.getElem_cons_succ]); go_simp; (try with_reducible rfl))
      (try simp only [Act.put, List.setIfInBounds_toArray, List.set_cons_zero, List.set_cons_succ, List.getElem_toArray, List.getElem_cons_zero, List.getElem_cons_succ])
      refine wpAnyH_take (i := 19) (oi := _) (v := ?vhax19) rfl (by kernel_rfl) (by kernel_rfl) (by kernel_rfl) (fun _ _ _ h => h) (Or.inl ⟨by rfl, ?hyhax19⟩) (by assumption) ?resthax19
      case hyhax19 => (intro w hSw; (try dsimp only at hSw); (try simp only [List.getElem_toArray, List.getElem_cons_zero, List.getElem_cons_succ]); go_simp; (try with_reducible rfl))
      (try simp only [Act.put, List.setIfInBounds_toArray, List.set_cons_zero, List.set_cons_succ, List.getElem_toArray, List.getElem_cons_zero, List.getElem_cons_succ])
      refine wpAnyH_done (by kernel_rfl) ?_ _
      refine NoPanic.normal ?_
      clear hHeld
      obtain ⟨a0, a1, a2, a3, a4, a5, b0, b1', b2', b3, b4, b5, x0, x1, x2, x3, x4, x5, y0, y1, y2, y3, y4, y5⟩ := HC.out V5 HBV5.out
      obtain ⟨rfl, rfl, rfl⟩ := HDS.out.2 (by simp)
      go_wp2_with fail
      refine (HSZ.out V5 HBV5.out).mono ?_
      rintro e w9 ⟨rfl, hb⟩
      have HBw9 : Hid (Below w5.heap.size w5 w9) := Lib.hid (HBV5.out.trans (hb.mono HBV5.out.size))
      clear hb a0 a1 a2 a3 a4 a5 b0 b1' b2' b3 b4 b5 x0 x1 x2 x3 x4 x5 y0 y1 y2 y3 y4 y5
      go_wp2_with fail
      go_ret
      exact ⟨rfl, HW.out _ HBw9.out⟩
    · go_wp2_with fail
      refine (HRB.out w7 HBw7.out).mono ?_
      rintro e w8 ⟨rfl, hb⟩
      have HBw8 : Hid (Below w5.heap.size w5 w8) := Lib.hid (HBw7.out.trans (hb.mono HBw7.out.size))
      clear hb a0 a1 a2 a3 a4 a5 b0 b1' b2' b3 b4 b5 x0 x1 x2 x3 x4 x5 y0 y1 y2 y3 y4 y5
      obtain ⟨a0, a1, a2, a3, a4, a5, b0, b1', b2', b3, b4, b5, x0, x1, x2, x3, x4, x5, y0, y1, y2, y3, y4, y5⟩ := HC.out w8 HBw8.out
      cases vb
      · obtain rfl : vr = false := by rw [← hvr]; rfl
        go_upto_region 8 with fail
        refine wp_region_noPanic ?_
        refine wp_region_held_drew (S := fun V => V.cell? ⟨p, 0, none⟩ = some (.int .i64 W) ∧ V.cell? ⟨p, 1, none⟩ = some (.int .i64 H) ∧ V.cell? ⟨p, 2, none⟩ = some (.slice A n c) ∧ V.cell? ⟨p, 3, none⟩ = some (.int .i64 X) ∧ V.cell? ⟨p, 4, none⟩ = some (.int .i64 Y) ∧ V.cell? ⟨p, 5, none⟩ = some (.bool hi) ∧ V.cell? ⟨p + 1, 0, none⟩ = some (.int .i64 W') ∧ V.cell? ⟨p + 1, 1, none⟩ = some (.int .i64 H') ∧ V.cell? ⟨p + 1, 2, none⟩ = some (.slice B n' d) ∧ V.cell? ⟨p + 1, 3, none⟩ = some (.int .i64 X') ∧ V.cell? ⟨p + 1, 4, none⟩ = some (.int .i64 Y') ∧ V.cell? ⟨p + 1, 5, none⟩ = some (.bool hi') ∧ V.cell? ⟨b1, 0, none⟩ = some (.int .i64 W) ∧ V.cell? ⟨b1, 1, none⟩ = some (.int .i64 H) ∧ V.cell? ⟨b1, 2, none⟩ = some (.slice (some ⟨g1, 0, none⟩) n c1) ∧ V.cell? ⟨b1, 3, none⟩ = some (.int .i64 X) ∧ V.cell? ⟨b1, 4, none⟩ = some (.int .i64 Y) ∧ V.cell? ⟨b1, 5, none⟩ = some (.bool hi) ∧ V.cell? ⟨b2, 0, none⟩ = some (.int .i64 W') ∧ V.cell? ⟨b2, 1, none⟩ = some (.int .i64 H') ∧ V.cell? ⟨b2, 2, none⟩ = some (.slice (some ⟨g2, 0, none⟩) n' c2) ∧ V.cell? ⟨b2, 3, none⟩ = some (.int .i64 X') ∧ V.cell? ⟨b2, 4, none⟩ = some (.int .i64 Y') ∧ V.cell? ⟨b2, 5, none⟩ = some (.bool hi')) (by kernel_rfl) (HC.out w8 HBw8.out) (fun hHeld => ?_)
        obtain ⟨V0, hV0⟩ : ∃ V, V = w8.drew := ⟨_, rfl⟩
        have HBV0 : Hid (Below w5.heap.size w5 V0) := Lib.hid (by rw [hV0]; exact Below.drewN' HBw8.out 1)
        rw [← hV0]
        clear hV0 hHeld a0 a1 a2 a3 a4 a5 b0 b1' b2' b3 b4 b5 x0 x1 x2 x3 x4 x5 y0 y1 y2 y3 y4 y5
        have hHeld := HC.out _ HBV0.out
        refine wpAnyH_take (i := 0) (oi := _) (v := ?vhbx0) rfl (by kernel_rfl) (by kernel_rfl) (by kernel_rfl) (fun _ _ _ h => h) (Or.inl ⟨by rfl, ?hyhbx0⟩) (by assumption) ?resthbx0
        case hyhbx0 => (intro w hSw; (try dsimp only at hSw); (try simp only [List.getElem_toArray, List.getElem_cons_zero, List.getElem_cons_succ]); go_simp; (try with_reducible rfl))
        (try simp only [Act.put, List.setIfInBounds_toArray, List.set_cons_zero, List.set_cons_succ, List.getElem_toArray, List.getElem_cons_zero, List.getElem_cons_succ])
        refine wpAnyH_take (i := 2) (oi := _) (v := ?vhbx2) rfl (by kernel_rfl) (by kernel_rfl) (by kernel_rfl) (fun _ _ _ h => h) (Or.inl ⟨by rfl, ?hyhbx2⟩) (by assumption) ?resthbx2
        case hyhbx2 => (intro w hSw; (try dsimp only at hSw); (try simp only [List.getElem_toArray, List.getElem_cons_zero, List.getElem_cons_succ]); go_simp; (try with_reducible rfl))
        (try simp only [Act.put, List.setIfInBounds_toArray, List.set_cons_zero, List.set_cons_succ, List.getElem_toArray, List.getElem_cons_zero, List.getElem_cons_succ])
        refine wpAnyH_ready (rs := [1]) (by kernel_rfl) (by simp) ?_
        refine AllReadyH.cons (o := _) rfl (fun K hK => ?_) AllReadyH.nil
        (try simp only [List.getElem_toArray, List.getElem_cons_zero, List.getElem_cons_succ])
        go_simp
        refine (HVX.out _ HBV0.out).mono ?_; rintro e V1 ⟨rfl, hb⟩; have HBV1 : Hid (Below w5.heap.size w5 V1) := Lib.hid (HBV0.out.trans (hb.mono HBV0.out.size)); clear hb
        refine hK.out _ _ ?_ (fun hHeld => ?_)
        · exact HC.out _ HBV1.out
        clear hK K
        (try simp only [Act.put, List.setIfInBounds_toArray, List.set_cons_zero, List.set_cons_succ, List.getElem_toArray, List.getElem_cons_zero, List.getElem_cons_succ])
        refine wpAnyH_ready (rs := [3]) (by kernel_rfl) (by simp) ?_
        refine AllReadyH.cons (o := _) rfl (fun K hK => ?_) AllReadyH.nil
        (try simp only [List.getElem_toArray, List.getElem_cons_zero, List.getElem_cons_succ])
        go_simp
        refine (HRA.out _ HBV1.out).mono ?_; rintro e V2 ⟨rfl, hb⟩; have HBV2 : Hid (Below w5.heap.size w5 V2) := Lib.hid (HBV1.out.trans (hb.mono HBV1.out.size)); clear hb
        refine hK.out _ _ ?_ (fun hHeld => ?_)
        · exact HC.out _ HBV2.out
        clear hK K
        (try simp only [Act.put, List.setIfInBounds_toArray, List.set_cons_zero, List.set_cons_succ, List.getElem_toArray, List.getElem_cons_zero, List.getElem_cons_succ])
        refine wpAnyH_take (i := 4) (oi := _) (v := ?vhbx4) rfl (by kernel_rfl) (by kernel_rfl) (by kernel_rfl) (fun _ _ _ h => h) (Or.inl ⟨by rfl, ?hyhbx4⟩) (by assumption) ?resthbx4
        case hyhbx4 => (intro w hSw; (try dsimp only at hSw); (try simp only [List.getElem_toArray, List.getElem_cons_zero, List.getElem_cons_succ]); go_simp; (try with_reducible rfl))
        (try simp only [Act.put, List.setIfInBounds_toArray, List.set_cons_zero, List.set_cons_succ, List.getElem_toArray, List.getElem_cons_zero, List.getElem_cons_succ])
        refine wpAnyH_take (i := 5) (oi := _) (v := ?vhbx5) rfl (by kernel_rfl) (by kernel_rfl) (by kernel_rfl) (fun _ _ _ h => h) (Or.inl ⟨by rfl, ?hyhbx5⟩) (by assumption) ?resthbx5
        case hyhbx5 => (intro w hSw; (try dsimp only at hSw); (try simp only [List.getElem_toArray, List.getElem_cons_zero, List.getElem_cons_succ]); go_simp; (try with_reducible rfl))
        (try simp only [Act.put, List.setIfInBounds_toArray, List.set_cons_zero, List.set_cons_succ, List.getElem_toArray, List.getElem_cons_zero, List.getElem_cons_succ])
        refine wpAnyH_take (i := 6) (oi := _) (v := ?vhbx6) rfl (by kernel_rfl) (by kernel_rfl) (by kernel_rfl) (fun _ _ _ h => h) (Or.inl ⟨by rfl, ?hyhbx6⟩) (by assumption) ?resthbx6
        case hyhbx6 => (intro w hSw; (try dsimp only at hSw); (try simp only [List.getElem_toArray, List.getElem_cons_zero, List.getElem_cons_succ]); go_simp; (try with_reducible rfl))
        (try simp only [Act.put, List.setIfInBounds_toArray, List.set_cons_zero, List.set_cons_succ, List.getElem_toArray, List.getElem_cons_zero, List.getElem_cons_succ])
        refine wpAnyH_take (i := 7) (oi := _) (v := ?vhbx7) rfl (by kernel_rfl) (by kernel_rfl) (by kernel_rfl) (fun _ _ _ h => h) (Or.inl ⟨by rfl, ?hyhbx7⟩) (by assumption) ?resthbx7
        case hyhbx7 => (intro w hSw; (try dsimp only at hSw); (try simp only [List.getElem_toArray, List.getElem_cons_zero, List.getElem_cons_succ]); go_simp; (try with_reducible rfl))
        (try simp only [Act.put, List.setIfInBounds_toArray, List.set_cons_zero, List.set_cons_succ, List.getElem_toArray, List.getElem_cons_zero, List.getElem_cons_succ])
        refine wpAnyH_take (i := 9) (oi := _) (v := ?vhbx9) rfl (by kernel_rfl) (by kernel_rfl) (by kernel_rfl) (fun _ _ _ h => h) (Or.inl ⟨by rfl, ?hyhbx9⟩) (by assumption) ?resthbx9
        case hyhbx9 => (intro w hSw; (try dsimp only at hSw); (try simp only [List.getElem_toArray, List.getElem_cons_zero, List.getElem_cons_succ]); go_simp; (try with_reducible rfl))
        (try simp only [Act.put, List.setIfInBounds_toArray, List.set_cons_zero, List.set_cons_succ, List.getElem_toArray, List.getElem_cons_zero, List.getElem_cons_succ])
        refine wpAnyH_take (i := 10) (oi := _) (v := ?vhbx10) rfl (by kernel_rfl) (by kernel_rfl) (by kernel_rfl) (fun _ _ _ h => h) (Or.inl ⟨by rfl, ?hyhbx10⟩) (by assumption) ?resthbx10
        case hyhbx10 => (intro w hSw; (try dsimp only at hSw); (try simp only [List.getElem_toArray, List.getElem_cons_zero, List.getElem_cons_succ]); go_simp; (try with_reducible rfl))
        (try simp only [Act.put, List.setIfInBounds_toArray, List.set_cons_zero, List.set_cons_succ, List.getElem_toArray, List.getElem_cons_zero, List.getElem_cons_succ])
        refine wpAnyH_ready (rs := [8]) (by kernel_rfl) (by simp) ?_
        refine AllReadyH.cons (o := _) rfl (fun K hK => ?_) AllReadyH.nil
        (try simp only [List.getElem_toArray, List.getElem_cons_zero, List.getElem_cons_succ])
        go_simp
        refine (HSX.out _ HBV2.out).mono ?_; rintro e V3 ⟨rfl, hb⟩; have HBV3 : Hid (Below w5.heap.size w5 V3) := Lib.hid (HBV2.out.trans (hb.mono HBV2.out.size)); clear hb
        refine hK.out _ _ ?_ (fun hHeld => ?_)
        · exact HC.out _ HBV3.out
        clear hK K
        (try simp only [Act.put, List.setIfInBounds_toArray, List.set_cons_zero, List.set_cons_succ, List.getElem_toArray, List.getElem_cons_zero, List.getElem_cons_succ])
        refine wpAnyH_ready (rs := [11]) (by kernel_rfl) (by simp) ?_
        refine AllReadyH.cons (o := _) rfl (fun K hK => ?_) AllReadyH.nil
        (try simp only [List.getElem_toArray, List.getElem_cons_zero, List.getElem_cons_succ])
        go_simp
        refine (HSR.out _ HBV3.out).mono ?_; rintro e V4 ⟨rfl, hb⟩; have HBV4 : Hid (Below w5.heap.size w5 V4) := Lib.hid (HBV3.out.trans (hb.mono HBV3.out.size)); clear hb
        refine hK.out _ _ ?_ (fun hHeld => ?_)
        · exact HC.out _ HBV4.out
        clear hK K
        (try simp only [Act.put, List.setIfInBounds_toArray, List.set_cons_zero, List.set_cons_succ, List.getElem_toArray, List.getElem_cons_zero, List.getElem_cons_succ])
        refine wpAnyH_take (i := 12) (oi := _) (v := ?vhbx12) rfl (by kernel_rfl) (by kernel_rfl) (by kernel_rfl) (fun _ _ _ h => h) (Or.inl ⟨by rfl, ?hyhbx12⟩) (by assumption) ?resthbx12
        case hyhbx12 => (intro w hSw; (try dsimp only at hSw); (try simp only [List.getElem_toArray, List.getElem_cons_zero, List.getElem_cons_succ]); go_simp; (try with_reducible rfl))
        (try simp only [Act.put, List.setIfInBounds_toArray, List.set_cons_zero, List.set_cons_succ, List.getElem_toArray, List.getElem_cons_zero, List.getElem_cons_succ])
        refine wpAnyH_take (i := 13) (oi := _) (v := ?vhbx13) rfl (by kernel_rfl) (by kernel_rfl) (by kernel_rfl) (fun _ _ _ h => h) (Or.inl ⟨by rfl, ?hyhbx13⟩) (by assumption) ?resthbx13
        case hyhbx13 => (intro w hSw; (try dsimp only at hSw); (try simp only [List.getElem_toArray, List.getElem_cons_zero, List.getElem_cons_succ]); go_simp; (try with_reducible rfl))
        (try simp only [Act.put, List.setIfInBounds_toArray, List.set_cons_zero, List.set_cons_succ, List.getElem_toArray, List.getElem_cons_zero, List.getElem_cons_succ])
        refine wpAnyH_take (i := 14) (oi := _) (v := ?vhbx14) rfl (by kernel_rfl) (by kernel_rfl) (by kernel_rfl) (fun _ _ _ h => h) (Or.inl ⟨by rfl, ?hyhbx14⟩) (by assumption) ?resthbx14
        case hyhbx14 => (intro w hSw; (try dsimp only at hSw); (try simp only [List.getElem_toArray, List.getElem_cons_zero, List.getElem_cons_succ]); go_simp; (try with_reducible rfl))
        (try simp only [Act.put, List.setIfInBounds_toArray, List.set_cons_zero, List.set_cons_succ, List.getElem_toArray, List.getElem_cons_zero, List.getElem_cons_succ])
        refine wpAnyH_take (i := 15) (oi := _) (v := ?vhbx15) rfl (by kernel_rfl) (by kernel_rfl) (by kernel_rfl) (fun _ _ _ h => h) (Or.inl ⟨by rfl, ?hyhbx15⟩) (by assumption) ?resthbx15
        case hyhbx15 => (intro w hSw; (try dsimp only at hSw); (try simp only [List.getElem_toArray, List.getElem_cons_zero, List.getElem_cons_succ]); go_simp; (try with_reducible rfl))
        (try simp only [Act.put, List.setIfInBounds_toArray, List.set_cons_zero, List.set_cons_succ, List.getElem_toArray, List.getElem_cons_zero, List.getElem_cons_succ])
        refine wpAnyH_take (i := 16) (oi := _) (v := ?vhbx16) rfl (by kernel_rfl) (by kernel_rfl) (by kernel_rfl) (fun _ _ _ h => h) (Or.inl ⟨by rfl, ?hyhbx16⟩) (by assumption) ?resthbx16
        case hyhbx16 => (intro w hSw; (try dsimp only at hSw); (try simp only [List.getElem_toArray, List.getElem_cons_zero, List.getElem_cons_succ]); go_simp; (try with_reducible rfl))
        (try simp only [Act.put, List.setIfInBounds_toArray, List.set_cons_zero, List.set_cons_succ, List.getElem_toArray, List.getElem_cons_zero, List.getElem_cons_succ])
        refine wpAnyH_ready (rs := [17]) (by kernel_rfl) (by simp) ?_
        refine AllReadyH.cons (o := _) rfl (fun K hK => ?_) AllReadyH.nil
        (try simp only [List.getElem_toArray, List.getElem_cons_zero, List.getElem_cons_succ])
        go_simp
        refine (HSS.out _ HBV4.out).mono ?_; rintro e V5 ⟨rfl, hb⟩; have HBV5 : Hid (Below w5.heap.size w5 V5) := Lib.hid (HBV4.out.trans (hb.mono HBV4.out.size)); clear hb
        refine hK.out _ _ ?_ (fun hHeld => ?_)
        · exact HC.out _ HBV5.out
        clear hK K
        (try simp only [Act.put, List.setIfInBounds_toArray, List.set_cons_zero, List.set_cons_succ, List.getElem_toArray, List.getElem_cons_zero, List.getElem_cons_succ])
        refine wpAnyH_take (i := 18) (oi := _) (v := ?vhbx18) rfl (by kernel_rfl) (by kernel_rfl) (by kernel_rfl) (fun _ _ _ h => h) (Or.inl ⟨by rfl, ?hyhbx18⟩) (by assumption) ?resthbx18
        case hyhbx18 => (intro w hSw; (try dsimp only at hSw); (try simp only [List.getElem_toArray, List.getElem_cons_zero, List.getElem_cons_succ]); go_simp; (try with_reducible rfl))
        (try simp only [Act.put, List.setIfInBounds_toArray, List.set_cons_zero, List.set_cons_succ, List.getElem_toArray, List.getElem_cons_zero, List.getElem_cons_succ])
        refine wpAnyH_take (i := 19) (oi := _) (v := ?vhbx19) rfl (by kernel_rfl) (by kernel_rfl) (by kernel_rfl) (fun _ _ _ h => h) (Or.inl ⟨by rfl, ?hyhbx19⟩) (by assumption) ?resthbx19
        case hyhbx19 => (intro w hSw; (try dsimp only at hSw); (try simp only [List.getElem_toArray, List.getElem_cons_zero, List.getElem_cons_succ]); go_simp; (try with_reducible rfl))
        (try simp only [Act.put, List.setIfInBounds_toArray, List.set_cons_zero, List.set_cons_succ, List.getElem_toArray, List.getElem_cons_zero, List.getElem_cons_succ])
        refine wpAnyH_done (by kernel_rfl) ?_ _
        refine NoPanic.normal ?_
        clear hHeld
        obtain ⟨a0, a1, a2, a3, a4, a5, b0, b1', b2', b3, b4, b5, x0, x1, x2, x3, x4, x5, y0, y1, y2, y3, y4, y5⟩ := HC.out V5 HBV5.out
        obtain ⟨rfl, rfl, rfl⟩ := HDS.out.2 (by simp)
        go_wp2_with fail
        refine (HSZ.out V5 HBV5.out).mono ?_
        rintro e w9 ⟨rfl, hb⟩
        have HBw9 : Hid (Below w5.heap.size w5 w9) := Lib.hid (HBV5.out.trans (hb.mono HBV5.out.size))
        clear hb a0 a1 a2 a3 a4 a5 b0 b1' b2' b3 b4 b5 x0 x1 x2 x3 x4 x5 y0 y1 y2 y3 y4 y5
        go_wp2_with fail
        go_ret
        exact ⟨rfl, HW.out _ HBw9.out⟩
      · obtain rfl : vr = true := by rw [← hvr]; rfl
        go_upto_region 8 with fail
        refine wp_region_noPanic ?_
        refine wp_region_held_drew (S := fun V => V.cell? ⟨p, 0, none⟩ = some (.int .i64 W) ∧ V.cell? ⟨p, 1, none⟩ = some (.int .i64 H) ∧ V.cell? ⟨p, 2, none⟩ = some (.slice A n c) ∧ V.cell? ⟨p, 3, none⟩ = some (.int .i64 X) ∧ V.cell? ⟨p, 4, none⟩ = some (.int .i64 Y) ∧ V.cell? ⟨p, 5, none⟩ = some (.bool hi) ∧ V.cell? ⟨p + 1, 0, none⟩ = some (.int .i64 W') ∧ V.cell? ⟨p + 1, 1, none⟩ = some (.int .i64 H') ∧ V.cell? ⟨p + 1, 2, none⟩ = some (.slice B n' d) ∧ V.cell? ⟨p + 1, 3, none⟩ = some (.int .i64 X') ∧ V.cell? ⟨p + 1, 4, none⟩ = some (.int .i64 Y') ∧ V.cell? ⟨p + 1, 5, none⟩ = some (.bool hi') ∧ V.cell? ⟨b1, 0, none⟩ = some (.int .i64 W) ∧ V.cell? ⟨b1, 1, none⟩ = some (.int .i64 H) ∧ V.cell? ⟨b1, 2, none⟩ = some (.slice (some ⟨g1, 0, none⟩) n c1) ∧ V.cell? ⟨b1, 3, none⟩ = some (.int .i64 X) ∧ V.cell? ⟨b1, 4, none⟩ = some (.int .i64 Y) ∧ V.cell? ⟨b1, 5, none⟩ = some (.bool hi) ∧ V.cell? ⟨b2, 0, none⟩ = some (.int .i64 W') ∧ V.cell? ⟨b2, 1, none⟩ = some (.int .i64 H') ∧ V.cell? ⟨b2, 2, none⟩ = some (.slice (some ⟨g2, 0, none⟩) n' c2) ∧ V.cell? ⟨b2, 3, none⟩ = some (.int .i64 X') ∧ V.cell? ⟨b2, 4, none⟩ = some (.int .i64 Y') ∧ V.cell? ⟨b2, 5, none⟩ = some (.bool hi')) (by kernel_rfl) (HC.out w8 HBw8.out) (fun hHeld => ?_)
        obtain ⟨V0, hV0⟩ : ∃ V, V = w8.drew := ⟨_, rfl⟩
        have HBV0 : Hid (Below w5.heap.size w5 V0) := Lib.hid (by rw [hV0]; exact Below.drewN' HBw8.out 1)
        rw [← hV0]
        clear hV0 hHeld a0 a1 a2 a3 a4 a5 b0 b1' b2' b3 b4 b5 x0 x1 x2 x3 x4 x5 y0 y1 y2 y3 y4 y5
        have hHeld := HC.out _ HBV0.out
        refine wpAnyH_take (i := 0) (oi := _) (v := ?vhcx0) rfl (by kernel_rfl) (by kernel_rfl) (by kernel_rfl) (fun _ _ _ h => h) (Or.inl ⟨by rfl, ?hyhcx0⟩) (by assumption) ?resthcx0
        case hyhcx0 => (intro w hSw; (try dsimp only at hSw); (try simp only [List.getElem_toArray, List.getElem_cons_zero, List.getElem_cons_succ]); go_simp; (try with_reducible rfl))
        (try simp only [Act.put, List.setIfInBounds_toArray, List.set_cons_zero, List.set_cons_succ, List.getElem_toArray, List.getElem_cons_zero, List.getElem_cons_succ])
        refine wpAnyH_take (i := 2) (oi := _) (v := ?vhcx2) rfl (by kernel_rfl) (by kernel_rfl) (by kernel_rfl) (fun _ _ _ h => h) (Or.inl ⟨by rfl, ?hyhcx2⟩) (by assumption) ?resthcx2
        case hyhcx2 => (intro w hSw; (try dsimp only at hSw); (try simp only [List.getElem_toArray, List.getElem_cons_zero, List.getElem_cons_succ]); go_simp; (try with_reducible rfl))
        (try simp only [Act.put, List.setIfInBounds_toArray, List.set_cons_zero, List.set_cons_succ, List.getElem_toArray, List.getElem_cons_zero, List.getElem_cons_succ])
        refine wpAnyH_ready (rs := [1]) (by kernel_rfl) (by simp) ?_
        refine AllReadyH.cons (o := _) rfl (fun K hK => ?_) AllReadyH.nil
        (try simp only [List.getElem_toArray, List.getElem_cons_zero, List.getElem_cons_succ])
        go_simp
        refine (HVX.out _ HBV0.out).mono ?_; rintro e V1 ⟨rfl, hb⟩; have HBV1 : Hid (Below w5.heap.size w5 V1) := Lib.hid (HBV0.out.trans (hb.mono HBV0.out.size)); clear hb
        refine hK.out _ _ ?_ (fun hHeld => ?_)
        · exact HC.out _ HBV1.out
        clear hK K
        (try simp only [Act.put, List.setIfInBounds_toArray, List.set_cons_zero, List.set_cons_succ, List.getElem_toArray, List.getElem_cons_zero, List.getElem_cons_succ])
        refine wpAnyH_ready (rs := [3]) (by kernel_rfl) (by simp) ?_
        refine AllReadyH.cons (o := _) rfl (fun K hK => ?_) AllReadyH.nil
        (try simp only [List.getElem_toArray, List.getElem_cons_zero, List.getElem_cons_succ])
        go_simp
        refine (HRA.out _ HBV1.out).mono ?_; rintro e V2 ⟨rfl, hb⟩; have HBV2 : Hid (Below w5.heap.size w5 V2) := Lib.hid (HBV1.out.trans (hb.mono HBV1.out.size)); clear hb
        refine hK.out _ _ ?_ (fun hHeld => ?_)
        · exact HC.out _ HBV2.out
        clear hK K
        (try simp only [Act.put, List.setIfInBounds_toArray, List.set_cons_zero, List.set_cons_succ, List.getElem_toArray, List.getElem_cons_zero, List.getElem_cons_succ])
        refine wpAnyH_take (i := 4) (oi := _) (v := ?vhcx4) rfl (by kernel_rfl) (by kernel_rfl) (by kernel_rfl) (fun _ _ _ h => h) (Or.inl ⟨by rfl, ?hyhcx4⟩) (by assumption) ?resthcx4
        case hyhcx4 => (intro w hSw; (try dsimp only at hSw); (try simp only [List.getElem_toArray, List.getElem_cons_zero, List.getElem_cons_succ]); go_simp; (try with_reducible rfl))
        (try simp only [Act.put, List.setIfInBounds_toArray, List.set_cons_zero, List.set_cons_succ, List.getElem_toArray, List.getElem_cons_zero, List.getElem_cons_succ])
        refine wpAnyH_take (i := 5) (oi := _) (v := ?vhcx5) rfl (by kernel_rfl) (by kernel_rfl) (by kernel_rfl) (fun _ _ _ h => h) (Or.inl ⟨by rfl, ?hyhcx5⟩) (by assumption) ?resthcx5
        case hyhcx5 => (intro w hSw; (try dsimp only at hSw); (try simp only [List.getElem_toArray, List.getElem_cons_zero, List.getElem_cons_succ]); go_simp; (try with_reducible rfl))
        (try simp only [Act.put, List.setIfInBounds_toArray, List.set_cons_zero, List.set_cons_succ, List.getElem_toArray, List.getElem_cons_zero, List.getElem_cons_succ])
        refine wpAnyH_take (i := 6) (oi := _) (v := ?vhcx6) rfl (by kernel_rfl) (by kernel_rfl) (by kernel_rfl) (fun _ _ _ h => h) (Or.inl ⟨by rfl, ?hyhcx6⟩) (by assumption) ?resthcx6
        case hyhcx6 => (intro w hSw; (try dsimp only at hSw); (try simp only [List.getElem_toArray, List.getElem_cons_zero, List.getElem_cons_succ]); go_simp; (try with_reducible rfl))
        (try simp only [Act.put, List.setIfInBounds_toArray, List.set_cons_zero, List.set_cons_succ, List.getElem_toArray, List.getElem_cons_zero, List.getElem_cons_succ])
        refine wpAnyH_take (i := 7) (oi := _) (v := ?vhcx7) rfl (by kernel_rfl) (by kernel_rfl) (by kernel_rfl) (fun _ _ _ h => h) (Or.inl ⟨by rfl, ?hyhcx7⟩) (by assumption) ?resthcx7
        case hyhcx7 => (intro w hSw; (try dsimp only at hSw); (try simp only [List.getElem_toArray, List.getElem_cons_zero, List.getElem_cons_succ]); go_simp; (try with_reducible rfl))
        (try simp only [Act.put, List.setIfInBounds_toArray, List.set_cons_zero, List.set_cons_succ, List.getElem_toArray, List.getElem_cons_zero, List.getElem_cons_succ])
        refine wpAnyH_take (i := 9) (oi := _) (v := ?vhcx9) rfl (by kernel_rfl) (by kernel_rfl) (by kernel_rfl) (fun _ _ _ h => h) (Or.inl ⟨by rfl, ?hyhcx9⟩) (by assumption) ?resthcx9
        case hyhcx9 => (intro w hSw; (try dsimp only at hSw); (try simp only [List.getElem_toArray, List.getElem_cons_zero, List.getElem_cons_succ]); go_simp; (try with_reducible rfl))
        (try simp only [Act.put, List.setIfInBounds_toArray, List.set_cons_zero, List.set_cons_succ, List.getElem_toArray, List.getElem_cons_zero, List.getElem_cons_succ])
        refine wpAnyH_take (i := 10) (oi := _) (v := ?vhcx10) rfl (by kernel_rfl) (by kernel_rfl) (by kernel_rfl) (fun _ _ _ h => h) (Or.inl ⟨by rfl, ?hyhcx10⟩) (by assumption) ?resthcx10
        case hyhcx10 => (intro w hSw; (try dsimp only at hSw); (try simp only [List.getElem_toArray, List.getElem_cons_zero, List.getElem_cons_succ]); go_simp; (try with_reducible rfl))
        (try simp only [Act.put, List.setIfInBounds_toArray, List.set_cons_zero, List.set_cons_succ, List.getElem_toArray, List.getElem_cons_zero, List.getElem_cons_succ])
        refine wpAnyH_ready (rs := [8]) (by kernel_rfl) (by simp) ?_
        refine AllReadyH.cons (o := _) rfl (fun K hK => ?_) AllReadyH.nil
        (try simp only [List.getElem_toArray, List.getElem_cons_zero, List.getElem_cons_succ])
        go_simp
        refine (HSX.out _ HBV2.out).mono ?_; rintro e V3 ⟨rfl, hb⟩; have HBV3 : Hid (Below w5.heap.size w5 V3) := Lib.hid (HBV2.out.trans (hb.mono HBV2.out.size)); clear hb
        refine hK.out _ _ ?_ (fun hHeld => ?_)
        · exact HC.out _ HBV3.out
        clear hK K
        (try simp only [Act.put, List.setIfInBounds_toArray, List.set_cons_zero, List.set_cons_succ, List.getElem_toArray, List.getElem_cons_zero, List.getElem_cons_succ])
        refine wpAnyH_ready (rs := [11]) (by kernel_rfl) (by simp) ?_
        refine AllReadyH.cons (o := _) rfl (fun K hK => ?_) AllReadyH.nil
        (try simp only [List.getElem_toArray, List.getElem_cons_zero, List.getElem_cons_succ])
        go_simp
        refine (HSR.out _ HBV3.out).mono ?_; rintro e V4 ⟨rfl, hb⟩; have HBV4 : Hid (Below w5.heap.size w5 V4) := Lib.hid (HBV3.out.trans (hb.mono HBV3.out.size)); clear hb
        refine hK.out _ _ ?_ (fun hHeld => ?_)
        · exact HC.out _ HBV4.out
        clear hK K
        (try simp only [Act.put, List.setIfInBounds_toArray, List.set_cons_zero, List.set_cons_succ, List.getElem_toArray, List.getElem_cons_zero, List.getElem_cons_succ])
        refine wpAnyH_take (i := 12) (oi := _) (v := ?vhcx12) rfl (by kernel_rfl) (by kernel_rfl) (by kernel_rfl) (fun _ _ _ h => h) (Or.inl ⟨by rfl, ?hyhcx12⟩) (by assumption) ?resthcx12
        case hyhcx12 => (intro w hSw; (try dsimp only at hSw); (try simp only [List.getElem_toArray, List.getElem_cons_zero, List.getElem_cons_succ]); go_simp; (try with_reducible rfl))
        (try simp only [Act.put, List.setIfInBounds_toArray, List.set_cons_zero, List.set_cons_succ, List.getElem_toArray, List.getElem_cons_zero, List.getElem_cons_succ])
        refine wpAnyH_take (i := 13) (oi := _) (v := ?vhcx13) rfl (by kernel_rfl) (by kernel_rfl) (by kernel_rfl) (fun _ _ _ h => h) (Or.inl ⟨by rfl, ?hyhcx13⟩) (by assumption) ?resthcx13
        case hyhcx13 => (intro w hSw; (try dsimp only at hSw); (try simp only [List.getElem_toArray, List.getElem_cons_zero, List.getElem_cons_succ]); go_simp; (try with_reducible rfl))
        (try simp only [Act.put, List.setIfInBounds_toArray, List.set_cons_zero, List.set_cons_succ, List.getElem_toArray, List.getElem_cons_zero, List.getElem_cons_succ])
        refine wpAnyH_take (i := 14) (oi := _) (v := ?vhcx14) rfl (by kernel_rfl) (by kernel_rfl) (by kernel_rfl) (fun _ _ _ h => h) (Or.inl ⟨by rfl, ?hyhcx14⟩) (by assumption) ?resthcx14
        case hyhcx14 => (intro w hSw; (try dsimp only at hSw); (try simp only [List.getElem_toArray, List.getElem_cons_zero, List.getElem_cons_succ]); go_simp; (try with_reducible rfl))
        (try simp only [Act.put, List.setIfInBounds_toArray, List.set_cons_zero, List.set_cons_succ, List.getElem_toArray, List.getElem_cons_zero, List.getElem_cons_succ])
        refine wpAnyH_take (i := 15) (oi := _) (v := ?vhcx15) rfl (by kernel_rfl) (by kernel_rfl) (by kernel_rfl) (fun _ _ _ h => h) (Or.inl ⟨by rfl, ?hyhcx15⟩) (by assumption) ?resthcx15
        case hyhcx15 => (intro w hSw; (try dsimp only at hSw); (try simp only [List.getElem_toArray, List.getElem_cons_zero, List.getElem_cons_succ]); go_simp; (try with_reducible rfl))
        (try simp only [Act.put, List.setIfInBounds_toArray, List.set_cons_zero, List.set_cons_succ, List.getElem_toArray, List.getElem_cons_zero, List.getElem_cons_succ])
        refine wpAnyH_take (i := 16) (oi := _) (v := ?vhcx16) rfl (by kernel_rfl) (by kernel_rfl) (by kernel_rfl) (fun _ _ _ h => h) (Or.inl ⟨by rfl, ?hyhcx16⟩) (by assumption) ?resthcx16
        case hyhcx16 => (intro w hSw; (try dsimp only at hSw); (try simp only [List.getElem_toArray, List.getElem_cons_zero, List.getElem_cons_succ]); go_simp; (try with_reducible rfl))
        (try simp only [Act.put, List.setIfInBounds_toArray, List.set_cons_zero, List.set_cons_succ, List.getElem_toArray, List.getElem_cons_zero, List.getElem_cons_succ])
        refine wpAnyH_ready (rs := [17]) (by kernel_rfl) (by simp) ?_
        refine AllReadyH.cons (o := _) rfl (fun K hK => ?_) AllReadyH.nil
        (try simp only [List.getElem_toArray, List.getElem_cons_zero, List.getElem_cons_succ])
        go_simp
        refine (HSS.out _ HBV4.out).mono ?_; rintro e V5 ⟨rfl, hb⟩; have HBV5 : Hid (Below w5.heap.size w5 V5) := Lib.hid (HBV4.out.trans (hb.mono HBV4.out.size)); clear hb
        refine hK.out _ _ ?_ (fun hHeld => ?_)
        · exact HC.out _ HBV5.out
        clear hK K
        (try simp only [Act.put, List.setIfInBounds_toArray, List.set_cons_zero, List.set_cons_succ, List.getElem_toArray, List.getElem_cons_zero, List.getElem_cons_succ])
        refine wpAnyH_take (i := 18) (oi := _) (v := ?vhcx18) rfl (by kernel_rfl) (by kernel_rfl) (by kernel_rfl) (fun _ _ _ h => h) (Or.inl ⟨by rfl, ?hyhcx18⟩) (by assumption) ?resthcx18
        case hyhcx18 => (intro w hSw; (try dsimp only at hSw); (try simp only [List.getElem_toArray, List.getElem_cons_zero, List.getElem_cons_succ]); go_simp; (try with_reducible rfl))
        (try simp only [Act.put, List.setIfInBounds_toArray, List.set_cons_zero, List.set_cons_succ, List.getElem_toArray, List.getElem_cons_zero, List.getElem_cons_succ])
        refine wpAnyH_take (i := 19) (oi := _) (v := ?vhcx19) rfl (by kernel_rfl) (by kernel_rfl) (by kernel_rfl) (fun _ _ _ h => h) (Or.inl ⟨by rfl, ?hyhcx19⟩) (by assumption) ?resthcx19
        case hyhcx19 => (intro w hSw; (try dsimp only at hSw); (try simp only [List.getElem_toArray, List.getElem_cons_zero, List.getElem_cons_succ]); go_simp; (try with_reducible rfl))
        (try simp only [Act.put, List.setIfInBounds_toArray, List.set_cons_zero, List.set_cons_succ, List.getElem_toArray, List.getElem_cons_zero, List.getElem_cons_succ])
        refine wpAnyH_done (by kernel_rfl) ?_ _
        refine NoPanic.normal ?_
        clear hHeld
        obtain ⟨a0, a1, a2, a3, a4, a5, b0, b1', b2', b3, b4, b5, x0, x1, x2, x3, x4, x5, y0, y1, y2, y3, y4, y5⟩ := HC.out V5 HBV5.out
        obtain rfl := HDS.out.1 (by simp)
        have HDR := Lib.hid (HDR.out (by simp))
        have HRZ := Lib.hid (HRZ.out (by simp))
        have hdd : (DS.toList == DS.toList) = true := by simp
        have hcc : ((cnt : Int) == (cnt : Int)) = true := by simp
        go_upto_region 12 with fail
        refine wp_region_noPanic ?_
        refine wp_region_held_drew (S := fun V => V.cell? ⟨p, 0, none⟩ = some (.int .i64 W) ∧ V.cell? ⟨p, 1, none⟩ = some (.int .i64 H) ∧ V.cell? ⟨p, 2, none⟩ = some (.slice A n c) ∧ V.cell? ⟨p, 3, none⟩ = some (.int .i64 X) ∧ V.cell? ⟨p, 4, none⟩ = some (.int .i64 Y) ∧ V.cell? ⟨p, 5, none⟩ = some (.bool hi) ∧ V.cell? ⟨p + 1, 0, none⟩ = some (.int .i64 W') ∧ V.cell? ⟨p + 1, 1, none⟩ = some (.int .i64 H') ∧ V.cell? ⟨p + 1, 2, none⟩ = some (.slice B n' d) ∧ V.cell? ⟨p + 1, 3, none⟩ = some (.int .i64 X') ∧ V.cell? ⟨p + 1, 4, none⟩ = some (.int .i64 Y') ∧ V.cell? ⟨p + 1, 5, none⟩ = some (.bool hi') ∧ V.cell? ⟨b1, 0, none⟩ = some (.int .i64 W) ∧ V.cell? ⟨b1, 1, none⟩ = some (.int .i64 H) ∧ V.cell? ⟨b1, 2, none⟩ = some (.slice (some ⟨g1, 0, none⟩) n c1) ∧ V.cell? ⟨b1, 3, none⟩ = some (.int .i64 X) ∧ V.cell? ⟨b1, 4, none⟩ = some (.int .i64 Y) ∧ V.cell? ⟨b1, 5, none⟩ = some (.bool hi) ∧ V.cell? ⟨b2, 0, none⟩ = some (.int .i64 W') ∧ V.cell? ⟨b2, 1, none⟩ = some (.int .i64 H') ∧ V.cell? ⟨b2, 2, none⟩ = some (.slice (some ⟨g2, 0, none⟩) n' c2) ∧ V.cell? ⟨b2, 3, none⟩ = some (.int .i64 X') ∧ V.cell? ⟨b2, 4, none⟩ = some (.int .i64 Y') ∧ V.cell? ⟨b2, 5, none⟩ = some (.bool hi')) (by kernel_rfl) (HC.out V5 HBV5.out) (fun hHeld => ?_)
        obtain ⟨U0, hV0⟩ : ∃ V, V = V5.drew := ⟨_, rfl⟩
        have HBU0 : Hid (Below w5.heap.size w5 U0) := Lib.hid (by rw [hV0]; exact Below.drewN' HBV5.out 1)
        rw [← hV0]
        clear hV0 hHeld a0 a1 a2 a3 a4 a5 b0 b1' b2' b3 b4 b5 x0 x1 x2 x3 x4 x5 y0 y1 y2 y3 y4 y5
        have hHeld := HC.out _ HBU0.out
        refine wpAnyH_take (i := 0) (oi := _) (v := ?vk0) rfl (by kernel_rfl) (by kernel_rfl) (by kernel_rfl) (fun _ _ _ h => h) (Or.inl ⟨by rfl, ?hyk0⟩) (by assumption) ?restk0
        case hyk0 => (intro w hSw; (try dsimp only at hSw); (try simp only [List.getElem_toArray, List.getElem_cons_zero, List.getElem_cons_succ]); go_simp; (try with_reducible rfl))
        (try simp only [Act.put, List.setIfInBounds_toArray, List.set_cons_zero, List.set_cons_succ, List.getElem_toArray, List.getElem_cons_zero, List.getElem_cons_succ])
        refine wpAnyH_take (i := 1) (oi := _) (v := ?vk1) rfl (by kernel_rfl) (by kernel_rfl) (by kernel_rfl) (fun _ _ _ h => h) (Or.inl ⟨by rfl, ?hyk1⟩) (by assumption) ?restk1
        case hyk1 => (intro w hSw; (try dsimp only at hSw); (try simp only [List.getElem_toArray, List.getElem_cons_zero, List.getElem_cons_succ]); go_simp; (try with_reducible rfl))
        (try simp only [Act.put, List.setIfInBounds_toArray, List.set_cons_zero, List.set_cons_succ, List.getElem_toArray, List.getElem_cons_zero, List.getElem_cons_succ])
        refine wpAnyH_take (i := 2) (oi := _) (v := ?vk2) rfl (by kernel_rfl) (by kernel_rfl) (by kernel_rfl) (fun _ _ _ h => h) (Or.inl ⟨by rfl, ?hyk2⟩) (by assumption) ?restk2
        case hyk2 => (intro w hSw; (try dsimp only at hSw); (try simp only [List.getElem_toArray, List.getElem_cons_zero, List.getElem_cons_succ]); go_simp; (try with_reducible rfl))
        (try simp only [Act.put, List.setIfInBounds_toArray, List.set_cons_zero, List.set_cons_succ, List.getElem_toArray, List.getElem_cons_zero, List.getElem_cons_succ])
        refine wpAnyH_take (i := 3) (oi := _) (v := ?vk3) rfl (by kernel_rfl) (by kernel_rfl) (by kernel_rfl) (fun _ _ _ h => h) (Or.inl ⟨by rfl, ?hyk3⟩) (by assumption) ?restk3
        case hyk3 => (intro w hSw; (try dsimp only at hSw); (try simp only [List.getElem_toArray, List.getElem_cons_zero, List.getElem_cons_succ]); go_simp; (try with_reducible rfl))
        (try simp only [Act.put, List.setIfInBounds_toArray, List.set_cons_zero, List.set_cons_succ, List.getElem_toArray, List.getElem_cons_zero, List.getElem_cons_succ])
        refine wpAnyH_take (i := 4) (oi := _) (v := ?vk4) rfl (by kernel_rfl) (by kernel_rfl) (by kernel_rfl) (fun _ _ _ h => h) (Or.inl ⟨by rfl, ?hyk4⟩) (by assumption) ?restk4
        case hyk4 => (intro w hSw; (try dsimp only at hSw); (try simp only [List.getElem_toArray, List.getElem_cons_zero, List.getElem_cons_succ]); go_simp; (try with_reducible rfl))
        (try simp only [Act.put, List.setIfInBounds_toArray, List.set_cons_zero, List.set_cons_succ, List.getElem_toArray, List.getElem_cons_zero, List.getElem_cons_succ])
        refine wpAnyH_take (i := 5) (oi := _) (v := ?vk5) rfl (by kernel_rfl) (by kernel_rfl) (by kernel_rfl) (fun _ _ _ h => h) (Or.inl ⟨by rfl, ?hyk5⟩) (by assumption) ?restk5
        case hyk5 => (intro w hSw; (try dsimp only at hSw); (try simp only [List.getElem_toArray, List.getElem_cons_zero, List.getElem_cons_succ]); go_simp; (try with_reducible rfl))
        (try simp only [Act.put, List.setIfInBounds_toArray, List.set_cons_zero, List.set_cons_succ, List.getElem_toArray, List.getElem_cons_zero, List.getElem_cons_succ])
        refine wpAnyH_ready (rs := [6]) (by kernel_rfl) (by simp) ?_
        refine AllReadyH.cons (o := _) rfl (fun K hK => ?_) AllReadyH.nil
        (try simp only [List.getElem_toArray, List.getElem_cons_zero, List.getElem_cons_succ])
        go_simp
        refine (HDR.out _ HBU0.out).mono ?_; rintro e U1 ⟨rfl, hb⟩; have HBU1 : Hid (Below w5.heap.size w5 U1) := Lib.hid (HBU0.out.trans (hb.mono HBU0.out.size)); clear hb
        refine hK.out _ _ ?_ (fun hHeld => ?_)
        · exact HC.out _ HBU1.out
        clear hK K
        (try simp only [Act.put, List.setIfInBounds_toArray, List.set_cons_zero, List.set_cons_succ, List.getElem_toArray, List.getElem_cons_zero, List.getElem_cons_succ])
        refine wpAnyH_take (i := 7) (oi := _) (v := ?vk7) rfl (by kernel_rfl) (by kernel_rfl) (by kernel_rfl) (fun _ _ _ h => h) (Or.inl ⟨by rfl, ?hyk7⟩) (by assumption) ?restk7
        case hyk7 => (intro w hSw; (try dsimp only at hSw); (try simp only [List.getElem_toArray, List.getElem_cons_zero, List.getElem_cons_succ]); go_simp; (try with_reducible rfl))
        (try simp only [Act.put, List.setIfInBounds_toArray, List.set_cons_zero, List.set_cons_succ, List.getElem_toArray, List.getElem_cons_zero, List.getElem_cons_succ])
        refine wpAnyH_take (i := 8) (oi := _) (v := ?vk8) rfl (by kernel_rfl) (by kernel_rfl) (by kernel_rfl) (fun _ _ _ h => h) (Or.inl ⟨by rfl, ?hyk8⟩) (by assumption) ?restk8
        case hyk8 => (intro w hSw; (try dsimp only at hSw); (try simp only [List.getElem_toArray, List.getElem_cons_zero, List.getElem_cons_succ]); go_simp; (try with_reducible rfl))
        (try simp only [Act.put, List.setIfInBounds_toArray, List.set_cons_zero, List.set_cons_succ, List.getElem_toArray, List.getElem_cons_zero, List.getElem_cons_succ])
        refine wpAnyH_take (i := 9) (oi := _) (v := ?vk9) rfl (by kernel_rfl) (by kernel_rfl) (by kernel_rfl) (fun _ _ _ h => h) (Or.inl ⟨by rfl, ?hyk9⟩) (by assumption) ?restk9
        case hyk9 => (intro w hSw; (try dsimp only at hSw); (try simp only [List.getElem_toArray, List.getElem_cons_zero, List.getElem_cons_succ]); go_simp; (try with_reducible rfl))
        (try simp only [Act.put, List.setIfInBounds_toArray, List.set_cons_zero, List.set_cons_succ, List.getElem_toArray, List.getElem_cons_zero, List.getElem_cons_succ])
        refine wpAnyH_take (i := 10) (oi := _) (v := ?vk10) rfl (by kernel_rfl) (by kernel_rfl) (by kernel_rfl) (fun _ _ _ h => h) (Or.inl ⟨by rfl, ?hyk10⟩) (by assumption) ?restk10
        case hyk10 => (intro w hSw; (try dsimp only at hSw); (try simp only [List.getElem_toArray, List.getElem_cons_zero, List.getElem_cons_succ]); go_simp; (try with_reducible rfl))
        (try simp only [Act.put, List.setIfInBounds_toArray, List.set_cons_zero, List.set_cons_succ, List.getElem_toArray, List.getElem_cons_zero, List.getElem_cons_succ])
        refine wpAnyH_take (i := 11) (oi := _) (v := ?vk11) rfl (by kernel_rfl) (by kernel_rfl) (by kernel_rfl) (fun _ _ _ h => h) (Or.inl ⟨by rfl, ?hyk11⟩) (by assumption) ?restk11
        case hyk11 => (intro w hSw; (try dsimp only at hSw); (try simp only [List.getElem_toArray, List.getElem_cons_zero, List.getElem_cons_succ]); go_simp; (try with_reducible rfl))
        (try simp only [Act.put, List.setIfInBounds_toArray, List.set_cons_zero, List.set_cons_succ, List.getElem_toArray, List.getElem_cons_zero, List.getElem_cons_succ])
        refine wpAnyH_take (i := 13) (oi := _) (v := ?vk13) rfl (by kernel_rfl) (by kernel_rfl) (by kernel_rfl) (fun _ _ _ h => h) (Or.inl ⟨by rfl, ?hyk13⟩) (by assumption) ?restk13
        case hyk13 => (intro w hSw; (try dsimp only at hSw); (try simp only [List.getElem_toArray, List.getElem_cons_zero, List.getElem_cons_succ]); go_simp; (try with_reducible rfl))
        (try simp only [Act.put, List.setIfInBounds_toArray, List.set_cons_zero, List.set_cons_succ, List.getElem_toArray, List.getElem_cons_zero, List.getElem_cons_succ])
        refine wpAnyH_take (i := 14) (oi := _) (v := ?vk14) rfl (by kernel_rfl) (by kernel_rfl) (by kernel_rfl) (fun _ _ _ h => h) (Or.inl ⟨by rfl, ?hyk14⟩) (by assumption) ?restk14
        case hyk14 => (intro w hSw; (try dsimp only at hSw); (try simp only [List.getElem_toArray, List.getElem_cons_zero, List.getElem_cons_succ]); go_simp; (try with_reducible rfl))
        (try simp only [Act.put, List.setIfInBounds_toArray, List.set_cons_zero, List.set_cons_succ, List.getElem_toArray, List.getElem_cons_zero, List.getElem_cons_succ])
        refine wpAnyH_ready (rs := [12]) (by kernel_rfl) (by simp) ?_
        refine AllReadyH.cons (o := _) rfl (fun K hK => ?_) AllReadyH.nil
        (try simp only [List.getElem_toArray, List.getElem_cons_zero, List.getElem_cons_succ])
        go_simp
        refine (HSZ.out _ HBU1.out).mono ?_; rintro e U2 ⟨rfl, hb⟩; have HBU2 : Hid (Below w5.heap.size w5 U2) := Lib.hid (HBU1.out.trans (hb.mono HBU1.out.size)); clear hb
        refine hK.out _ _ ?_ (fun hHeld => ?_)
        · exact HC.out _ HBU2.out
        clear hK K
        (try simp only [Act.put, List.setIfInBounds_toArray, List.set_cons_zero, List.set_cons_succ, List.getElem_toArray, List.getElem_cons_zero, List.getElem_cons_succ])
        refine wpAnyH_ready (rs := [15]) (by kernel_rfl) (by simp) ?_
        refine AllReadyH.cons (o := _) rfl (fun K hK => ?_) AllReadyH.nil
        (try simp only [List.getElem_toArray, List.getElem_cons_zero, List.getElem_cons_succ])
        go_simp
        refine (HRZ.out _ HBU2.out).mono ?_; rintro e U3 ⟨rfl, hb⟩; have HBU3 : Hid (Below w5.heap.size w5 U3) := Lib.hid (HBU2.out.trans (hb.mono HBU2.out.size)); clear hb
        refine hK.out _ _ ?_ (fun hHeld => ?_)
        · exact HC.out _ HBU3.out
        clear hK K
        (try simp only [Act.put, List.setIfInBounds_toArray, List.set_cons_zero, List.set_cons_succ, List.getElem_toArray, List.getElem_cons_zero, List.getElem_cons_succ])
        refine wpAnyH_take (i := 16) (oi := _) (v := ?vk16) rfl (by kernel_rfl) (by kernel_rfl) (by kernel_rfl) (fun _ _ _ h => h) (Or.inl ⟨by rfl, ?hyk16⟩) (by assumption) ?restk16
        case hyk16 => (intro w hSw; (try dsimp only at hSw); (try simp only [List.getElem_toArray, List.getElem_cons_zero, List.getElem_cons_succ]); go_simp; (try with_reducible rfl))
        (try simp only [Act.put, List.setIfInBounds_toArray, List.set_cons_zero, List.set_cons_succ, List.getElem_toArray, List.getElem_cons_zero, List.getElem_cons_succ])
        refine wpAnyH_take (i := 17) (oi := _) (v := ?vk17) rfl (by kernel_rfl) (by kernel_rfl) (by kernel_rfl) (fun _ _ _ h => h) (Or.inl ⟨by rfl, ?hyk17⟩) (by assumption) ?restk17
        case hyk17 => (intro w hSw; (try dsimp only at hSw); (try simp only [List.getElem_toArray, List.getElem_cons_zero, List.getElem_cons_succ]); go_simp; (try with_reducible rfl))
        (try simp only [Act.put, List.setIfInBounds_toArray, List.set_cons_zero, List.set_cons_succ, List.getElem_toArray, List.getElem_cons_zero, List.getElem_cons_succ])
        refine wpAnyH_take (i := 18) (oi := _) (v := ?vk18) rfl (by kernel_rfl) (by kernel_rfl) (by kernel_rfl) (fun _ _ _ h => h) (Or.inl ⟨by rfl, ?hyk18⟩) (by assumption) ?restk18
        case hyk18 => (intro w hSw; (try dsimp only at hSw); (try simp only [List.getElem_toArray, List.getElem_cons_zero, List.getElem_cons_succ]); go_simp; (try with_reducible rfl))
        (try simp only [Act.put, List.setIfInBounds_toArray, List.set_cons_zero, List.set_cons_succ, List.getElem_toArray, List.getElem_cons_zero, List.getElem_cons_succ])
        refine wpAnyH_take (i := 19) (oi := _) (v := ?vk19) rfl (by kernel_rfl) (by kernel_rfl) (by kernel_rfl) (fun _ _ _ h => h) (Or.inl ⟨by rfl, ?hyk19⟩) (by assumption) ?restk19
        case hyk19 => (intro w hSw; (try dsimp only at hSw); (try simp only [List.getElem_toArray, List.getElem_cons_zero, List.getElem_cons_succ]); go_simp; (try with_reducible rfl))
        (try simp only [Act.put, List.setIfInBounds_toArray, List.set_cons_zero, List.set_cons_succ, List.getElem_toArray, List.getElem_cons_zero, List.getElem_cons_succ])
        refine wpAnyH_take (i := 20) (oi := _) (v := ?vk20) rfl (by kernel_rfl) (by kernel_rfl) (by kernel_rfl) (fun _ _ _ h => h) (Or.inl ⟨by rfl, ?hyk20⟩) (by assumption) ?restk20
        case hyk20 => (intro w hSw; (try dsimp only at hSw); (try simp only [List.getElem_toArray, List.getElem_cons_zero, List.getElem_cons_succ]); go_simp; (try with_reducible rfl))
        (try simp only [Act.put, List.setIfInBounds_toArray, List.set_cons_zero, List.set_cons_succ, List.getElem_toArray, List.getElem_cons_zero, List.getElem_cons_succ])
        refine wpAnyH_take (i := 21) (oi := _) (v := ?vk21) rfl (by kernel_rfl) (by kernel_rfl) (by kernel_rfl) (fun _ _ _ h => h) (Or.inl ⟨by rfl, ?hyk21⟩) (by assumption) ?restk21
        case hyk21 => (intro w hSw; (try dsimp only at hSw); (try simp only [List.getElem_toArray, List.getElem_cons_zero, List.getElem_cons_succ]); go_simp; (try with_reducible rfl))
        (try simp only [Act.put, List.setIfInBounds_toArray, List.set_cons_zero, List.set_cons_succ, List.getElem_toArray, List.getElem_cons_zero, List.getElem_cons_succ])
        refine wpAnyH_ready (rs := [22]) (by kernel_rfl) (by simp) ?_
        refine AllReadyH.cons (o := _) rfl (fun K hK => ?_) AllReadyH.nil
        (try simp only [List.getElem_toArray, List.getElem_cons_zero, List.getElem_cons_succ])
        go_simp
        refine (HT1.out _ HBU3.out).mono ?_; rintro e U4 ⟨rfl, hb⟩; have HBU4 : Hid (Below w5.heap.size w5 U4) := Lib.hid (HBU3.out.trans (hb.mono HBU3.out.size)); clear hb
        refine hK.out _ _ ?_ (fun hHeld => ?_)
        · exact HC.out _ HBU4.out
        clear hK K
        (try simp only [Act.put, List.setIfInBounds_toArray, List.set_cons_zero, List.set_cons_succ, List.getElem_toArray, List.getElem_cons_zero, List.getElem_cons_succ])
        refine wpAnyH_take (i := 23) (oi := _) (v := ?vk23) rfl (by kernel_rfl) (by kernel_rfl) (by kernel_rfl) (fun _ _ _ h => h) (Or.inl ⟨by rfl, ?hyk23⟩) (by assumption) ?restk23
        case hyk23 => (intro w hSw; (try dsimp only at hSw); (try simp only [List.getElem_toArray, List.getElem_cons_zero, List.getElem_cons_succ]); go_simp; (try with_reducible rfl))
        (try simp only [Act.put, List.setIfInBounds_toArray, List.set_cons_zero, List.set_cons_succ, List.getElem_toArray, List.getElem_cons_zero, List.getElem_cons_succ])
        refine wpAnyH_take (i := 24) (oi := _) (v := ?vk24) rfl (by kernel_rfl) (by kernel_rfl) (by kernel_rfl) (fun _ _ _ h => h) (Or.inl ⟨by rfl, ?hyk24⟩) (by assumption) ?restk24
        case hyk24 => (intro w hSw; (try dsimp only at hSw); (try simp only [List.getElem_toArray, List.getElem_cons_zero, List.getElem_cons_succ]); go_simp; (try with_reducible rfl))
        (try simp only [Act.put, List.setIfInBounds_toArray, List.set_cons_zero, List.set_cons_succ, List.getElem_toArray, List.getElem_cons_zero, List.getElem_cons_succ])
        refine wpAnyH_take (i := 25) (oi := _) (v := ?vk25) rfl (by kernel_rfl) (by kernel_rfl) (by kernel_rfl) (fun _ _ _ h => h) (Or.inl ⟨by rfl, ?hyk25⟩) (by assumption) ?restk25
        case hyk25 => (intro w hSw; (try dsimp only at hSw); (try simp only [List.getElem_toArray, List.getElem_cons_zero, List.getElem_cons_succ]); go_simp; (try with_reducible rfl))
        (try simp only [Act.put, List.setIfInBounds_toArray, List.set_cons_zero, List.set_cons_succ, List.getElem_toArray, List.getElem_cons_zero, List.getElem_cons_succ])
        refine wpAnyH_take (i := 26) (oi := _) (v := ?vk26) rfl (by kernel_rfl) (by kernel_rfl) (by kernel_rfl) (fun _ _ _ h => h) (Or.inl ⟨by rfl, ?hyk26⟩) (by assumption) ?restk26
        case hyk26 => (intro w hSw; (try dsimp only at hSw); (try simp only [List.getElem_toArray, List.getElem_cons_zero, List.getElem_cons_succ]); go_simp; (try with_reducible rfl))
        (try simp only [Act.put, List.setIfInBounds_toArray, List.set_cons_zero, List.set_cons_succ, List.getElem_toArray, List.getElem_cons_zero, List.getElem_cons_succ])
        refine wpAnyH_take (i := 27) (oi := _) (v := ?vk27) rfl (by kernel_rfl) (by kernel_rfl) (by kernel_rfl) (fun _ _ _ h => h) (Or.inl ⟨by rfl, ?hyk27⟩) (by assumption) ?restk27
        case hyk27 => (intro w hSw; (try dsimp only at hSw); (try simp only [List.getElem_toArray, List.getElem_cons_zero, List.getElem_cons_succ]); go_simp; (try with_reducible rfl))
        (try simp only [Act.put, List.setIfInBounds_toArray, List.set_cons_zero, List.set_cons_succ, List.getElem_toArray, List.getElem_cons_zero, List.getElem_cons_succ])
        refine wpAnyH_ready (rs := [28]) (by kernel_rfl) (by simp) ?_
        refine AllReadyH.cons (o := _) rfl (fun K hK => ?_) AllReadyH.nil
        (try simp only [List.getElem_toArray, List.getElem_cons_zero, List.getElem_cons_succ])
        go_simp
        refine (HT2.out _ HBU4.out).mono ?_; rintro e U5 ⟨rfl, hb⟩; have HBU5 : Hid (Below w5.heap.size w5 U5) := Lib.hid (HBU4.out.trans (hb.mono HBU4.out.size)); clear hb
        refine hK.out _ _ ?_ (fun hHeld => ?_)
        · exact HC.out _ HBU5.out
        clear hK K
        (try simp only [Act.put, List.setIfInBounds_toArray, List.set_cons_zero, List.set_cons_succ, List.getElem_toArray, List.getElem_cons_zero, List.getElem_cons_succ])
        refine wpAnyH_take (i := 29) (oi := _) (v := ?vk29) rfl (by kernel_rfl) (by kernel_rfl) (by kernel_rfl) (fun _ _ _ h => h) (Or.inl ⟨by rfl, ?hyk29⟩) (by assumption) ?restk29
        case hyk29 => (intro w hSw; (try dsimp only at hSw); (try simp only [List.getElem_toArray, List.getElem_cons_zero, List.getElem_cons_succ]); go_simp; (try with_reducible rfl))
        (try simp only [Act.put, List.setIfInBounds_toArray, List.set_cons_zero, List.set_cons_succ, List.getElem_toArray, List.getElem_cons_zero, List.getElem_cons_succ])
        refine wpAnyH_take (i := 30) (oi := _) (v := ?vk30) rfl (by kernel_rfl) (by kernel_rfl) (by kernel_rfl) (fun _ _ _ h => h) (Or.inl ⟨by rfl, ?hyk30⟩) (by assumption) ?restk30
        case hyk30 => (intro w hSw; (try dsimp only at hSw); (try simp only [List.getElem_toArray, List.getElem_cons_zero, List.getElem_cons_succ]); go_simp; (try with_reducible rfl))
        (try simp only [Act.put, List.setIfInBounds_toArray, List.set_cons_zero, List.set_cons_succ, List.getElem_toArray, List.getElem_cons_zero, List.getElem_cons_succ])
        refine wpAnyH_done (by kernel_rfl) ?_ _
        refine NoPanic.normal ?_
        go_wp2_with fail
        go_ret
        exact ⟨rfl, HW.out _ HBU5.out⟩

end Go.Proofs.Ytgomnigchfmfhaa
