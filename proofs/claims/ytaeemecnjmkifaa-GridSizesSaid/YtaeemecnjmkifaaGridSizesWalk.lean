/- Law GridSizes: the walk. By program (rgn/XGridSizesWalk.py). Own work. -/
import Derived.Test.YtaeemecnjmkifaaGridA
import Derived.Test.YtaeemecnjmkifaaGridC
namespace Go.Proofs.Ytaeemecnjmkifaa
set_option linter.unusedVariables false
set_option linter.unusedSimpArgs false
open Go.RowKit

theorem at_xy (W H : Nat) (f : Nat → CellM) (i j : Nat) (hi : i < W) (hj : j < H) : atF W H f (i : Int) (j : Int) = f (j * W + i) := by
  unfold atF restA
  rw [if_pos (by omega)]
  simp

/-- Made of one size, and of the first one again. -/
theorem size_back (W H a b i j : Nat) (f : Nat → CellM) (hW : 0 < W) (ha : 0 < a) (hi : i < W) (hj : j < H) :
    sizeF a W (sizeF W a f (min H b)) (min b H) (j * W + i) = if i < a ∧ j < b then f (j * W + i) else blankC := by
  have d1 : (j * W + i) / W = j := by rw [Nat.mul_comm, Nat.mul_add_div hW, Nat.div_eq_of_lt hi, Nat.add_zero]
  have m1 : (j * W + i) % W = i := by rw [Nat.mul_comm, Nat.mul_add_mod, Nat.mod_eq_of_lt hi]
  unfold sizeF
  rw [d1, m1]
  by_cases h : i < a ∧ j < b
  · rw [if_pos ⟨by omega, h.1⟩, if_pos h]
    have d2 : (j * a + i) / a = j := by rw [Nat.mul_comm, Nat.mul_add_div ha, Nat.div_eq_of_lt h.1, Nat.add_zero]
    have m2 : (j * a + i) % a = i := by rw [Nat.mul_comm, Nat.mul_add_mod, Nat.mod_eq_of_lt h.1]
    rw [d2, m2, if_pos ⟨by omega, hi⟩]
  · rw [if_neg (by omega), if_neg h]

def getF2 (xs : List CellM) (k : Nat) : CellM := xs.getD k .z
theorem flatF_get2 (xs : List CellM) : flatF (getF2 xs) xs.length = xs.flatMap cellCs := flatF_list xs _ (fun k c h => by unfold getF2; rw [List.getD_eq_getElem?_getD, h]; rfl)
theorem six_lies {w : World} {q : Nat} {x : CellM} (h : Lies w q 0 1 (fun _ => x)) :
    w.cell? ⟨q, 0, none⟩ = some (.int .i32 x.r) ∧ w.cell? ⟨q, 1, none⟩ = some (.int .i64 x.a.fg) ∧ w.cell? ⟨q, 2, none⟩ = some (.int .i64 x.a.bg) ∧ w.cell? ⟨q, 3, none⟩ = some (.bool x.a.b) ∧ w.cell? ⟨q, 4, none⟩ = some (.bool x.a.u) ∧ w.cell? ⟨q, 5, none⟩ = some (.bool x.a.i) := by
  have cc := h.val 0 (by omega)
  refine ⟨?_, ?_, ?_, ?_, ?_, ?_⟩
  · have := cc 0 _ rfl; simpa using this
  · have := cc 1 _ rfl; simpa using this
  · have := cc 2 _ rfl; simpa using this
  · have := cc 3 _ rfl; simpa using this
  · have := cc 4 _ rfl; simpa using this
  · have := cc 5 _ rfl; simpa using this
def putF (a m : Nat) (x f : Nat → CellM) (k : Nat) : CellM := if a ≤ k ∧ k < a + m then x (k - a) else f k

set_option maxRecDepth 100000 in
set_option maxHeartbeats 1600000 in
theorem gridSizes_early (x y s t : Int) (A : Option Addr) (n cap : Nat) (w : World) (h : (n : Int) > 40) :
    Calls Try.prog 6 #[.int .i64 x, .int .i64 y, .int .i64 s, .int .i64 t, .slice A n cap] w fun e w' => e = .returned (.bool true) ∧ Below w.heap.size w w' := by
  go_enter Try.func6, Try.ntmps6
  go_wp2_with fail
  refine (alive_any _).mono ?_
  rintro e w1 ⟨rfl, hb⟩
  have HB := Lib.hid hb
  clear hb
  go_wp2_with fail
  go_ret
  exact ⟨rfl, HB.out⟩

set_option maxRecDepth 100000 in
set_option maxHeartbeats 6400000 in
theorem gridSizes_main (x y s t : Int) (A : Option Addr) (ln cap : Nat) (xs : List CellM) (w : World) (h : CellsL w A ln xs) (h40 : ¬ (ln : Int) > 40) (W H n a b m : Nat) (hW : min (max x 2) 40 = (W : Int)) (hH : min (max y 1) 20 = (H : Int)) (hn : n = W * H) (ha : min (max s 2) 40 = (a : Int)) (hb : min (max t 1) 20 = (b : Int)) (hm : m = a * b) :
    Calls Try.prog 6 #[.int .i64 x, .int .i64 y, .int .i64 s, .int .i64 t, .slice A ln cap] w fun e w' => e = .returned (.bool true) ∧ Below w.heap.size w w' := by
  have hNew := Lib.hid (fun V => grid_new V x y W H n hW hH hn)
  have HWB : Hid ((2 ≤ W ∧ W ≤ 40) ∧ (1 ≤ H ∧ H ≤ 20) ∧ (2 ≤ a ∧ a ≤ 40) ∧ 1 ≤ b ∧ b ≤ 20) := Lib.hid (by omega)
  have HNE := Lib.hid hn
  have t1 : (W : Int) ≤ 40 := by omega
  have t2 : (2 : Int) ≤ (W : Int) := by omega
  have t3 : (H : Int) ≤ 20 := by omega
  have t4 : (1 : Int) ≤ (H : Int) := by omega
  have t5 : ((a : Int) ≤ 40) := by omega
  have t6 : ((a : Int) ≥ 2) := by omega
  have t7 : ((b : Int) ≤ 20) := by omega
  have t8 : ((b : Int) ≥ 1) := by omega
  have hAB := Lib.hid (And.intro ha (And.intro hb hm))
  have hWH : Hid (min (max (W : Int) 2) 40 = (W : Int) ∧ min (max (H : Int) 1) 20 = (H : Int)) := Lib.hid (by omega)
  have hSr : Hid (Src w A (ln * 6) (flatF (getF2 xs) ln)) := Lib.hid (by have := h.1; rw [← flatF_get2 xs, h.2.1] at this; exact this)
  have hl40 : ln ≤ 40 := by omega
  clear hW hH hn h ha hb hm
  go_enter Try.func6, Try.ntmps6
  go_wp2_with fail
  refine (alive_any _).mono ?_
  rintro e w1 ⟨rfl, hb⟩
  have HB1 := Lib.hid hb
  clear hb
  go_wp2_with fail
  refine (hNew.out _).mono ?_
  rintro e w2 ⟨rfl, hG, hb⟩
  obtain ⟨g, hg⟩ : ∃ g, g = w1.heap.size := ⟨_, rfl⟩
  have hgw : Hid (w.heap.size ≤ g) := Lib.hid (by rw [hg]; exact HB1.out.size)
  rw [← hg] at hG
  have HG2 := Lib.hid hG
  have HB2 : Hid (Below w.heap.size w w2) := Lib.hid (HB1.out.trans (hb.mono HB1.out.size))
  rw [← hg]
  clear hG hb hg
  go_wp2_with fail
  refine (grid_W w2 (g + 1) g n W H n _ HG2.out).mono ?_
  rintro e w3 ⟨rfl, rfl⟩
  go_wp2_with fail
  refine (grid_H w3 (g + 1) g n W H n _ HG2.out).mono ?_
  rintro e w4 ⟨rfl, rfl⟩
  go_wp2_with fail
  have hj1 : Hid (restN W H 0 ((H : Int) - 1) = W ∧ restN W H 0 0 = W) := Lib.hid ⟨by unfold restN; rw [if_pos (by omega)]; simp, by unfold restN; rw [if_pos (by omega)]; simp⟩
  refine (grid_setR w4 (g + 1) g n W H n _ 0 ((H : Int) - 1) A ln cap (getF2 xs) HG2.out (hSr.out.keep (Keep.of_below _ HB2.out)) (by omega) (min ln W) (by rw [hj1.out.1])).mono ?_
  rintro e w5 ⟨rfl, hp⟩
  have HG5 : Hid (GridAt w5 (g + 1) g n W H n (putF (restA W 0 ((H : Int) - 1)) (min ln W) (getF2 xs) (fun _ => blankC))) := Lib.hid (HG2.out.put hp (by
    have := restN_le HNE.out 0 ((H : Int) - 1) (by rw [hj1.out.1]; have := HWB.out; omega)
    rw [hj1.out.1] at this
    omega))
  have HB5 : Hid (Below w.heap.size w w5) := Lib.hid (HB2.out.trans (hp.keep.below HB2.out.size (fun k hk e => by have := hgw.out; omega)))
  clear hp HG2
  go_wp2_with fail
  refine (grid_setR w5 (g + 1) g n W H n _ 0 0 A ln cap (getF2 xs) HG5.out (hSr.out.keep (Keep.of_below _ HB5.out)) (by omega) (min ln W) (by rw [hj1.out.2])).mono ?_
  rintro e w6 ⟨rfl, hp⟩
  obtain ⟨F, hF⟩ : ∃ F, F = putF (restA W 0 0) (min ln W) (getF2 xs) (putF (restA W 0 ((H : Int) - 1)) (min ln W) (getF2 xs) (fun _ => blankC)) := ⟨_, rfl⟩
  have HG6 : Hid (GridAt w6 (g + 1) g n W H n F) := Lib.hid (by
    rw [hF]
    exact HG5.out.put hp (by
      have := restN_le HNE.out 0 0 (by rw [hj1.out.2]; have := HWB.out; omega)
      rw [hj1.out.2] at this
      omega))
  have HB6 : Hid (Below w.heap.size w w6) := Lib.hid (HB5.out.trans (hp.keep.below HB5.out.size (fun k hk e => by have := hgw.out; omega)))
  clear hp hF HG5 hj1 hSr
  go_wp2_with fail
  refine (grid_copy w6 (g + 1) g n W H n F HG6.out).mono ?_
  rintro e w7 ⟨p7, g7, c7, rfl, q1, q2, hG7, hb7⟩
  have K7 := Lib.hid (Keep.of_below (fun _ => False) hb7)
  have HG7 := Lib.hid (HG6.out.keep K7.out (fun y => y) (fun y => y))
  have HC7 := Lib.hid hG7
  have HB7 : Hid (Below w.heap.size w w7) := Lib.hid (HB6.out.trans (hb7.mono HB6.out.size))
  have hgg : Hid (g + 1 ≠ p7 ∧ g + 1 ≠ g7) := Lib.hid (by have := HG6.out.hg; have := HG6.out.lt; omega)
  clear q1 q2 hG7 hb7 HG6 HB6
  go_wp2_with fail
  refine (grid_size w7 (g + 1) g n W H n F s t a b m HG7.out hAB.out.1 hAB.out.2.1 hAB.out.2.2).mono ?_
  rintro e w8 ⟨rfl, g8, c8, hg8, hG8, k8⟩
  have HG8 := Lib.hid hG8
  have HC8 := Lib.hid (HC7.out.keep k8 (by have := hgg.out; omega) (by have := hgg.out; omega))
  have HB8 : Hid (Below w.heap.size w w8) := Lib.hid (HB7.out.trans (k8.below HB7.out.size (fun k hk e => by have := hgw.out; omega)))
  clear hG8 k8 hg8
  go_wp2_with fail
  refine (grid_W w8 (g + 1) g8 c8 a b m _ HG8.out).mono ?_
  rintro e w9 ⟨rfl, rfl⟩
  go_wp2_with fail
  refine (grid_H w9 (g + 1) g8 c8 a b m _ HG8.out).mono ?_
  rintro e w10 ⟨rfl, rfl⟩
  go_wp2_with fail
  refine (grid_size w10 (g + 1) g8 c8 a b m _ W H W H n HG8.out hWH.out.1 hWH.out.2 HNE.out).mono ?_
  rintro e w11 ⟨rfl, g11, c11, hg11, hG11, k11⟩
  have HG11 := Lib.hid hG11
  have HC11 := Lib.hid (HC8.out.keep k11 (by have := hgg.out; omega) (by have := hgg.out; omega))
  have HB11 : Hid (Below w.heap.size w w11) := Lib.hid (HB8.out.trans (k11.below HB8.out.size (fun k hk e => by have := hgw.out; omega)))
  clear hG11 k11 hg11 HG8 HC8 HC7 HB7 HB8
  go_wp2_with fail
  go_loopw [15, 16, 17] (fun j _ _ wr => ∃ k : Nat, j = .int .i64 k ∧ k ≤ H ∧ Hid (Keep (fun _ => False) w11 wr)) (fun j _ _ _ => H - (intOf j).toNat)
  case atStart => exact ⟨0, rfl, Nat.zero_le _, Keep.refl _ _⟩
  case round =>
    obtain ⟨j, rfl, hj, HJ⟩ := hrel
    by_cases hjl : j < H
    · have hji : ((j : Int) < (H : Int)) := by omega
      have hj0 : (0 : Int) ≤ (j : Int) := by omega
      obtain ⟨wo, rfl⟩ : ∃ wo : World, wo = wr := ⟨_, rfl⟩
      go_wp2_with fail
      go_loopw [16, 17] (fun i _ wr => ∃ k : Nat, i = .int .i64 k ∧ k ≤ W ∧ Hid (Keep (fun _ => False) w11 wr)) (fun i _ _ => W - (intOf i).toNat)
      case atStart => exact ⟨0, rfl, Nat.zero_le _, HJ⟩
      case round =>
        obtain ⟨i, rfl, hi, HK⟩ := hrel
        by_cases hil : i < W
        · have hii : ((i : Int) < (W : Int)) := by omega
          have hi0 : (0 : Int) ≤ (i : Int) := by omega
          have HGr := Lib.hid (HG11.out.keep HK.out (fun y => y) (fun y => y))
          have HCr := Lib.hid (HC11.out.keep HK.out (fun y => y) (fun y => y))
          obtain ⟨u, hu⟩ : ∃ u, u = F (j * W + i) := ⟨_, rfl⟩
          have HA1 : Hid (∀ V, Keep (fun _ => False) wr V → Calls Try.prog 35 #[.pointer (some ⟨p7, 0, none⟩), .int .i64 i, .int .i64 j] V fun e w' => e = .returned (.agg #[.int .i32 u.r, .int .i64 u.a.fg, .int .i64 u.a.bg, .bool u.a.b, .bool u.a.u, .bool u.a.i]) ∧ Below V.heap.size V w') := Lib.hid (fun V kv => by
            have := grid_at V p7 g7 c7 W H n F i j (HCr.out.keep kv (fun y => y) (fun y => y))
            rwa [at_xy W H F i j hil hjl, ← hu] at this)
          have HA2 : Hid (∀ V, Keep (fun _ => False) wr V → Calls Try.prog 35 #[.pointer (some ⟨g + 1, 0, none⟩), .int .i64 i, .int .i64 j] V fun e w' => e = .returned (CellM.v (if i < a ∧ j < b then u else blankC)) ∧ Below V.heap.size V w') := Lib.hid (fun V kv => by
            have := grid_at V (g + 1) g11 c11 W H n _ i j (HGr.out.keep kv (fun y => y) (fun y => y))
            rwa [at_xy W H _ i j hil hjl, size_back W H a b i j F (by have := HWB.out; omega) (by have := HWB.out; omega) hil hjl, ← hu] at this)
          clear hu
          by_cases h1 : i < a
          · have h1i : ((i : Int) < (a : Int)) := by omega
            by_cases h2 : j < b
            · have h2i : ((j : Int) < (b : Int)) := by omega
              have hcd : (i < a ∧ j < b) := ⟨h1, h2⟩
              have HAF : Hid (∀ V, Keep (fun _ => False) wr V → Calls Try.prog 35 #[.pointer (some ⟨g + 1, 0, none⟩), .int .i64 i, .int .i64 j] V fun e w' => e = .returned (.agg #[.int .i32 u.r, .int .i64 u.a.fg, .int .i64 u.a.bg, .bool u.a.b, .bool u.a.u, .bool u.a.i]) ∧ Below V.heap.size V w') := Lib.hid (fun V kv => by have := HA2.out V kv; rw [if_pos hcd] at this; exact this)
              clear hcd h1 HA2
              go_wp2_with fail
              refine (HA1.out _ ((Keep.refl _ wr).alloc _)).mono ?_
              rintro e v1 ⟨rfl, hb⟩
              have KV0 : Keep (fun _ => False) (wr.alloc (.cells (vcells blankC) 42)) v1 := Keep.of_below (fun _ => False) hb
              have KV1 : Hid (Keep (fun _ => False) wr v1) := Lib.hid (((Keep.refl _ wr).alloc _).trans KV0 (fun _ _ y => y))
              have HLq : Hid (Lies v1 wr.heap.size 0 1 (fun _ => blankC)) := Lib.hid ((lies_block wr (vcells blankC) 42 (fun _ => blankC) 1 rfl).keep (by simp) KV0 (fun y => y))
              clear hb KV0
              go_wp2_with (with_reducible refine wpList_store_cell rfl _ _ _ rfl wr.heap.size 0 0 1 _ HLq.out (by omega) u rfl rfl cell_info ?_)
              intro w9 hp9
              have K9 : Hid (Keep (fun _ => False) wr w9) := Lib.hid (KV1.out.trans hp9.keep (fun k hk e => by omega))
              have HQ9 : Hid (Lies w9 wr.heap.size 0 1 (fun _ => u)) := Lib.hid (PutC.whole HLq.out hp9)
              have hql : wr.heap.size < w9.heap.size := HQ9.out.lt (by omega)
              clear hp9
              go_upto_region 24 with fail
              obtain ⟨q, hq⟩ : ∃ q, q = wr.heap.size := ⟨_, rfl⟩
              rw [← hq] at HQ9
              rw [← hq]
              clear hq
              have hqw : q < w9.heap.size := HQ9.out.lt (by omega)
              refine wp_region_noPanic ?_
              refine wp_region_held_drew (S := fun w' => w'.cell? ⟨q, 0, none⟩ = some (.int .i32 u.r) ∧ w'.cell? ⟨q, 1, none⟩ = some (.int .i64 u.a.fg) ∧ w'.cell? ⟨q, 2, none⟩ = some (.int .i64 u.a.bg) ∧ w'.cell? ⟨q, 3, none⟩ = some (.bool u.a.b) ∧ w'.cell? ⟨q, 4, none⟩ = some (.bool u.a.u) ∧ w'.cell? ⟨q, 5, none⟩ = some (.bool u.a.i)) (by kernel_rfl) (six_lies (w := w9) HQ9.out) (fun hHeld => ?_)
              refine wpAnyH_take (i := 0) (oi := _) (v := ?va0) rfl (by kernel_rfl) (by kernel_rfl) (by kernel_rfl) (fun _ _ _ h => h) (Or.inl ⟨by rfl, ?hya0⟩) (by assumption) ?resta0
              case hya0 => (intro w hSw; (try dsimp only at hSw); (try simp only [List.getElem_toArray, List.getElem_cons_zero, List.getElem_cons_succ]); go_simp; (try with_reducible rfl))
              (try simp only [Act.put, List.setIfInBounds_toArray, List.set_cons_zero, List.set_cons_succ, List.getElem_toArray, List.getElem_cons_zero, List.getElem_cons_succ])
              refine wpAnyH_take (i := 1) (oi := _) (v := ?va1) rfl (by kernel_rfl) (by kernel_rfl) (by kernel_rfl) (fun _ _ _ h => h) (Or.inl ⟨by rfl, ?hya1⟩) (by assumption) ?resta1
              case hya1 => (intro w hSw; (try dsimp only at hSw); (try simp only [List.getElem_toArray, List.getElem_cons_zero, List.getElem_cons_succ]); go_simp; (try with_reducible rfl))
              (try simp only [Act.put, List.setIfInBounds_toArray, List.set_cons_zero, List.set_cons_succ, List.getElem_toArray, List.getElem_cons_zero, List.getElem_cons_succ])
              refine wpAnyH_take (i := 2) (oi := _) (v := ?va2) rfl (by kernel_rfl) (by kernel_rfl) (by kernel_rfl) (fun _ _ _ h => h) (Or.inl ⟨by rfl, ?hya2⟩) (by assumption) ?resta2
              case hya2 => (intro w hSw; (try dsimp only at hSw); (try simp only [List.getElem_toArray, List.getElem_cons_zero, List.getElem_cons_succ]); go_simp; (try with_reducible rfl))
              (try simp only [Act.put, List.setIfInBounds_toArray, List.set_cons_zero, List.set_cons_succ, List.getElem_toArray, List.getElem_cons_zero, List.getElem_cons_succ])
              refine wpAnyH_take (i := 4) (oi := _) (v := ?va4) rfl (by kernel_rfl) (by kernel_rfl) (by kernel_rfl) (fun _ _ _ h => h) (Or.inl ⟨by rfl, ?hya4⟩) (by assumption) ?resta4
              case hya4 => (intro w hSw; (try dsimp only at hSw); (try simp only [List.getElem_toArray, List.getElem_cons_zero, List.getElem_cons_succ]); go_simp; (try with_reducible rfl))
              (try simp only [Act.put, List.setIfInBounds_toArray, List.set_cons_zero, List.set_cons_succ, List.getElem_toArray, List.getElem_cons_zero, List.getElem_cons_succ])
              refine wpAnyH_ready (rs := [3]) (by kernel_rfl) (by simp) ?_
              refine AllReadyH.cons (o := _) rfl (fun K hK => ?_) AllReadyH.nil
              (try simp only [List.getElem_toArray, List.getElem_cons_zero, List.getElem_cons_succ])
              go_simp
              refine (HAF.out _ (K9.out.drew)).mono ?_; rintro e ya1 ⟨rfl, hb⟩; have Ka1 : Hid (Keep (fun _ => False) wr ya1) := Lib.hid ((K9.out.drew).trans (Keep.of_below (fun _ => False) hb) (fun _ _ z => z)); have HQa1 := Lib.hid (HQ9.out.keep hqw (((Keep.refl (fun _ => False) w9).drew).trans (Keep.of_below (fun _ => False) hb) (fun _ _ z => z)) (fun z => z)); clear hb
              refine hK.out _ _ ?_ (fun hHeld => ?_)
              · exact six_lies HQa1.out
              clear hK K
              (try simp only [Act.put, List.setIfInBounds_toArray, List.set_cons_zero, List.set_cons_succ, List.getElem_toArray, List.getElem_cons_zero, List.getElem_cons_succ])
              refine wpAnyH_take (i := 5) (oi := _) (v := ?va5) rfl (by kernel_rfl) (by kernel_rfl) (by kernel_rfl) (fun _ _ _ h => h) (Or.inl ⟨by rfl, ?hya5⟩) (by assumption) ?resta5
              case hya5 => (intro w hSw; (try dsimp only at hSw); (try simp only [List.getElem_toArray, List.getElem_cons_zero, List.getElem_cons_succ]); go_simp; (try with_reducible rfl))
              (try simp only [Act.put, List.setIfInBounds_toArray, List.set_cons_zero, List.set_cons_succ, List.getElem_toArray, List.getElem_cons_zero, List.getElem_cons_succ])
              refine wpAnyH_done (by kernel_rfl) ?_ _
              refine NoPanic.normal ?_
              go_wp2_with fail
              go_roundw
              case rel => exact ⟨i + 1, by go_num, by omega, Lib.hid (HK.out.trans Ka1.out (fun _ _ y => y))⟩
              case measure => simp [intOf]; omega
            · have h2i : ¬ ((j : Int) < (b : Int)) := by omega
              have h2d : decide (j < b) = false := by simp; omega
              have hcd : ¬ (i < a ∧ j < b) := fun e => h2 e.2
              have HAF : Hid (∀ V, Keep (fun _ => False) wr V → Calls Try.prog 35 #[.pointer (some ⟨g + 1, 0, none⟩), .int .i64 i, .int .i64 j] V fun e w' => e = .returned (.agg #[.int .i32 32, .int .i64 0, .int .i64 0, .bool false, .bool false, .bool false]) ∧ Below V.heap.size V w') := Lib.hid (fun V kv => by have := HA2.out V kv; rw [if_neg hcd] at this; exact this)
              clear hcd h1 HA2
              obtain ⟨w9, hw9⟩ : ∃ w9, w9 = wr.alloc (.cells (vcells blankC) 42) := ⟨_, rfl⟩
              have K9 : Hid (Keep (fun _ => False) wr w9) := Lib.hid (by rw [hw9]; exact (Keep.refl _ wr).alloc _)
              have HQ9 : Hid (Lies w9 wr.heap.size 0 1 (fun _ => blankC)) := Lib.hid (by rw [hw9]; exact lies_block wr _ _ (fun _ => blankC) 1 rfl)
              have hql : wr.heap.size < w9.heap.size := by rw [hw9]; simp
              unfold vcells blankC At.z at hw9
              dsimp only at hw9
              go_upto_region 24 with fail
              rw [← hw9]
              clear hw9
              obtain ⟨q, hq⟩ : ∃ q, q = wr.heap.size := ⟨_, rfl⟩
              rw [← hq] at HQ9
              rw [← hq]
              clear hq
              have hqw : q < w9.heap.size := HQ9.out.lt (by omega)
              refine wp_region_noPanic ?_
              refine wp_region_held_drew (S := fun w' => w'.cell? ⟨q, 0, none⟩ = some (.int .i32 32) ∧ w'.cell? ⟨q, 1, none⟩ = some (.int .i64 0) ∧ w'.cell? ⟨q, 2, none⟩ = some (.int .i64 0) ∧ w'.cell? ⟨q, 3, none⟩ = some (.bool false) ∧ w'.cell? ⟨q, 4, none⟩ = some (.bool false) ∧ w'.cell? ⟨q, 5, none⟩ = some (.bool false)) (by kernel_rfl) (six_lies (w := w9) HQ9.out) (fun hHeld => ?_)
              refine wpAnyH_take (i := 0) (oi := _) (v := ?vb0) rfl (by kernel_rfl) (by kernel_rfl) (by kernel_rfl) (fun _ _ _ h => h) (Or.inl ⟨by rfl, ?hyb0⟩) (by assumption) ?restb0
              case hyb0 => (intro w hSw; (try dsimp only at hSw); (try simp only [List.getElem_toArray, List.getElem_cons_zero, List.getElem_cons_succ]); go_simp; (try with_reducible rfl))
              (try simp only [Act.put, List.setIfInBounds_toArray, List.set_cons_zero, List.set_cons_succ, List.getElem_toArray, List.getElem_cons_zero, List.getElem_cons_succ])
              refine wpAnyH_take (i := 1) (oi := _) (v := ?vb1) rfl (by kernel_rfl) (by kernel_rfl) (by kernel_rfl) (fun _ _ _ h => h) (Or.inl ⟨by rfl, ?hyb1⟩) (by assumption) ?restb1
              case hyb1 => (intro w hSw; (try dsimp only at hSw); (try simp only [List.getElem_toArray, List.getElem_cons_zero, List.getElem_cons_succ]); go_simp; (try with_reducible rfl))
              (try simp only [Act.put, List.setIfInBounds_toArray, List.set_cons_zero, List.set_cons_succ, List.getElem_toArray, List.getElem_cons_zero, List.getElem_cons_succ])
              refine wpAnyH_take (i := 2) (oi := _) (v := ?vb2) rfl (by kernel_rfl) (by kernel_rfl) (by kernel_rfl) (fun _ _ _ h => h) (Or.inl ⟨by rfl, ?hyb2⟩) (by assumption) ?restb2
              case hyb2 => (intro w hSw; (try dsimp only at hSw); (try simp only [List.getElem_toArray, List.getElem_cons_zero, List.getElem_cons_succ]); go_simp; (try with_reducible rfl))
              (try simp only [Act.put, List.setIfInBounds_toArray, List.set_cons_zero, List.set_cons_succ, List.getElem_toArray, List.getElem_cons_zero, List.getElem_cons_succ])
              refine wpAnyH_take (i := 4) (oi := _) (v := ?vb4) rfl (by kernel_rfl) (by kernel_rfl) (by kernel_rfl) (fun _ _ _ h => h) (Or.inl ⟨by rfl, ?hyb4⟩) (by assumption) ?restb4
              case hyb4 => (intro w hSw; (try dsimp only at hSw); (try simp only [List.getElem_toArray, List.getElem_cons_zero, List.getElem_cons_succ]); go_simp; (try with_reducible rfl))
              (try simp only [Act.put, List.setIfInBounds_toArray, List.set_cons_zero, List.set_cons_succ, List.getElem_toArray, List.getElem_cons_zero, List.getElem_cons_succ])
              refine wpAnyH_ready (rs := [3]) (by kernel_rfl) (by simp) ?_
              refine AllReadyH.cons (o := _) rfl (fun K hK => ?_) AllReadyH.nil
              (try simp only [List.getElem_toArray, List.getElem_cons_zero, List.getElem_cons_succ])
              go_simp
              refine (HAF.out _ (K9.out.drew)).mono ?_; rintro e yb1 ⟨rfl, hb⟩; have Kb1 : Hid (Keep (fun _ => False) wr yb1) := Lib.hid ((K9.out.drew).trans (Keep.of_below (fun _ => False) hb) (fun _ _ z => z)); have HQb1 := Lib.hid (HQ9.out.keep hqw (((Keep.refl (fun _ => False) w9).drew).trans (Keep.of_below (fun _ => False) hb) (fun _ _ z => z)) (fun z => z)); clear hb
              refine hK.out _ _ ?_ (fun hHeld => ?_)
              · exact six_lies HQb1.out
              clear hK K
              (try simp only [Act.put, List.setIfInBounds_toArray, List.set_cons_zero, List.set_cons_succ, List.getElem_toArray, List.getElem_cons_zero, List.getElem_cons_succ])
              refine wpAnyH_take (i := 5) (oi := _) (v := ?vb5) rfl (by kernel_rfl) (by kernel_rfl) (by kernel_rfl) (fun _ _ _ h => h) (Or.inl ⟨by rfl, ?hyb5⟩) (by assumption) ?restb5
              case hyb5 => (intro w hSw; (try dsimp only at hSw); (try simp only [List.getElem_toArray, List.getElem_cons_zero, List.getElem_cons_succ]); go_simp; (try with_reducible rfl))
              (try simp only [Act.put, List.setIfInBounds_toArray, List.set_cons_zero, List.set_cons_succ, List.getElem_toArray, List.getElem_cons_zero, List.getElem_cons_succ])
              refine wpAnyH_done (by kernel_rfl) ?_ _
              refine NoPanic.normal ?_
              go_wp2_with fail
              go_roundw
              case rel => exact ⟨i + 1, by go_num, by omega, Lib.hid (HK.out.trans Kb1.out (fun _ _ y => y))⟩
              case measure => simp [intOf]; omega
          · have h1i : ¬ ((i : Int) < (a : Int)) := by omega
            have h1d : decide (i < a) = false := by simp; omega
            have hcd : ¬ (i < a ∧ j < b) := fun e => h1 e.1
            have HAF : Hid (∀ V, Keep (fun _ => False) wr V → Calls Try.prog 35 #[.pointer (some ⟨g + 1, 0, none⟩), .int .i64 i, .int .i64 j] V fun e w' => e = .returned (.agg #[.int .i32 32, .int .i64 0, .int .i64 0, .bool false, .bool false, .bool false]) ∧ Below V.heap.size V w') := Lib.hid (fun V kv => by have := HA2.out V kv; rw [if_neg hcd] at this; exact this)
            clear hcd h1 HA2
            obtain ⟨w9, hw9⟩ : ∃ w9, w9 = wr.alloc (.cells (vcells blankC) 42) := ⟨_, rfl⟩
            have K9 : Hid (Keep (fun _ => False) wr w9) := Lib.hid (by rw [hw9]; exact (Keep.refl _ wr).alloc _)
            have HQ9 : Hid (Lies w9 wr.heap.size 0 1 (fun _ => blankC)) := Lib.hid (by rw [hw9]; exact lies_block wr _ _ (fun _ => blankC) 1 rfl)
            have hql : wr.heap.size < w9.heap.size := by rw [hw9]; simp
            unfold vcells blankC At.z at hw9
            dsimp only at hw9
            go_upto_region 24 with fail
            rw [← hw9]
            clear hw9
            obtain ⟨q, hq⟩ : ∃ q, q = wr.heap.size := ⟨_, rfl⟩
            rw [← hq] at HQ9
            rw [← hq]
            clear hq
            have hqw : q < w9.heap.size := HQ9.out.lt (by omega)
            refine wp_region_noPanic ?_
            refine wp_region_held_drew (S := fun w' => w'.cell? ⟨q, 0, none⟩ = some (.int .i32 32) ∧ w'.cell? ⟨q, 1, none⟩ = some (.int .i64 0) ∧ w'.cell? ⟨q, 2, none⟩ = some (.int .i64 0) ∧ w'.cell? ⟨q, 3, none⟩ = some (.bool false) ∧ w'.cell? ⟨q, 4, none⟩ = some (.bool false) ∧ w'.cell? ⟨q, 5, none⟩ = some (.bool false)) (by kernel_rfl) (six_lies (w := w9) HQ9.out) (fun hHeld => ?_)
            refine wpAnyH_take (i := 0) (oi := _) (v := ?vc0) rfl (by kernel_rfl) (by kernel_rfl) (by kernel_rfl) (fun _ _ _ h => h) (Or.inl ⟨by rfl, ?hyc0⟩) (by assumption) ?restc0
            case hyc0 => (intro w hSw; (try dsimp only at hSw); (try simp only [List.getElem_toArray, List.getElem_cons_zero, List.getElem_cons_succ]); go_simp; (try with_reducible rfl))
            (try simp only [Act.put, List.setIfInBounds_toArray, List.set_cons_zero, List.set_cons_succ, List.getElem_toArray, List.getElem_cons_zero, List.getElem_cons_succ])
            refine wpAnyH_take (i := 1) (oi := _) (v := ?vc1) rfl (by kernel_rfl) (by kernel_rfl) (by kernel_rfl) (fun _ _ _ h => h) (Or.inl ⟨by rfl, ?hyc1⟩) (by assumption) ?restc1
            case hyc1 => (intro w hSw; (try dsimp only at hSw); (try simp only [List.getElem_toArray, List.getElem_cons_zero, List.getElem_cons_succ]); go_simp; (try with_reducible rfl))
            (try simp only [Act.put, List.setIfInBounds_toArray, List.set_cons_zero, List.set_cons_succ, List.getElem_toArray, List.getElem_cons_zero, List.getElem_cons_succ])
            refine wpAnyH_take (i := 2) (oi := _) (v := ?vc2) rfl (by kernel_rfl) (by kernel_rfl) (by kernel_rfl) (fun _ _ _ h => h) (Or.inl ⟨by rfl, ?hyc2⟩) (by assumption) ?restc2
            case hyc2 => (intro w hSw; (try dsimp only at hSw); (try simp only [List.getElem_toArray, List.getElem_cons_zero, List.getElem_cons_succ]); go_simp; (try with_reducible rfl))
            (try simp only [Act.put, List.setIfInBounds_toArray, List.set_cons_zero, List.set_cons_succ, List.getElem_toArray, List.getElem_cons_zero, List.getElem_cons_succ])
            refine wpAnyH_take (i := 4) (oi := _) (v := ?vc4) rfl (by kernel_rfl) (by kernel_rfl) (by kernel_rfl) (fun _ _ _ h => h) (Or.inl ⟨by rfl, ?hyc4⟩) (by assumption) ?restc4
            case hyc4 => (intro w hSw; (try dsimp only at hSw); (try simp only [List.getElem_toArray, List.getElem_cons_zero, List.getElem_cons_succ]); go_simp; (try with_reducible rfl))
            (try simp only [Act.put, List.setIfInBounds_toArray, List.set_cons_zero, List.set_cons_succ, List.getElem_toArray, List.getElem_cons_zero, List.getElem_cons_succ])
            refine wpAnyH_ready (rs := [3]) (by kernel_rfl) (by simp) ?_
            refine AllReadyH.cons (o := _) rfl (fun K hK => ?_) AllReadyH.nil
            (try simp only [List.getElem_toArray, List.getElem_cons_zero, List.getElem_cons_succ])
            go_simp
            refine (HAF.out _ (K9.out.drew)).mono ?_; rintro e yc1 ⟨rfl, hb⟩; have Kc1 : Hid (Keep (fun _ => False) wr yc1) := Lib.hid ((K9.out.drew).trans (Keep.of_below (fun _ => False) hb) (fun _ _ z => z)); have HQc1 := Lib.hid (HQ9.out.keep hqw (((Keep.refl (fun _ => False) w9).drew).trans (Keep.of_below (fun _ => False) hb) (fun _ _ z => z)) (fun z => z)); clear hb
            refine hK.out _ _ ?_ (fun hHeld => ?_)
            · exact six_lies HQc1.out
            clear hK K
            (try simp only [Act.put, List.setIfInBounds_toArray, List.set_cons_zero, List.set_cons_succ, List.getElem_toArray, List.getElem_cons_zero, List.getElem_cons_succ])
            refine wpAnyH_take (i := 5) (oi := _) (v := ?vc5) rfl (by kernel_rfl) (by kernel_rfl) (by kernel_rfl) (fun _ _ _ h => h) (Or.inl ⟨by rfl, ?hyc5⟩) (by assumption) ?restc5
            case hyc5 => (intro w hSw; (try dsimp only at hSw); (try simp only [List.getElem_toArray, List.getElem_cons_zero, List.getElem_cons_succ]); go_simp; (try with_reducible rfl))
            (try simp only [Act.put, List.setIfInBounds_toArray, List.set_cons_zero, List.set_cons_succ, List.getElem_toArray, List.getElem_cons_zero, List.getElem_cons_succ])
            refine wpAnyH_done (by kernel_rfl) ?_ _
            refine NoPanic.normal ?_
            go_wp2_with fail
            go_roundw
            case rel => exact ⟨i + 1, by go_num, by omega, Lib.hid (HK.out.trans Kc1.out (fun _ _ y => y))⟩
            case measure => simp [intOf]; omega
        · go_wp2_with fail
          go_roundw
          case rel => exact ⟨j + 1, by go_num, by omega, HK⟩
          case measure => simp [intOf]; omega
    · have HGr := Lib.hid (HG11.out.keep HJ.out (fun y => y) (fun y => y))
      go_wp2_with fail
      refine (grid_W wr (g + 1) g11 c11 W H n _ HGr.out).mono ?_
      rintro e v1 ⟨rfl, rfl⟩
      go_wp2_with fail
      refine (grid_H v1 (g + 1) g11 c11 W H n _ HGr.out).mono ?_
      rintro e v2 ⟨rfl, rfl⟩
      go_wp2_with fail
      go_ret
      exact ⟨rfl, HB11.out.trans (HJ.out.below HB11.out.size (fun _ _ e => e.elim))⟩

theorem walk_GridSizes (x : Int) (wx : (Lit.int .i64 x).wf = true) (y : Int) (wy : (Lit.int .i64 y).wf = true) (s : Int) (ws : (Lit.int .i64 s).wf = true) (t : Int) (wt : (Lit.int .i64 t).wf = true) (A : Option Addr) (ln cap : Nat) (xs : List CellM) (w : World) (h : CellsL w A ln xs) :
    Calls Try.prog 6 #[.int .i64 x, .int .i64 y, .int .i64 s, .int .i64 t, .slice A ln cap] w fun e w' => e = .returned (.bool true) ∧ Below w.heap.size w w' := by
  by_cases h40 : (ln : Int) > 40
  · exact gridSizes_early x y s t A ln cap w h40
  obtain ⟨W, hW⟩ : ∃ W : Nat, min (max x 2) 40 = (W : Int) := ⟨(min (max x 2) 40).toNat, by omega⟩
  obtain ⟨H, hH⟩ : ∃ H : Nat, min (max y 1) 20 = (H : Int) := ⟨(min (max y 1) 20).toNat, by omega⟩
  obtain ⟨a, ha⟩ : ∃ a : Nat, min (max s 2) 40 = (a : Int) := ⟨(min (max s 2) 40).toNat, by omega⟩
  obtain ⟨b, hb⟩ : ∃ b : Nat, min (max t 1) 20 = (b : Int) := ⟨(min (max t 1) 20).toNat, by omega⟩
  exact gridSizes_main x y s t A ln cap xs w h h40 W H _ a b _ hW hH rfl ha hb rfl

end Go.Proofs.Ytaeemecnjmkifaa
