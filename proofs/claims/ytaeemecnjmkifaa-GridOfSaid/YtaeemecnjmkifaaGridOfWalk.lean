/- Law GridOf: the walk. Own work. -/
import Derived.Test.YtaeemecnjmkifaaGridS
import Derived.Test.YtaeemecnjmkifaaGridQ
namespace Go.Proofs.Ytaeemecnjmkifaa
set_option linter.unusedVariables false
set_option linter.unusedSimpArgs false
open Go.RowKit

theorem scr_six {w : World} {q : Nat} {W H : Int} {A : Option Addr} {n c : Nat} {X Y : Int} {hid : Bool} {t : TypeId} (h : w.heap[q]? = some (.cells #[.int .i64 W, .int .i64 H, .slice A n c, .int .i64 X, .int .i64 Y, .bool hid] t (0, 0))) :
    w.cell? ⟨q, 0, none⟩ = some (.int .i64 W) ∧ w.cell? ⟨q, 1, none⟩ = some (.int .i64 H) ∧ w.cell? ⟨q, 2, none⟩ = some (.slice A n c) ∧ w.cell? ⟨q, 3, none⟩ = some (.int .i64 X) ∧ w.cell? ⟨q, 4, none⟩ = some (.int .i64 Y) ∧ w.cell? ⟨q, 5, none⟩ = some (.bool hid) :=
  ⟨cell_at h 0, cell_at h 1, cell_at h 2, cell_at h 3, cell_at h 4, cell_at h 5⟩

set_option maxRecDepth 100000 in
set_option maxHeartbeats 6400000 in
theorem walk_GridOf (W : Int) (wW : (Lit.int .i64 W).wf = true) (H : Int) (wH : (Lit.int .i64 H).wf = true) (A : Option Addr) (n c : Nat) (xs : List CellM) (X Y : Int) (hid : Bool) (w : World) (hx : CellsL w A n xs) :
    Calls Try.prog 4 #[scV W H A n c X Y hid] w fun e w' => e = .returned (.bool true) ∧ Below w.heap.size w w' := by
  by_cases h1 : (n : Int) > 1000
  · clear hx
    unfold scV
    go_enter Try.func4, Try.ntmps4
    go_wp2_with fail
    refine (alive_any _).mono ?_
    rintro e w1 ⟨rfl, hb⟩
    have HB1 : Hid (Below w.heap.size w w1) := Lib.hid (((Below.refl _ w).alloc (Nat.le_refl _) _).trans (hb.mono (by simp)))
    clear hb
    go_wp2_with fail
    go_ret
    exact ⟨rfl, HB1.out⟩
  have HX0 := Lib.hid (show Src w A (n * 6) (flatL xs) from hx.1)
  have hlen : Hid (xs.length = n) := Lib.hid hx.2.1
  clear hx
  obtain ⟨p, hp⟩ : ∃ p, p = w.heap.size := ⟨_, rfl⟩
  have HPE := Lib.hid hp
  clear hp
  unfold scV
  go_enter Try.func4, Try.ntmps4
  go_wp2_with fail
  refine (alive_any _).mono ?_
  rintro e w1 ⟨rfl, hb⟩
  have HB1 : Hid (Below w.heap.size w w1) := Lib.hid (((Below.refl _ w).alloc (Nat.le_refl _) _).trans (hb.mono (by simp)))
  have HQ1 : Hid (w1.heap[p]? = some (.cells #[.int .i64 W, .int .i64 H, .slice A n c, .int .i64 X, .int .i64 Y, .bool hid] 67 (0, 0))) := Lib.hid (by rw [HPE.out]; exact (hb.block _ (by simp)).trans (heap_alloc_new w _))
  clear hb
  rw [← HPE.out]
  obtain ⟨d0, d1, d2, d3, d4, d5⟩ := scr_six HQ1.out
  go_wp2_with fail
  refine (lent_Cells A n c xs _ (HX0.out.keep (Keep.of_below (fun _ => False) HB1.out)) (by omega)).mono ?_
  rintro e w2 ⟨g0, c0, rfl, hL, hg0, hb⟩
  have HL2 := Lib.hid hL
  have HB2 : Hid (Below w.heap.size w w2) := Lib.hid (HB1.out.trans (hb.mono HB1.out.size))
  have HQ2 := Lib.hid ((Keep.of_below (fun _ => False) hb).heap HQ1.out (fun y => y))
  have hg0w : Hid (w.heap.size ≤ g0) := Lib.hid (by have := HB1.out.size; omega)
  have hg0p : Hid (g0 ≠ p) := Lib.hid (by have := lt_heap HQ1.out; omega)
  clear hL hb hg0 d0 d1 d2 d3 d4 d5 HQ1 HB1
  obtain ⟨d0, d1, d2, d3, d4, d5⟩ := scr_six HQ2.out
  have hp2 : p < w2.heap.size := lt_heap HQ2.out
  go_wp2_with fail
  obtain ⟨w3, hw3⟩ : ∃ w3, w3 = w2.alloc (.cells #[.int .i64 W, .int .i64 H, .slice (some ⟨g0, 0, none⟩) n c0, .int .i64 X, .int .i64 Y, .bool hid] 67) := ⟨_, rfl⟩
  have HB3 : Hid (Below w.heap.size w w3) := Lib.hid (by rw [hw3]; exact HB2.out.alloc HB2.out.size _)
  have HL3 : Hid (LentC w3 g0 c0 xs) := Lib.hid (by rw [hw3]; exact HL2.out.keep ((Keep.refl (fun _ => False) w2).alloc _) (fun y => y))
  have HQ3 : Hid (w3.heap[p]? = some (.cells #[.int .i64 W, .int .i64 H, .slice A n c, .int .i64 X, .int .i64 Y, .bool hid] 67 (0, 0))) := Lib.hid (by rw [hw3]; exact heap_alloc HQ2.out _)
  obtain ⟨q, hq⟩ : ∃ q, q = w2.heap.size := ⟨_, rfl⟩
  rw [← hw3, ← hq]
  clear hw3 hq d0 d1 d2 d3 d4 d5 hp2 HQ2 HL2 HB2
  by_cases hw : ¬ min (max W 2) 40 = W
  · obtain ⟨W0, hW0⟩ : ∃ W0, min (max W 2) 40 = W0 := ⟨_, rfl⟩
    obtain ⟨H0, hH0⟩ : ∃ H0, min (max H 1) 20 = H0 := ⟨_, rfl⟩
    have HE : Hid (∀ V, Calls Try.prog 42 #[.int .i64 W, .int .i64 H] V fun e w' => e = .returned (.tuple #[.int .i64 W0, .int .i64 H0]) ∧ w' = V) := Lib.hid (fun V => by have := ends_any W H V; rwa [hW0, hH0] at this)
    have HO : Hid (Calls Try.prog 41 #[scV W H (some ⟨g0, 0, none⟩) n c0 X Y hid] w3 fun e w' => e = .returned (.tuple #[.pointer none, .int .i64 1]) ∧ Below w3.heap.size w3 w') := Lib.hid (of_err1 W H (some ⟨g0, 0, none⟩) n c0 X Y hid w3 hw)
    have ne1 : (W0 == W) = false := by simp; omega
    have ne2 : (W0 != W) = true := by simp; omega
    have ne3 : ¬ W0 = W := by omega
    clear hW0 hH0 hw
    refine HO.out.mono ?_
    rintro e w4 ⟨rfl, hb⟩
    have HB4 : Hid (Below w.heap.size w w4) := Lib.hid (HB3.out.trans (hb.mono HB3.out.size))
    have HQ4 := Lib.hid ((Keep.of_below (fun _ => False) hb).heap HQ3.out (fun y => y))
    obtain ⟨d0, d1, d2, d3, d4, d5⟩ := scr_six HQ4.out
    clear hb HO
    go_wp2_with fail
    refine (HE.out _).mono ?_
    rintro e w5 ⟨rfl, rfl⟩
    go_wp2_with fail
    go_ret
    exact ⟨rfl, HB4.out⟩
  have hw := Decidable.not_not.1 hw
  by_cases hh : ¬ min (max H 1) 20 = H
  · obtain ⟨W0, hW0⟩ : ∃ W0, min (max W 2) 40 = W0 := ⟨_, rfl⟩
    obtain ⟨H0, hH0⟩ : ∃ H0, min (max H 1) 20 = H0 := ⟨_, rfl⟩
    have HE : Hid (∀ V, Calls Try.prog 42 #[.int .i64 W, .int .i64 H] V fun e w' => e = .returned (.tuple #[.int .i64 W0, .int .i64 H0]) ∧ w' = V) := Lib.hid (fun V => by have := ends_any W H V; rwa [hW0, hH0] at this)
    have HO : Hid (Calls Try.prog 41 #[scV W H (some ⟨g0, 0, none⟩) n c0 X Y hid] w3 fun e w' => e = .returned (.tuple #[.pointer none, .int .i64 1]) ∧ Below w3.heap.size w3 w') := Lib.hid (of_err2 W H (some ⟨g0, 0, none⟩) n c0 X Y hid w3 hw hh)
    obtain rfl : W0 = W := by omega
    have ne1 : (H0 == H) = false := by simp; omega
    have ne2 : (H0 != H) = true := by simp; omega
    have ne3 : ¬ H0 = H := by omega
    clear hW0 hH0 hw
    refine HO.out.mono ?_
    rintro e w4 ⟨rfl, hb⟩
    have HB4 : Hid (Below w.heap.size w w4) := Lib.hid (HB3.out.trans (hb.mono HB3.out.size))
    have HQ4 := Lib.hid ((Keep.of_below (fun _ => False) hb).heap HQ3.out (fun y => y))
    obtain ⟨d0, d1, d2, d3, d4, d5⟩ := scr_six HQ4.out
    clear hb HO
    go_wp2_with fail
    refine (HE.out _).mono ?_
    rintro e w5 ⟨rfl, rfl⟩
    go_wp2_with fail
    go_ret
    exact ⟨rfl, HB4.out⟩
  have hh := Decidable.not_not.1 hh
  by_cases hn : ¬ (n : Int) = W * H
  · obtain ⟨W0, hW0⟩ : ∃ W0, min (max W 2) 40 = W0 := ⟨_, rfl⟩
    obtain ⟨H0, hH0⟩ : ∃ H0, min (max H 1) 20 = H0 := ⟨_, rfl⟩
    have HE : Hid (∀ V, Calls Try.prog 42 #[.int .i64 W, .int .i64 H] V fun e w' => e = .returned (.tuple #[.int .i64 W0, .int .i64 H0]) ∧ w' = V) := Lib.hid (fun V => by have := ends_any W H V; rwa [hW0, hH0] at this)
    have HO : Hid (Calls Try.prog 41 #[scV W H (some ⟨g0, 0, none⟩) n c0 X Y hid] w3 fun e w' => e = .returned (.tuple #[.pointer none, .int .i64 1]) ∧ Below w3.heap.size w3 w') := Lib.hid (of_err3 W H (some ⟨g0, 0, none⟩) n c0 X Y hid w3 hw hh hn)
    obtain rfl : W0 = W := by omega
    obtain rfl : H0 = H := by omega
    obtain ⟨P, hP⟩ : ∃ P, W0 * H0 = P := ⟨_, rfl⟩
    have hPb : 0 ≤ P ∧ P ≤ 800 := by
      rw [← hP]
      have h1 := Int.mul_nonneg (show 0 ≤ W0 by omega) (show 0 ≤ H0 by omega)
      have h2 := Int.mul_le_mul (show W0 ≤ 40 by omega) (show H0 ≤ 20 by omega) (by omega) (by omega)
      omega
    rw [hP] at hn
    have wr1 : IntKind.i64.wrap (W0 * H0) = P := by rw [hP]; exact IntWalk.i64_in _ (by omega)
    have wr2 : wrap64 (W0 * H0) = P := by rw [hP]; unfold wrap64; omega
    have ne1 : ((n : Int) == P) = false := by simp; omega
    have ne2 : ((n : Int) != P) = true := by simp; omega
    clear hP
    clear hW0 hH0 hw
    refine HO.out.mono ?_
    rintro e w4 ⟨rfl, hb⟩
    have HB4 : Hid (Below w.heap.size w w4) := Lib.hid (HB3.out.trans (hb.mono HB3.out.size))
    have HQ4 := Lib.hid ((Keep.of_below (fun _ => False) hb).heap HQ3.out (fun y => y))
    obtain ⟨d0, d1, d2, d3, d4, d5⟩ := scr_six HQ4.out
    clear hb HO
    go_wp2_with fail
    refine (HE.out _).mono ?_
    rintro e w5 ⟨rfl, rfl⟩
    go_wp2_with fail
    go_ret
    exact ⟨rfl, HB4.out⟩
  have hn := Decidable.not_not.1 hn
  obtain ⟨a, rfl⟩ : ∃ a : Nat, W = (a : Int) := ⟨W.toNat, by omega⟩
  obtain ⟨b, rfl⟩ : ∃ b : Nat, H = (b : Int) := ⟨H.toNat, by omega⟩
  have hab : n = a * b := by exact_mod_cast hn
  have HAB : Hid ((2 ≤ a ∧ a ≤ 40) ∧ (1 ≤ b ∧ b ≤ 20) ∧ n = a * b) := Lib.hid ⟨by omega, by omega, hab⟩
  have hnb : 2 ≤ n ∧ n ≤ 800 := by
    have h1 := Nat.mul_le_mul (show a ≤ 40 by omega) (show b ≤ 20 by omega)
    have h2 := Nat.mul_le_mul (show 2 ≤ a by omega) (show 1 ≤ b by omega)
    omega
  have hni : (n : Int) ≤ 800 := by omega
  have hai : (a : Int) ≤ 40 := by omega
  have hbi : (b : Int) ≤ 20 := by omega
  have wr1 : IntKind.i64.wrap ((a : Int) * (b : Int)) = (n : Int) := by rw [← hn]; exact IntWalk.i64_in _ (by omega)
  have wr2 : wrap64 ((a : Int) * (b : Int)) = (n : Int) := by rw [← hn]; unfold wrap64; omega
  obtain ⟨f, hf⟩ : ∃ f : Nat → CellM, f = fun k => (xs[k]?).getD blankC := ⟨_, rfl⟩
  have HF : Hid (flatF f n = flatL xs) := Lib.hid (by
    have := flatF_list xs f (fun k c hc => by rw [hf]; simp [hc])
    rwa [hlen.out] at this)
  have HE : Hid (∀ V, Calls Try.prog 42 #[.int .i64 a, .int .i64 b] V fun e w' => e = .returned (.tuple #[.int .i64 a, .int .i64 b]) ∧ w' = V) := Lib.hid (fun V => by have := ends_any a b V; rwa [hw, hh] at this)
  have HO := Lib.hid (of_ok a b (some ⟨g0, 0, none⟩) n c0 X Y hid f w3 HAB.out.1 HAB.out.2.1 HAB.out.2.2 (by rw [HF.out, ← hlen.out]; exact HL3.out.src))
  clear hw hh hn hab hf wW wH
  refine HO.out.mono ?_
  rintro e w4 ⟨p', g', c', rfl, hg4, hp4, hG, hb⟩
  have hgq : Hid (w.heap.size ≤ g' ∧ w.heap.size ≤ p' ∧ w3.heap.size ≤ g' ∧ p < g') := Lib.hid (by have := HB3.out.size; have := lt_heap HQ3.out; omega)
  have HG4 := Lib.hid hG
  have HB4 : Hid (Below w.heap.size w w4) := Lib.hid (HB3.out.trans (hb.mono HB3.out.size))
  have HQ4 := Lib.hid ((Keep.of_below (fun _ => False) hb).heap HQ3.out (fun y => y))
  have HL4 := Lib.hid (HL3.out.keep (Keep.of_below (fun _ => False) hb) (fun y => y))
  have hgg0 : Hid (g' ≠ g0) := Lib.hid (by have := HL3.out.lt; omega)
  obtain ⟨d0, d1, d2, d3, d4, d5⟩ := scr_six HQ4.out
  clear hb HO hG hg4 hp4 HL3 HQ3 HB3
  go_wp2_with fail
  refine (HE.out _).mono ?_
  rintro e w5 ⟨rfl, rfl⟩
  go_wp2_with fail
  have HSK : Hid (∀ V, Keep (fun _ => False) w5 V → V.cell? ⟨p, 2, none⟩ = some (.slice A n c)) := Lib.hid (fun V k => (k.cell (p := ⟨p, 2, none⟩) (lt_heap HQ4.out) (fun y => y)).trans (cell_at HQ4.out 2))
  refine wp_region_noPanic ?_
  refine wp_region_held_drew (S := fun w' => w'.cell? ⟨p, 2, none⟩ = some (.slice A n c)) (by kernel_rfl) (HSK.out _ ((Keep.refl (fun _ => False) w5).drew)) (fun hHeld => ?_)
  refine wpAnyH_take (i := 0) (oi := _) (v := ?va0) rfl (by kernel_rfl) (by kernel_rfl) (by kernel_rfl) (fun _ _ _ h => h) (Or.inl ⟨by rfl, ?hya0⟩) (by assumption) ?resta0
  case hya0 => (intro w hSw; (try dsimp only at hSw); (try simp only [List.getElem_toArray, List.getElem_cons_zero, List.getElem_cons_succ]); go_simp; (try with_reducible rfl))
  (try simp only [Act.put, List.setIfInBounds_toArray, List.set_cons_zero, List.set_cons_succ, List.getElem_toArray, List.getElem_cons_zero, List.getElem_cons_succ])
  refine wpAnyH_take (i := 1) (oi := _) (v := ?va1) rfl (by kernel_rfl) (by kernel_rfl) (by kernel_rfl) (fun _ _ _ h => h) (Or.inl ⟨by rfl, ?hya1⟩) (by assumption) ?resta1
  case hya1 => (intro w hSw; (try dsimp only at hSw); (try simp only [List.getElem_toArray, List.getElem_cons_zero, List.getElem_cons_succ]); go_simp; (try with_reducible rfl))
  (try simp only [Act.put, List.setIfInBounds_toArray, List.set_cons_zero, List.set_cons_succ, List.getElem_toArray, List.getElem_cons_zero, List.getElem_cons_succ])
  refine wpAnyH_take (i := 2) (oi := _) (v := ?va2) rfl (by kernel_rfl) (by kernel_rfl) (by kernel_rfl) (fun _ _ _ h => h) (Or.inl ⟨by rfl, ?hya2⟩) (by assumption) ?resta2
  case hya2 => (intro w hSw; (try dsimp only at hSw); (try simp only [List.getElem_toArray, List.getElem_cons_zero, List.getElem_cons_succ]); go_simp; (try with_reducible rfl))
  (try simp only [Act.put, List.setIfInBounds_toArray, List.set_cons_zero, List.set_cons_succ, List.getElem_toArray, List.getElem_cons_zero, List.getElem_cons_succ])
  refine wpAnyH_take (i := 3) (oi := _) (v := ?va3) rfl (by kernel_rfl) (by kernel_rfl) (by kernel_rfl) (fun _ _ _ h => h) (Or.inl ⟨by rfl, ?hya3⟩) (by assumption) ?resta3
  case hya3 => (intro w hSw; (try dsimp only at hSw); (try simp only [List.getElem_toArray, List.getElem_cons_zero, List.getElem_cons_succ]); go_simp; (try with_reducible rfl))
  (try simp only [Act.put, List.setIfInBounds_toArray, List.set_cons_zero, List.set_cons_succ, List.getElem_toArray, List.getElem_cons_zero, List.getElem_cons_succ])
  refine wpAnyH_take (i := 4) (oi := _) (v := ?va4) rfl (by kernel_rfl) (by kernel_rfl) (by kernel_rfl) (fun _ _ _ h => h) (Or.inl ⟨by rfl, ?hya4⟩) (by assumption) ?resta4
  case hya4 => (intro w hSw; (try dsimp only at hSw); (try simp only [List.getElem_toArray, List.getElem_cons_zero, List.getElem_cons_succ]); go_simp; (try with_reducible rfl))
  (try simp only [Act.put, List.setIfInBounds_toArray, List.set_cons_zero, List.set_cons_succ, List.getElem_toArray, List.getElem_cons_zero, List.getElem_cons_succ])
  refine wpAnyH_take (i := 5) (oi := _) (v := ?va5) rfl (by kernel_rfl) (by kernel_rfl) (by kernel_rfl) (fun _ _ _ h => h) (Or.inl ⟨by rfl, ?hya5⟩) (by assumption) ?resta5
  case hya5 => (intro w hSw; (try dsimp only at hSw); (try simp only [List.getElem_toArray, List.getElem_cons_zero, List.getElem_cons_succ]); go_simp; (try with_reducible rfl))
  (try simp only [Act.put, List.setIfInBounds_toArray, List.set_cons_zero, List.set_cons_succ, List.getElem_toArray, List.getElem_cons_zero, List.getElem_cons_succ])
  refine wpAnyH_take (i := 6) (oi := _) (v := ?va6) rfl (by kernel_rfl) (by kernel_rfl) (by kernel_rfl) (fun _ _ _ h => h) (Or.inl ⟨by rfl, ?hya6⟩) (by assumption) ?resta6
  case hya6 => (intro w hSw; (try dsimp only at hSw); (try simp only [List.getElem_toArray, List.getElem_cons_zero, List.getElem_cons_succ]); go_simp; (try with_reducible rfl))
  (try simp only [Act.put, List.setIfInBounds_toArray, List.set_cons_zero, List.set_cons_succ, List.getElem_toArray, List.getElem_cons_zero, List.getElem_cons_succ])
  refine wpAnyH_take (i := 7) (oi := _) (v := ?va7) rfl (by kernel_rfl) (by kernel_rfl) (by kernel_rfl) (fun _ _ _ h => h) (Or.inl ⟨by rfl, ?hya7⟩) (by assumption) ?resta7
  case hya7 => (intro w hSw; (try dsimp only at hSw); (try simp only [List.getElem_toArray, List.getElem_cons_zero, List.getElem_cons_succ]); go_simp; (try with_reducible rfl))
  (try simp only [Act.put, List.setIfInBounds_toArray, List.set_cons_zero, List.set_cons_succ, List.getElem_toArray, List.getElem_cons_zero, List.getElem_cons_succ])
  refine wpAnyH_take (i := 9) (oi := _) (v := ?va9) rfl (by kernel_rfl) (by kernel_rfl) (by kernel_rfl) (fun _ _ _ h => h) (Or.inl ⟨by rfl, ?hya9⟩) (by assumption) ?resta9
  case hya9 => (intro w hSw; (try dsimp only at hSw); (try simp only [List.getElem_toArray, List.getElem_cons_zero, List.getElem_cons_succ]); go_simp; (try with_reducible rfl))
  (try simp only [Act.put, List.setIfInBounds_toArray, List.set_cons_zero, List.set_cons_succ, List.getElem_toArray, List.getElem_cons_zero, List.getElem_cons_succ])
  refine wpAnyH_take (i := 10) (oi := _) (v := ?va10) rfl (by kernel_rfl) (by kernel_rfl) (by kernel_rfl) (fun _ _ _ h => h) (Or.inl ⟨by rfl, ?hya10⟩) (by assumption) ?resta10
  case hya10 => (intro w hSw; (try dsimp only at hSw); (try simp only [List.getElem_toArray, List.getElem_cons_zero, List.getElem_cons_succ]); go_simp; (try with_reducible rfl))
  (try simp only [Act.put, List.setIfInBounds_toArray, List.set_cons_zero, List.set_cons_succ, List.getElem_toArray, List.getElem_cons_zero, List.getElem_cons_succ])
  refine wpAnyH_ready (rs := [8]) (by kernel_rfl) (by simp) ?_
  refine AllReadyH.cons (o := _) rfl (fun K hK => ?_) AllReadyH.nil
  (try simp only [List.getElem_toArray, List.getElem_cons_zero, List.getElem_cons_succ])
  go_simp
  refine (grid_cells _ p' g' c' a b n f (HG4.out.keep ((Keep.refl (fun _ => False) w5).drew) (fun y => y) (fun y => y))).mono ?_; rintro e w6 ⟨g6, c6, rfl, q1, q2, q3, q4, q5, q6, q7⟩; have K6 : Hid (Keep (fun _ => False) w5 w6) := Lib.hid (((Keep.refl (fun _ => False) w5).drew).trans (Keep.of_below (fun _ => False) q7) (fun _ _ y => y)); have HS6 : Hid (Src w6 (some ⟨g6, 0, none⟩) (n * 6) (flatL xs)) := Lib.hid (by rw [← HF.out]; exact q3.src q2); clear q1 q2 q3 q4 q5 q6 q7
  refine hK.out _ _ ?_ (fun hHeld => ?_)
  · exact HSK.out _ K6.out
  clear hK K
  (try simp only [Act.put, List.setIfInBounds_toArray, List.set_cons_zero, List.set_cons_succ, List.getElem_toArray, List.getElem_cons_zero, List.getElem_cons_succ])
  refine wpAnyH_ready (rs := [11]) (by kernel_rfl) (by simp) ?_
  refine AllReadyH.cons (o := _) rfl (fun K hK => ?_) AllReadyH.nil
  (try simp only [List.getElem_toArray, List.getElem_cons_zero, List.getElem_cons_succ])
  go_simp
  refine (same_Cells (some ⟨g6, 0, none⟩) A n c6 c xs w6 HS6.out ((HX0.out.keep (Keep.of_below (fun _ => False) HB4.out)).keep K6.out) (by omega)).mono ?_; rintro e w7 ⟨rfl, k7, hw7⟩; have K7 : Hid (Keep (fun _ => False) w5 w7) := Lib.hid (by rw [hw7]; exact K6.out.drewN k7); clear hw7
  refine hK.out _ _ ?_ (fun hHeld => ?_)
  · exact HSK.out _ K7.out
  clear hK K
  (try simp only [Act.put, List.setIfInBounds_toArray, List.set_cons_zero, List.set_cons_succ, List.getElem_toArray, List.getElem_cons_zero, List.getElem_cons_succ])
  refine wpAnyH_take (i := 12) (oi := _) (v := ?va12) rfl (by kernel_rfl) (by kernel_rfl) (by kernel_rfl) (fun _ _ _ h => h) (Or.inl ⟨by rfl, ?hya12⟩) (by assumption) ?resta12
  case hya12 => (intro w hSw; (try dsimp only at hSw); (try simp only [List.getElem_toArray, List.getElem_cons_zero, List.getElem_cons_succ]); go_simp; (try with_reducible rfl))
  (try simp only [Act.put, List.setIfInBounds_toArray, List.set_cons_zero, List.set_cons_succ, List.getElem_toArray, List.getElem_cons_zero, List.getElem_cons_succ])
  refine wpAnyH_take (i := 13) (oi := _) (v := ?va13) rfl (by kernel_rfl) (by kernel_rfl) (by kernel_rfl) (fun _ _ _ h => h) (Or.inl ⟨by rfl, ?hya13⟩) (by assumption) ?resta13
  case hya13 => (intro w hSw; (try dsimp only at hSw); (try simp only [List.getElem_toArray, List.getElem_cons_zero, List.getElem_cons_succ]); go_simp; (try with_reducible rfl))
  (try simp only [Act.put, List.setIfInBounds_toArray, List.set_cons_zero, List.set_cons_succ, List.getElem_toArray, List.getElem_cons_zero, List.getElem_cons_succ])
  refine wpAnyH_take (i := 14) (oi := _) (v := ?va14) rfl (by kernel_rfl) (by kernel_rfl) (by kernel_rfl) (fun _ _ _ h => h) (Or.inl ⟨by rfl, ?hya14⟩) (by assumption) ?resta14
  case hya14 => (intro w hSw; (try dsimp only at hSw); (try simp only [List.getElem_toArray, List.getElem_cons_zero, List.getElem_cons_succ]); go_simp; (try with_reducible rfl))
  (try simp only [Act.put, List.setIfInBounds_toArray, List.set_cons_zero, List.set_cons_succ, List.getElem_toArray, List.getElem_cons_zero, List.getElem_cons_succ])
  refine wpAnyH_take (i := 15) (oi := _) (v := ?va15) rfl (by kernel_rfl) (by kernel_rfl) (by kernel_rfl) (fun _ _ _ h => h) (Or.inl ⟨by rfl, ?hya15⟩) (by assumption) ?resta15
  case hya15 => (intro w hSw; (try dsimp only at hSw); (try simp only [List.getElem_toArray, List.getElem_cons_zero, List.getElem_cons_succ]); go_simp; (try with_reducible rfl))
  (try simp only [Act.put, List.setIfInBounds_toArray, List.set_cons_zero, List.set_cons_succ, List.getElem_toArray, List.getElem_cons_zero, List.getElem_cons_succ])
  refine wpAnyH_take (i := 17) (oi := _) (v := ?va17) rfl (by kernel_rfl) (by kernel_rfl) (by kernel_rfl) (fun _ _ _ h => h) (Or.inl ⟨by rfl, ?hya17⟩) (by assumption) ?resta17
  case hya17 => (intro w hSw; (try dsimp only at hSw); (try simp only [List.getElem_toArray, List.getElem_cons_zero, List.getElem_cons_succ]); go_simp; (try with_reducible rfl))
  (try simp only [Act.put, List.setIfInBounds_toArray, List.set_cons_zero, List.set_cons_succ, List.getElem_toArray, List.getElem_cons_zero, List.getElem_cons_succ])
  refine wpAnyH_ready (rs := [16]) (by kernel_rfl) (by simp) ?_
  refine AllReadyH.cons (o := _) rfl (fun K hK => ?_) AllReadyH.nil
  (try simp only [List.getElem_toArray, List.getElem_cons_zero, List.getElem_cons_succ])
  go_simp
  refine (grid_W _ p' g' c' a b n f (HG4.out.keep K7.out (fun y => y) (fun y => y))).mono ?_; rintro e w8 ⟨rfl, rfl⟩
  refine hK.out _ _ ?_ (fun hHeld => ?_)
  · exact HSK.out _ K7.out
  clear hK K
  (try simp only [Act.put, List.setIfInBounds_toArray, List.set_cons_zero, List.set_cons_succ, List.getElem_toArray, List.getElem_cons_zero, List.getElem_cons_succ])
  refine wpAnyH_take (i := 18) (oi := _) (v := ?va18) rfl (by kernel_rfl) (by kernel_rfl) (by kernel_rfl) (fun _ _ _ h => h) (Or.inl ⟨by rfl, ?hya18⟩) (by assumption) ?resta18
  case hya18 => (intro w hSw; (try dsimp only at hSw); (try simp only [List.getElem_toArray, List.getElem_cons_zero, List.getElem_cons_succ]); go_simp; (try with_reducible rfl))
  (try simp only [Act.put, List.setIfInBounds_toArray, List.set_cons_zero, List.set_cons_succ, List.getElem_toArray, List.getElem_cons_zero, List.getElem_cons_succ])
  refine wpAnyH_take (i := 19) (oi := _) (v := ?va19) rfl (by kernel_rfl) (by kernel_rfl) (by kernel_rfl) (fun _ _ _ h => h) (Or.inl ⟨by rfl, ?hya19⟩) (by assumption) ?resta19
  case hya19 => (intro w hSw; (try dsimp only at hSw); (try simp only [List.getElem_toArray, List.getElem_cons_zero, List.getElem_cons_succ]); go_simp; (try with_reducible rfl))
  (try simp only [Act.put, List.setIfInBounds_toArray, List.set_cons_zero, List.set_cons_succ, List.getElem_toArray, List.getElem_cons_zero, List.getElem_cons_succ])
  refine wpAnyH_done (by kernel_rfl) ?_ _
  refine NoPanic.normal ?_
  have HG8 := Lib.hid (HG4.out.keep K7.out (fun y => y) (fun y => y))
  have HQ8 := Lib.hid (K7.out.heap HQ4.out (fun y => y))
  have HL8 := Lib.hid (HL4.out.keep K7.out (fun y => y))
  have HB8 : Hid (Below w.heap.size w w8) := Lib.hid (HB4.out.trans (K7.out.below HB4.out.size (fun _ _ e => e.elim)))
  clear hHeld d0 d1 d2 d3 d4 d5
  have hgp8 : Hid (g' < w8.heap.size) := Lib.hid HG8.out.hg
  go_wp2_with fail
  refine (grid_fill w8 p' g' c' a b n f 0 n 0 n ⟨122, ⟨0, 0, false, false, false⟩⟩ HG8.out (by omega) (fun _ => rfl)).mono ?_
  rintro e w9 ⟨rfl, hp⟩
  have HQ9 := Lib.hid (hp.keep.heap HQ8.out (fun e => by have := hgq.out; omega))
  have HL9 := Lib.hid (HL8.out.keep hp.keep (fun e => hgg0.out e.symm))
  have HB9 : Hid (Below w.heap.size w w9) := Lib.hid (HB8.out.trans (hp.keep.below HB8.out.size (fun k hk e => by have := hgq.out; omega)))
  have HX9 : Hid (Src w9 A (n * 6) (flatL xs)) := Lib.hid (HX0.out.keep (Keep.of_below (fun _ => False) HB9.out))
  clear hp HG8 HQ8 HL8 HB8 hgp8
  go_wp2_with fail
  refine (nil_fill CellM.z w9).mono ?_
  rintro e w10 ⟨rfl, k10⟩
  have K10 := Lib.hid k10
  clear k10
  go_wp2_with fail
  refine (nil_up CellM.z w10).mono ?_
  rintro e w11 ⟨rfl, k11⟩
  have K11 : Hid (Keep (fun _ => False) w9 w11) := Lib.hid (K10.out.trans k11 (fun _ _ y => y))
  clear k11
  have HQ11 := Lib.hid (K11.out.heap HQ9.out (fun y => y))
  have HL11 := Lib.hid (HL9.out.keep K11.out (fun y => y))
  have HX11 := Lib.hid (HX9.out.keep K11.out)
  have HB11 : Hid (Below w.heap.size w w11) := Lib.hid (HB9.out.trans (K11.out.below HB9.out.size (fun _ _ e => e.elim)))
  clear K10 K11 HQ9 HL9 HX9 HB9
  obtain ⟨d0, d1, d2, d3, d4, d5⟩ := scr_six HQ11.out
  go_wp2_with fail
  refine (stays_Cells g0 c0 A n c xs w11 HL11.out HX11.out (by omega)).mono ?_
  rintro e w12 ⟨rfl, k12, hw12⟩
  have HQ12 : Hid (w12.heap[p]? = some (.cells #[.int .i64 a, .int .i64 b, .slice A n c, .int .i64 X, .int .i64 Y, .bool hid] 67 (0, 0))) := Lib.hid (by rw [hw12]; exact HQ11.out)
  have HX12 : Hid (Src w12 A (n * 6) (flatL xs)) := Lib.hid (by rw [hw12]; exact HX11.out.keep ((Keep.refl (fun _ => False) w11).drewN k12))
  have HB12 : Hid (Below w.heap.size w w12) := Lib.hid (by rw [hw12]; exact Below.drewN' HB11.out k12)
  clear hw12 HQ11 HX11 HB11 HL11 d0 d1 d2 d3 d4 d5
  obtain ⟨d0, d1, d2, d3, d4, d5⟩ := scr_six HQ12.out
  go_wp2_with fail
  refine (nil_W _).mono ?_
  rintro e w13 ⟨rfl, rfl⟩
  go_wp2_with fail
  refine (nil_H _).mono ?_
  rintro e w14 ⟨rfl, rfl⟩
  go_wp2_with fail
  refine (nil_set (some ⟨w14.heap.size, 0, none⟩) 1 1 _).mono ?_
  rintro e w15 ⟨rfl, hw15⟩
  have HB15 : Hid (Below w.heap.size w w15) := Lib.hid (by rw [hw15]; exact HB12.out.alloc HB12.out.size _)
  have HQ15 : Hid (w15.heap[p]? = some (.cells #[.int .i64 a, .int .i64 b, .slice A n c, .int .i64 X, .int .i64 Y, .bool hid] 67 (0, 0))) := Lib.hid (by rw [hw15]; exact heap_alloc HQ12.out _)
  have HX15 : Hid (Src w15 A (n * 6) (flatL xs)) := Lib.hid (by rw [hw15]; exact HX12.out.keep ((Keep.refl (fun _ => False) w14).alloc _))
  clear hw15 HB12 HQ12 HX12 d0 d1 d2 d3 d4 d5
  go_wp2_with fail
  refine (nil_cells w15).mono ?_
  rintro e w16 ⟨rfl, k16, rfl⟩
  go_wp2_with fail
  refine (nil_text _).mono ?_
  rintro e w17 ⟨rfl, k17, rfl⟩
  go_wp2_with fail
  refine (nil_copy _).mono ?_
  rintro e w18 ⟨rfl, rfl⟩
  go_wp2_with fail
  refine (nil_at _).mono ?_
  rintro e w19 ⟨rfl, hb⟩
  have HBd : Hid (Below w15.heap.size w15 (w15.drewN (k16 + k17))) := Lib.hid (Below.drewN' (Below.refl _ _) (k16 + k17))
  have HB18 : Hid (Below w.heap.size w (w15.drewN (k16 + k17))) := Lib.hid (HB15.out.trans (HBd.out.mono HB15.out.size))
  have HB19 : Hid (Below w.heap.size w w19) := Lib.hid (HB18.out.trans (hb.mono HB18.out.size))
  have K19 : Hid (Keep (fun _ => False) w15 w19) := Lib.hid ((Keep.of_below (fun _ => False) HBd.out).trans (Keep.of_below (fun _ => False) hb) (fun _ _ y => y))
  have HQ19 := Lib.hid (K19.out.heap HQ15.out (fun y => y))
  have HX19 := Lib.hid (HX15.out.keep K19.out)
  clear hb HBd HB18 HB15 HQ15 HX15
  obtain ⟨d0, d1, d2, d3, d4, d5⟩ := scr_six HQ19.out
  simp only [CellM.v, CellM.z, At.z]
  go_wp2_with fail
  refine (scr_same a b A n c X Y hid xs w19 HX19.out (by omega)).mono ?_
  rintro e w20 ⟨rfl, hb⟩
  have HB20 : Hid (Below w.heap.size w w20) := Lib.hid (HB19.out.trans (hb.mono HB19.out.size))
  clear hb
  go_wp2_with fail
  go_ret
  exact ⟨rfl, HB20.out⟩

end Go.Proofs.Ytaeemecnjmkifaa
