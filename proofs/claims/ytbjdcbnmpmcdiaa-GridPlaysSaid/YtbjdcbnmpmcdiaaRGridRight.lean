/- grid: the document's Right. By program (rgn/XRGridRight.py). Own work. -/
import Derived.Test.YtbjdcbnmpmcdiaaRGrid
import Derived.Deep.Cut
namespace Go.Proofs.Ytbjdcbnmpmcdiaa
set_option linter.unusedVariables false
set_option linter.unusedSimpArgs false
open Go.RowKit

/-- A row behind k steps. -/
def shiftRight (W x k : Nat) (c : CellM) (G : Nat → CellM) (j : Nat) : CellM := if j < x then G j else if j < x + k then c else G (j - k)

set_option maxRecDepth 100000 in
set_option maxHeartbeats 3200000 in
theorem ref_Right_in (w : World) (r lb lc W H : Nat) (R : Nat → Nat) (F : Nat → Nat → CellM) (x y : Nat) (n : Int) (c : CellM) (h : RGrid w r lb lc W H R F) (hx : x < W) (hy : y < H) :
    Calls Try.prog 22 #[.pointer (some ⟨r, 0, none⟩), .int .i64 x, .int .i64 y, .int .i64 n, c.v] w fun e w' => e = .returned (.tuple #[]) ∧ Keep (· = R y) w w' ∧ Lies w' (R y) 0 W (shiftRight W x (min n.toNat W) c (F y)) := by
  have HG := Lib.hid h
  obtain ⟨g, hg⟩ : ∃ g, g = R y := ⟨_, rfl⟩
  have hrg : r ≠ g := by rw [hg]; exact fun e => (h.nr y hy).1 e.symm
  have hlg : lb ≠ g := by rw [hg]; exact fun e => (h.nr y hy).2 e.symm
  have hgl : g < w.heap.size := by rw [hg]; exact h.hR y hy
  have HL0 : Hid (Lies w g 0 W (F y)) := Lib.hid (by rw [hg]; exact h.lie y hy)
  have HI : Hid (∀ V, Keep (· = g) w V → Calls Try.prog 31 #[.pointer (some ⟨r, 0, none⟩), .int .i64 x, .int .i64 y] V fun e w' => e = .returned (.bool true) ∧ w' = V) := Lib.hid (fun V k => by
    have hs := h.cw.keep k hrg
    have hq := h.ch.keep k hrg
    have := ref_in_cells V r W H x y hs.1 hq.1
    rwa [decide_eq_true ⟨by omega, by omega, by omega, by omega⟩] at this)
  have HC : Hid (∀ V, Keep (· = g) w V → V.cell? ⟨r, 0, none⟩ = some (.int .i64 W) ∧ V.cell? ⟨r, 2, none⟩ = some (.slice (some ⟨lb, 0, none⟩) H lc) ∧ V.cell? ⟨lb, y, none⟩ = some (.slice (some ⟨g, 0, none⟩) W W)) := Lib.hid (fun V k => ⟨(h.cw.keep k hrg).1, (h.cs.keep k hrg).1, by have := ((h.row y hy).keep k hlg).1; rwa [← hg] at this⟩)
  rw [← hg]
  obtain ⟨G, hGq⟩ : ∃ G, G = F y := ⟨_, rfl⟩
  rw [← hGq] at HL0 ⊢
  have hw := h.hw
  have hw2 : (2 : Int) ≤ (W : Int) := by omega
  have hw40 : (W : Int) ≤ 40 := by omega
  have hyi : (y : Int) < (H : Int) := by omega
  have hy0 : (0 : Int) ≤ (y : Int) := by omega
  have hxi : (x : Int) < (W : Int) := by omega
  have hx0 : (0 : Int) ≤ (x : Int) := by omega
  obtain ⟨M, hM⟩ : ∃ M, M = min n.toNat W := ⟨_, rfl⟩
  have HM := Lib.hid hM
  rw [← hM]
  have hcl : lb < w.heap.size := h.hl
  have hrl : r < w.heap.size := h.hr
  clear h hg hGq hM
  obtain ⟨w1, hw1⟩ : ∃ w1, w1 = w.alloc (.cells (vcells c) 42) := ⟨_, rfl⟩
  have HK1 : Hid (Keep (fun _ => False) w w1) := Lib.hid (by rw [hw1]; exact (Keep.refl _ w).alloc _)
  have HL1 : Hid (Lies w1 g 0 W G) := Lib.hid (HL0.out.keep hgl HK1.out (fun e => e))
  obtain ⟨q, hq⟩ : ∃ q, q = w.heap.size := ⟨_, rfl⟩
  have HQ1 : Hid (w1.heap[q]? = some (.cells (vcells c) 42 (0, 0))) := Lib.hid (by rw [hw1, hq]; exact heap_alloc_new w _)
  have hqg : q ≠ g := by omega
  have hgl1 : g < w1.heap.size := by rw [hw1]; simp; omega
  have HW : Hid (∀ V, Keep (· = g) w1 V → Keep (· = g) w V) := Lib.hid (fun V k => (HK1.out.mono (fun _ _ e => e.elim) : Keep (· = g) w w1).trans k (fun _ _ e => e))
  obtain ⟨xr, ⟨xf, xg, xb, xu, xi⟩⟩ := c
  have HC' := HQ1
  unfold vcells at hw1
  dsimp only at hw1
  simp only [CellM.v]
  go_enter Try.func22, Try.ntmps22
  go_wp2_with fail
  rw [← hw1]
  rw [← hq]
  clear hw1 hq
  go_loopw [10, 11] (fun i _ wr => ∃ k : Nat, i = .int .i64 k ∧ k ≤ M ∧ Hid (Keep (· = g) w1 wr) ∧ Hid (Lies wr g 0 W (shiftRight W x k ⟨xr, ⟨xf, xg, xb, xu, xi⟩⟩ G))) (fun i _ _ => M - (intOf i).toNat)
  case atStart => exact ⟨0, rfl, Nat.zero_le _, Lib.hid (Keep.refl _ _), Lib.hid (HL1.out.congr (fun j hj => by unfold shiftRight; simp <;> omega))⟩
  case round =>
    obtain ⟨k, rfl, hk, HK, HL⟩ := hrel
    have HKw := Lib.hid (HW.out _ HK.out)
    by_cases hkm : k < M
    · have hMe := HM.out
      have k1 : (k : Int) < n := by omega
      have k2 : (k : Int) < (W : Int) := by omega
      have c0 := (HC.out _ HKw.out).1
      clear hMe
      obtain ⟨v, hv⟩ : ∃ v, W = v + 1 := ⟨W - 1, by omega⟩
      have hvw : IntKind.i64.wrap ((W : Int) - 1) = (v : Int) := by rw [hv]; rw [IntWalk.i64_in _ (by omega)]; omega
      have HV := Lib.hid hv
      clear hv
      go_wp2_with fail
      refine (HI.out _ HKw.out).mono ?_
      rintro e w2 ⟨rfl, rfl⟩
      go_wp2_with fail
      obtain ⟨J, hJ⟩ : ∃ J, J = shiftRight W x k ⟨xr, ⟨xf, xg, xb, xu, xi⟩⟩ G := ⟨_, rfl⟩
      have HJ := Lib.hid hJ
      rw [← hJ] at HL
      clear hJ c0
      go_loopw [11] (fun i w3 => ∃ d : Nat, i = .int .i64 d ∧ (x ≤ d ∧ d < W) ∧ Hid (Keep (· = g) w1 w3) ∧ Hid (Lies w3 g 0 W (fun j => if d < j then J (j - 1) else J j))) (fun i _ => (intOf i).toNat)
      case atStart => exact ⟨v, rfl, by have := HV.out; omega, HK, Lib.hid (HL.out.congr (fun j hj => by have := HV.out; rw [if_neg (by omega)]))⟩
      case round =>
        obtain ⟨d, rfl, hd, HK3, HL3⟩ := hrel
        have HKw3 := Lib.hid (HW.out _ HK3.out)
        obtain ⟨c0, c2, cl⟩ := HC.out _ HKw3.out
        by_cases hgt : x < d
        · have gt : ((d : Int) > (x : Int)) := by omega
          obtain ⟨e, he⟩ : ∃ e : Nat, e = d - 1 := ⟨_, rfl⟩
          have hew : IntKind.i64.wrap ((d : Int) - 1) = (e : Int) := by rw [he]; rw [IntWalk.i64_in _ (by omega)]; omega
          skip
          have he0 : (0 : Int) ≤ (e : Int) := by omega
          have heW : (e : Int) < (W : Int) := by omega
          have hd0 : (0 : Int) ≤ (d : Int) := by omega
          have hdW : (d : Int) < (W : Int) := by omega
          have hed : e ≠ d := by omega
          obtain ⟨⟨cr, ⟨cf, cg, cb, cu, ci⟩⟩, hcr⟩ : ∃ c, J e = c := ⟨_, rfl⟩
          have s6 : Hid (SixAt wr g (e * 6) ⟨cr, ⟨cf, cg, cb, cu, ci⟩⟩) := Lib.hid (by
            have := HL3.out.six (j := e) (by omega)
            rw [if_neg (by omega), hcr] at this
            exact this)
          have hr3 : r < wr.heap.size := by have := HKw3.out.size; omega
          have hl3 : lb < wr.heap.size := by have := HKw3.out.size; omega
          have HE := Lib.hid (And.intro he hcr)
          clear he hcr
          go_wp2_with fail
          refine wp_region_noPanic ?_
          refine wp_region_held_drew (S := (fun V => V.cell? ⟨r, 2, none⟩ = some (.slice (some ⟨lb, 0, none⟩) H lc) ∧ V.cell? ⟨lb, y, none⟩ = some (.slice (some ⟨g, 0, none⟩) W W) ∧ SixAt V g (e * 6) ⟨cr, ⟨cf, cg, cb, cu, ci⟩⟩)) (by kernel_rfl) ⟨c2, cl, s6.out⟩ (fun hHeld => ?_)
          refine wpAnyH_take (i := 0) (oi := _) (v := ?va0) rfl (by kernel_rfl) (by kernel_rfl) (by kernel_rfl) (fun _ _ _ h => h) (Or.inl ⟨by rfl, ?hya0⟩) (by assumption) ?resta0
          case hya0 => (intro w hSw; (try dsimp only [SixAt] at hSw); (try simp only [List.getElem_toArray, List.getElem_cons_zero, List.getElem_cons_succ]); go_simp; (try with_reducible rfl))
          (try simp only [Act.put, List.setIfInBounds_toArray, List.set_cons_zero, List.set_cons_succ, List.getElem_toArray, List.getElem_cons_zero, List.getElem_cons_succ])
          refine wpAnyH_take (i := 1) (oi := _) (v := ?va1) rfl (by kernel_rfl) (by kernel_rfl) (by kernel_rfl) (fun _ _ _ h => h) (Or.inl ⟨by rfl, ?hya1⟩) (by assumption) ?resta1
          case hya1 => (intro w hSw; (try dsimp only [SixAt] at hSw); (try simp only [List.getElem_toArray, List.getElem_cons_zero, List.getElem_cons_succ]); go_simp; (try with_reducible rfl))
          (try simp only [Act.put, List.setIfInBounds_toArray, List.set_cons_zero, List.set_cons_succ, List.getElem_toArray, List.getElem_cons_zero, List.getElem_cons_succ])
          refine wpAnyH_take (i := 2) (oi := _) (v := ?va2) rfl (by kernel_rfl) (by kernel_rfl) (by kernel_rfl) (fun _ _ _ h => h) (Or.inl ⟨by rfl, ?hya2⟩) (by assumption) ?resta2
          case hya2 => (intro w hSw; (try dsimp only [SixAt] at hSw); (try simp only [List.getElem_toArray, List.getElem_cons_zero, List.getElem_cons_succ]); go_simp; (try with_reducible rfl))
          (try simp only [Act.put, List.setIfInBounds_toArray, List.set_cons_zero, List.set_cons_succ, List.getElem_toArray, List.getElem_cons_zero, List.getElem_cons_succ])
          refine wpAnyH_take (i := 3) (oi := _) (v := ?va3) rfl (by kernel_rfl) (by kernel_rfl) (by kernel_rfl) (fun _ _ _ h => h) (Or.inl ⟨by rfl, ?hya3⟩) (by assumption) ?resta3
          case hya3 => (intro w hSw; (try dsimp only [SixAt] at hSw); (try simp only [List.getElem_toArray, List.getElem_cons_zero, List.getElem_cons_succ]); go_simp; (try with_reducible rfl))
          (try simp only [Act.put, List.setIfInBounds_toArray, List.set_cons_zero, List.set_cons_succ, List.getElem_toArray, List.getElem_cons_zero, List.getElem_cons_succ])
          refine wpAnyH_take (i := 4) (oi := _) (v := ?va4) rfl (by kernel_rfl) (by kernel_rfl) (by kernel_rfl) (fun _ _ _ h => h) (Or.inl ⟨by rfl, ?hya4⟩) (by assumption) ?resta4
          case hya4 => (intro w hSw; (try dsimp only [SixAt] at hSw); (try simp only [List.getElem_toArray, List.getElem_cons_zero, List.getElem_cons_succ]); go_simp; (try with_reducible rfl))
          (try simp only [Act.put, List.setIfInBounds_toArray, List.set_cons_zero, List.set_cons_succ, List.getElem_toArray, List.getElem_cons_zero, List.getElem_cons_succ])
          refine wpAnyH_take (i := 5) (oi := _) (v := ?va5) rfl (by kernel_rfl) (by kernel_rfl) (by kernel_rfl) (fun _ _ _ h => h) (Or.inl ⟨by rfl, ?hya5⟩) (by assumption) ?resta5
          case hya5 => (intro w hSw; (try dsimp only [SixAt] at hSw); (try simp only [List.getElem_toArray, List.getElem_cons_zero, List.getElem_cons_succ]); go_simp; (try with_reducible rfl))
          (try simp only [Act.put, List.setIfInBounds_toArray, List.set_cons_zero, List.set_cons_succ, List.getElem_toArray, List.getElem_cons_zero, List.getElem_cons_succ])
          refine wpAnyH_take (i := 6) (oi := _) (v := ?va6) rfl (by kernel_rfl) (by kernel_rfl) (by kernel_rfl) (fun _ _ _ h => h) (Or.inl ⟨by rfl, ?hya6⟩) (by assumption) ?resta6
          case hya6 => (intro w hSw; (try dsimp only [SixAt] at hSw); (try simp only [List.getElem_toArray, List.getElem_cons_zero, List.getElem_cons_succ]); go_simp; (try with_reducible rfl))
          (try simp only [Act.put, List.setIfInBounds_toArray, List.set_cons_zero, List.set_cons_succ, List.getElem_toArray, List.getElem_cons_zero, List.getElem_cons_succ])
          refine wpAnyH_take (i := 7) (oi := _) (v := ?va7) rfl (by kernel_rfl) (by kernel_rfl) (by kernel_rfl) (fun _ _ _ h => h) (Or.inl ⟨by rfl, ?hya7⟩) (by assumption) ?resta7
          case hya7 => (intro w hSw; (try dsimp only [SixAt] at hSw); (try simp only [List.getElem_toArray, List.getElem_cons_zero, List.getElem_cons_succ]); go_simp; (try with_reducible rfl))
          (try simp only [Act.put, List.setIfInBounds_toArray, List.set_cons_zero, List.set_cons_succ, List.getElem_toArray, List.getElem_cons_zero, List.getElem_cons_succ])
          refine wpAnyH_take (i := 8) (oi := _) (v := ?va8) rfl (by kernel_rfl) (by kernel_rfl) (by kernel_rfl) (fun _ _ _ h => h) (Or.inl ⟨by rfl, ?hya8⟩) (by assumption) ?resta8
          case hya8 => (intro w hSw; (try dsimp only [SixAt] at hSw); (try simp only [List.getElem_toArray, List.getElem_cons_zero, List.getElem_cons_succ]); go_simp; (try with_reducible rfl))
          (try simp only [Act.put, List.setIfInBounds_toArray, List.set_cons_zero, List.set_cons_succ, List.getElem_toArray, List.getElem_cons_zero, List.getElem_cons_succ])
          refine wpAnyH_take (i := 9) (oi := _) (v := ?va9) rfl (by kernel_rfl) (by kernel_rfl) (by kernel_rfl) (fun _ _ _ h => h) (Or.inl ⟨by rfl, ?hya9⟩) (by assumption) ?resta9
          case hya9 => (intro w hSw; (try dsimp only [SixAt] at hSw); (try simp only [List.getElem_toArray, List.getElem_cons_zero, List.getElem_cons_succ]); go_simp; (try with_reducible rfl))
          (try simp only [Act.put, List.setIfInBounds_toArray, List.set_cons_zero, List.set_cons_succ, List.getElem_toArray, List.getElem_cons_zero, List.getElem_cons_succ])
          refine wpAnyH_take (i := 10) (oi := _) (v := ?va10) rfl (by kernel_rfl) (by kernel_rfl) (by kernel_rfl) (fun _ _ _ h => h) (Or.inl ⟨by rfl, ?hya10⟩) (by assumption) ?resta10
          case hya10 => (intro w hSw; (try dsimp only [SixAt] at hSw); (try simp only [List.getElem_toArray, List.getElem_cons_zero, List.getElem_cons_succ]); go_simp; (try with_reducible rfl))
          (try simp only [Act.put, List.setIfInBounds_toArray, List.set_cons_zero, List.set_cons_succ, List.getElem_toArray, List.getElem_cons_zero, List.getElem_cons_succ])
          refine wpAnyH_take (i := 11) (oi := _) (v := ?va11) rfl (by kernel_rfl) (by kernel_rfl) (by kernel_rfl) (fun _ _ _ h => h) (Or.inl ⟨by rfl, ?hya11⟩) (by assumption) ?resta11
          case hya11 => (intro w hSw; (try dsimp only [SixAt] at hSw); (try simp only [List.getElem_toArray, List.getElem_cons_zero, List.getElem_cons_succ]); go_simp; (try with_reducible rfl))
          (try simp only [Act.put, List.setIfInBounds_toArray, List.set_cons_zero, List.set_cons_succ, List.getElem_toArray, List.getElem_cons_zero, List.getElem_cons_succ])
          refine wpAnyH_take (i := 12) (oi := _) (v := ?va12) rfl (by kernel_rfl) (by kernel_rfl) (by kernel_rfl) (fun _ _ _ h => h) (Or.inl ⟨by rfl, ?hya12⟩) (by assumption) ?resta12
          case hya12 => (intro w hSw; (try dsimp only [SixAt] at hSw); (try simp only [List.getElem_toArray, List.getElem_cons_zero, List.getElem_cons_succ]); go_simp; (try with_reducible rfl))
          (try simp only [Act.put, List.setIfInBounds_toArray, List.set_cons_zero, List.set_cons_succ, List.getElem_toArray, List.getElem_cons_zero, List.getElem_cons_succ])
          refine wpAnyH_take (i := 13) (oi := _) (v := ?va13) rfl (by kernel_rfl) (by kernel_rfl) (by kernel_rfl) (fun _ _ _ h => h) (Or.inl ⟨by rfl, ?hya13⟩) (by assumption) ?resta13
          case hya13 => (intro w hSw; (try dsimp only [SixAt] at hSw); (try simp only [List.getElem_toArray, List.getElem_cons_zero, List.getElem_cons_succ]); go_simp; (try with_reducible rfl))
          (try simp only [Act.put, List.setIfInBounds_toArray, List.set_cons_zero, List.set_cons_succ, List.getElem_toArray, List.getElem_cons_zero, List.getElem_cons_succ])
          refine wpAnyH_take (i := 14) (oi := _) (v := ?va14) rfl (by kernel_rfl) (by kernel_rfl) (by kernel_rfl) (fun _ _ _ h => h) (Or.inl ⟨by rfl, ?hya14⟩) (by assumption) ?resta14
          case hya14 => (intro w hSw; (try dsimp only [SixAt] at hSw); (try simp only [List.getElem_toArray, List.getElem_cons_zero, List.getElem_cons_succ]); go_simp; (try with_reducible rfl))
          (try simp only [Act.put, List.setIfInBounds_toArray, List.set_cons_zero, List.set_cons_succ, List.getElem_toArray, List.getElem_cons_zero, List.getElem_cons_succ])
          refine wpAnyH_take (i := 15) (oi := _) (v := ?va15) rfl (by kernel_rfl) (by kernel_rfl) (by kernel_rfl) (fun _ _ _ h => h) (Or.inl ⟨by rfl, ?hya15⟩) (by assumption) ?resta15
          case hya15 => (intro w hSw; (try dsimp only [SixAt] at hSw); (try simp only [List.getElem_toArray, List.getElem_cons_zero, List.getElem_cons_succ]); go_simp; (try with_reducible rfl))
          (try simp only [Act.put, List.setIfInBounds_toArray, List.set_cons_zero, List.set_cons_succ, List.getElem_toArray, List.getElem_cons_zero, List.getElem_cons_succ])
          refine wpAnyH_take (i := 16) (oi := _) (v := ?va16) rfl (by kernel_rfl) (by kernel_rfl) (by kernel_rfl) (fun _ _ _ h => h) (Or.inl ⟨by rfl, ?hya16⟩) (by assumption) ?resta16
          case hya16 => (intro w hSw; (try dsimp only [SixAt] at hSw); (try simp only [List.getElem_toArray, List.getElem_cons_zero, List.getElem_cons_succ]); go_simp; (try with_reducible rfl))
          (try simp only [Act.put, List.setIfInBounds_toArray, List.set_cons_zero, List.set_cons_succ, List.getElem_toArray, List.getElem_cons_zero, List.getElem_cons_succ])
          refine wpAnyH_take (i := 17) (oi := _) (v := ?va17) rfl (by kernel_rfl) (by kernel_rfl) (by kernel_rfl) (fun _ _ _ h => h) (Or.inl ⟨by rfl, ?hya17⟩) (by assumption) ?resta17
          case hya17 => (intro w hSw; (try dsimp only [SixAt] at hSw); (try simp only [List.getElem_toArray, List.getElem_cons_zero, List.getElem_cons_succ]); go_simp; (try with_reducible rfl))
          (try simp only [Act.put, List.setIfInBounds_toArray, List.set_cons_zero, List.set_cons_succ, List.getElem_toArray, List.getElem_cons_zero, List.getElem_cons_succ])
          refine wpAnyH_take (i := 18) (oi := _) (v := ?va18) rfl (by kernel_rfl) (by kernel_rfl) (by kernel_rfl) (fun _ _ _ h => h) (Or.inl ⟨by rfl, ?hya18⟩) (by assumption) ?resta18
          case hya18 => (intro w hSw; (try dsimp only [SixAt] at hSw); (try simp only [List.getElem_toArray, List.getElem_cons_zero, List.getElem_cons_succ]); go_simp; (try with_reducible rfl))
          (try simp only [Act.put, List.setIfInBounds_toArray, List.set_cons_zero, List.set_cons_succ, List.getElem_toArray, List.getElem_cons_zero, List.getElem_cons_succ])
          refine wpAnyH_take (i := 19) (oi := _) (v := ?va19) rfl (by kernel_rfl) (by kernel_rfl) (by kernel_rfl) (fun _ _ _ h => h) (Or.inl ⟨by rfl, ?hya19⟩) (by assumption) ?resta19
          case hya19 => (intro w hSw; (try dsimp only [SixAt] at hSw); (try simp only [List.getElem_toArray, List.getElem_cons_zero, List.getElem_cons_succ]); go_simp; (try with_reducible rfl))
          (try simp only [Act.put, List.setIfInBounds_toArray, List.set_cons_zero, List.set_cons_succ, List.getElem_toArray, List.getElem_cons_zero, List.getElem_cons_succ])
          refine wpAnyH_ready (rs := [20]) (by kernel_rfl) (by simp) ?_
          refine AllReadyH.cons (o := _) rfl (fun K hK => ?_) AllReadyH.nil
          (try simp only [List.getElem_toArray, List.getElem_cons_zero, List.getElem_cons_succ])
          rw [if_pos (by rfl)]; refine wp_store_cell 42 (.tmp 60) (.tmp 59) rfl g 0 d W _ HL3.out.drew hd.2 ⟨cr, ⟨cf, cg, cb, cu, ci⟩⟩ ?hxa ?hya cell_info ?_; (case hxa => (rw [Nat.zero_add]; rfl)); (case hya => rfl); intro w4 hp4; have HP4 : Hid (PutC g (d * 6) 1 (fun _ => ⟨cr, ⟨cf, cg, cb, cu, ci⟩⟩) wr.drew w4) := Lib.hid (by simpa using hp4); clear hp4
          refine hK.out _ _ ?_ (fun hHeld => ?_)
          · exact ⟨(HP4.out.keep.cell (p := ⟨r, 2, none⟩) hr3 hrg).trans c2, (HP4.out.keep.cell (p := ⟨lb, y, none⟩) hl3 hlg).trans cl, SixAt.put (w := wr.drew) s6.out HP4.out hed⟩
          clear hK K
          (try simp only [Act.put, List.setIfInBounds_toArray, List.set_cons_zero, List.set_cons_succ, List.getElem_toArray, List.getElem_cons_zero, List.getElem_cons_succ])
          refine wpAnyH_done (by kernel_rfl) ?_ _
          refine NoPanic.normal ?_
          have HK4 : Hid (Keep (· = g) w1 w4) := Lib.hid (HK3.out.trans (((Keep.refl _ wr).drew).trans HP4.out.keep (fun _ _ e => e)) (fun _ _ e => e))
          have HL4 := Lib.hid (PutC.lies (a := d) HL3.out.drew (by simpa using HP4.out) (by omega))
          clear c0 c2 cl
          go_wp2_with fail
          go_roundw
          case rel => exact ⟨e, rfl, by have := HE.out.1; omega, HK4, Lib.hid (HL4.out.congr (fun j hj => by
            have h1 := HE.out.1
            have h2 := HE.out.2
            by_cases hj1 : d ≤ j ∧ j < d + 1
            · have : j = d := by omega
              subst this
              rw [if_pos (by omega), ← h2, show e = j - 1 from by omega]
              all_goals first | done | (repeat' split) <;> first | rfl | omega
            · rw [if_neg hj1]
              repeat' split
              all_goals first | rfl | omega))⟩
          case measure => have := HE.out.1; simp [intOf]; omega
        · have gt : ¬ ((d : Int) > (x : Int)) := by omega
          have hde : x = d := by omega
          subst hde
          have b0 := cell_at (HQ1.out) 0
          have hgx : 0 < 1 := by omega
          have HS2 : Hid (∀ V, Keep (· = g) wr V → (fun V => V.cell? ⟨r, 2, none⟩ = some (.slice (some ⟨lb, 0, none⟩) H lc) ∧ V.cell? ⟨lb, y, none⟩ = some (.slice (some ⟨g, 0, none⟩) W W) ∧ V.cell? ⟨q, 0, none⟩ = some (.int .i32 xr) ∧ V.cell? ⟨q, 1, none⟩ = some (.int .i64 xf) ∧ V.cell? ⟨q, 2, none⟩ = some (.int .i64 xg) ∧ V.cell? ⟨q, 3, none⟩ = some (.bool xb) ∧ V.cell? ⟨q, 4, none⟩ = some (.bool xu) ∧ V.cell? ⟨q, 5, none⟩ = some (.bool xi)) V) := Lib.hid (fun V k => by
            have hc := HC.out _ (HKw3.out.trans k (fun _ _ e => e))
            have hh := k.heap (HK3.out.heap HQ1.out hqg) hqg
            have s := cells_six hh
            exact ⟨hc.2.1, hc.2.2, s.1, s.2.1, s.2.2.1, s.2.2.2.1, s.2.2.2.2.1, s.2.2.2.2.2⟩)
          clear b0 hgx
          go_wp2_with fail
          refine wp_region_noPanic ?_
          refine wp_region_held_drew (S := (fun V => V.cell? ⟨r, 2, none⟩ = some (.slice (some ⟨lb, 0, none⟩) H lc) ∧ V.cell? ⟨lb, y, none⟩ = some (.slice (some ⟨g, 0, none⟩) W W) ∧ V.cell? ⟨q, 0, none⟩ = some (.int .i32 xr) ∧ V.cell? ⟨q, 1, none⟩ = some (.int .i64 xf) ∧ V.cell? ⟨q, 2, none⟩ = some (.int .i64 xg) ∧ V.cell? ⟨q, 3, none⟩ = some (.bool xb) ∧ V.cell? ⟨q, 4, none⟩ = some (.bool xu) ∧ V.cell? ⟨q, 5, none⟩ = some (.bool xi))) (by kernel_rfl) (HS2.out _ ((Keep.refl _ wr).drew)) (fun hHeld => ?_)
          refine wpAnyH_take (i := 0) (oi := _) (v := ?vb0) rfl (by kernel_rfl) (by kernel_rfl) (by kernel_rfl) (fun _ _ _ h => h) (Or.inl ⟨by rfl, ?hyb0⟩) (by assumption) ?restb0
          case hyb0 => (intro w hSw; (try dsimp only at hSw); (try simp only [List.getElem_toArray, List.getElem_cons_zero, List.getElem_cons_succ]); go_simp; (try with_reducible rfl))
          (try simp only [Act.put, List.setIfInBounds_toArray, List.set_cons_zero, List.set_cons_succ, List.getElem_toArray, List.getElem_cons_zero, List.getElem_cons_succ])
          refine wpAnyH_take (i := 1) (oi := _) (v := ?vb1) rfl (by kernel_rfl) (by kernel_rfl) (by kernel_rfl) (fun _ _ _ h => h) (Or.inl ⟨by rfl, ?hyb1⟩) (by assumption) ?restb1
          case hyb1 => (intro w hSw; (try dsimp only at hSw); (try simp only [List.getElem_toArray, List.getElem_cons_zero, List.getElem_cons_succ]); go_simp; (try with_reducible rfl))
          (try simp only [Act.put, List.setIfInBounds_toArray, List.set_cons_zero, List.set_cons_succ, List.getElem_toArray, List.getElem_cons_zero, List.getElem_cons_succ])
          refine wpAnyH_take (i := 2) (oi := _) (v := ?vb2) rfl (by kernel_rfl) (by kernel_rfl) (by kernel_rfl) (fun _ _ _ h => h) (Or.inl ⟨by rfl, ?hyb2⟩) (by assumption) ?restb2
          case hyb2 => (intro w hSw; (try dsimp only at hSw); (try simp only [List.getElem_toArray, List.getElem_cons_zero, List.getElem_cons_succ]); go_simp; (try with_reducible rfl))
          (try simp only [Act.put, List.setIfInBounds_toArray, List.set_cons_zero, List.set_cons_succ, List.getElem_toArray, List.getElem_cons_zero, List.getElem_cons_succ])
          refine wpAnyH_take (i := 3) (oi := _) (v := ?vb3) rfl (by kernel_rfl) (by kernel_rfl) (by kernel_rfl) (fun _ _ _ h => h) (Or.inl ⟨by rfl, ?hyb3⟩) (by assumption) ?restb3
          case hyb3 => (intro w hSw; (try dsimp only at hSw); (try simp only [List.getElem_toArray, List.getElem_cons_zero, List.getElem_cons_succ]); go_simp; (try with_reducible rfl))
          (try simp only [Act.put, List.setIfInBounds_toArray, List.set_cons_zero, List.set_cons_succ, List.getElem_toArray, List.getElem_cons_zero, List.getElem_cons_succ])
          refine wpAnyH_take (i := 4) (oi := _) (v := ?vb4) rfl (by kernel_rfl) (by kernel_rfl) (by kernel_rfl) (fun _ _ _ h => h) (Or.inl ⟨by rfl, ?hyb4⟩) (by assumption) ?restb4
          case hyb4 => (intro w hSw; (try dsimp only at hSw); (try simp only [List.getElem_toArray, List.getElem_cons_zero, List.getElem_cons_succ]); go_simp; (try with_reducible rfl))
          (try simp only [Act.put, List.setIfInBounds_toArray, List.set_cons_zero, List.set_cons_succ, List.getElem_toArray, List.getElem_cons_zero, List.getElem_cons_succ])
          refine wpAnyH_take (i := 5) (oi := _) (v := ?vb5) rfl (by kernel_rfl) (by kernel_rfl) (by kernel_rfl) (fun _ _ _ h => h) (Or.inl ⟨by rfl, ?hyb5⟩) (by assumption) ?restb5
          case hyb5 => (intro w hSw; (try dsimp only at hSw); (try simp only [List.getElem_toArray, List.getElem_cons_zero, List.getElem_cons_succ]); go_simp; (try with_reducible rfl))
          (try simp only [Act.put, List.setIfInBounds_toArray, List.set_cons_zero, List.set_cons_succ, List.getElem_toArray, List.getElem_cons_zero, List.getElem_cons_succ])
          refine wpAnyH_take (i := 6) (oi := _) (v := ?vb6) rfl (by kernel_rfl) (by kernel_rfl) (by kernel_rfl) (fun _ _ _ h => h) (Or.inl ⟨by rfl, ?hyb6⟩) (by assumption) ?restb6
          case hyb6 => (intro w hSw; (try dsimp only at hSw); (try simp only [List.getElem_toArray, List.getElem_cons_zero, List.getElem_cons_succ]); go_simp; (try with_reducible rfl))
          (try simp only [Act.put, List.setIfInBounds_toArray, List.set_cons_zero, List.set_cons_succ, List.getElem_toArray, List.getElem_cons_zero, List.getElem_cons_succ])
          refine wpAnyH_take (i := 7) (oi := _) (v := ?vb7) rfl (by kernel_rfl) (by kernel_rfl) (by kernel_rfl) (fun _ _ _ h => h) (Or.inl ⟨by rfl, ?hyb7⟩) (by assumption) ?restb7
          case hyb7 => (intro w hSw; (try dsimp only at hSw); (try simp only [List.getElem_toArray, List.getElem_cons_zero, List.getElem_cons_succ]); go_simp; (try with_reducible rfl))
          (try simp only [Act.put, List.setIfInBounds_toArray, List.set_cons_zero, List.set_cons_succ, List.getElem_toArray, List.getElem_cons_zero, List.getElem_cons_succ])
          refine wpAnyH_take (i := 8) (oi := _) (v := ?vb8) rfl (by kernel_rfl) (by kernel_rfl) (by kernel_rfl) (fun _ _ _ h => h) (Or.inl ⟨by rfl, ?hyb8⟩) (by assumption) ?restb8
          case hyb8 => (intro w hSw; (try dsimp only at hSw); (try simp only [List.getElem_toArray, List.getElem_cons_zero, List.getElem_cons_succ]); go_simp; (try with_reducible rfl))
          (try simp only [Act.put, List.setIfInBounds_toArray, List.set_cons_zero, List.set_cons_succ, List.getElem_toArray, List.getElem_cons_zero, List.getElem_cons_succ])
          refine wpAnyH_take (i := 9) (oi := _) (v := ?vb9) rfl (by kernel_rfl) (by kernel_rfl) (by kernel_rfl) (fun _ _ _ h => h) (Or.inl ⟨by rfl, ?hyb9⟩) (by assumption) ?restb9
          case hyb9 => (intro w hSw; (try dsimp only at hSw); (try simp only [List.getElem_toArray, List.getElem_cons_zero, List.getElem_cons_succ]); go_simp; (try with_reducible rfl))
          (try simp only [Act.put, List.setIfInBounds_toArray, List.set_cons_zero, List.set_cons_succ, List.getElem_toArray, List.getElem_cons_zero, List.getElem_cons_succ])
          refine wpAnyH_ready (rs := [10]) (by kernel_rfl) (by simp) ?_
          refine AllReadyH.cons (o := _) rfl (fun K hK => ?_) AllReadyH.nil
          (try simp only [List.getElem_toArray, List.getElem_cons_zero, List.getElem_cons_succ])
          rw [if_pos (by rfl)]; refine wp_store_cell 42 (.tmp 70) (.tmp 69) rfl g 0 x W _ HL3.out.drew (by omega) ⟨xr, ⟨xf, xg, xb, xu, xi⟩⟩ ?hxb ?hyb cell_info ?_; (case hxb => (rw [Nat.zero_add]; rfl)); (case hyb => rfl); intro w4 hp4; have HP4 : Hid (PutC g (x * 6) 1 (fun _ => ⟨xr, ⟨xf, xg, xb, xu, xi⟩⟩) wr.drew w4) := Lib.hid (by simpa using hp4); clear hp4
          refine hK.out _ _ ?_ (fun hHeld => ?_)
          · exact HS2.out _ (((Keep.refl _ wr).drew).trans HP4.out.keep (fun _ _ e => e))
          clear hK K
          (try simp only [Act.put, List.setIfInBounds_toArray, List.set_cons_zero, List.set_cons_succ, List.getElem_toArray, List.getElem_cons_zero, List.getElem_cons_succ])
          refine wpAnyH_done (by kernel_rfl) ?_ _
          refine NoPanic.normal ?_
          have HK4 : Hid (Keep (· = g) w1 w4) := Lib.hid (HK3.out.trans (((Keep.refl _ wr).drew).trans HP4.out.keep (fun _ _ e => e)) (fun _ _ e => e))
          have HL4 := Lib.hid (PutC.lies (a := x) HL3.out.drew (by simpa using HP4.out) (by omega))
          clear c0 c2 cl
          go_wp2_with fail
          go_roundw
          case rel => exact ⟨k + 1, by go_num, by omega, HK4, Lib.hid (HL4.out.congr (fun j hj => by
            rw [HJ.out]
            unfold shiftRight
            repeat' split
            all_goals first | rfl | omega | (congr 1; omega)))⟩
          case measure => simp [intOf]; omega
    · have hkM : k = M := by omega
      subst hkM
      have hMe := HM.out
      have hfin : True := trivial
      by_cases k1 : (k : Int) < n
      · have k2 : ¬ ((k : Int) < (W : Int)) := by omega
        have c0 := (HC.out _ HKw.out).1
        clear hMe hkm
        go_wp2_with fail
        go_end0
        exact ⟨rfl, HKw.out, HL.out⟩
      · clear hMe hkm
        go_wp2_with fail
        go_end0
        exact ⟨rfl, HKw.out, HL.out⟩

theorem ref_right (w : World) (r lb lc W H : Nat) (R : Nat → Nat) (F : Nat → Nat → CellM) (X Y n : Int) (c : CellM) (h : RGrid w r lb lc W H R F) :
    Calls Try.prog 22 #[.pointer (some ⟨r, 0, none⟩), .int .i64 X, .int .i64 Y, .int .i64 n, c.v] w fun e w' => e = .returned (.tuple #[]) ∧ Keep (rown r lb H R) w w' ∧ RGrid w' r lb lc W H R (fun i j => if 0 ≤ X ∧ X < W ∧ (i : Int) = Y then shiftRight W X.toNat (min n.toNat W) c (F i) j else F i j) := by
  by_cases hi : 0 ≤ X ∧ X < W ∧ 0 ≤ Y ∧ Y < H
  · obtain ⟨x, rfl⟩ := Int.eq_ofNat_of_zero_le hi.1
    obtain ⟨y, rfl⟩ := Int.eq_ofNat_of_zero_le hi.2.2.1
    refine (ref_Right_in w r lb lc W H R F x y n c h (by omega) (by omega)).mono ?_
    rintro e w' ⟨rfl, k, l⟩
    refine ⟨rfl, k.mono (fun b _ e => .inr (.inr ⟨y, by omega, e⟩)), (h.turn y (by omega) k _ l).congr (fun i j hi' hj => ?_)⟩
    by_cases e : i = y
    · subst e; rw [if_pos rfl, if_pos ⟨by omega, by omega, rfl⟩]; rfl
    · rw [if_neg e, if_neg (fun z => e (by omega))]
  · have HI : Hid (∀ V, Keep (fun _ => False) w V → Calls Try.prog 31 #[.pointer (some ⟨r, 0, none⟩), .int .i64 X, .int .i64 Y] V fun e w' => e = .returned (.bool false) ∧ w' = V) := Lib.hid (fun V k => by
      have := ref_in V r lb lc W H R F X Y (h.quiet k)
      rwa [decide_eq_false hi] at this)
    have HC : Hid (∀ V, Keep (fun _ => False) w V → V.cell? ⟨r, 0, none⟩ = some (.int .i64 W)) := Lib.hid (fun V k => (h.quiet k).cw.1)
    have HR : Hid (∀ V, Keep (fun _ => False) w V → Keep (rown r lb H R) w V ∧ RGrid V r lb lc W H R (fun i j => if 0 ≤ X ∧ X < W ∧ (i : Int) = Y then shiftRight W X.toNat (min n.toNat W) c (F i) j else F i j)) := Lib.hid (fun V k => ⟨k.mono (fun _ _ e => e.elim), (h.quiet k).congr (fun i j hi' hj => by rw [if_neg (fun z => hi ⟨z.1, z.2.1, by omega, by omega⟩)])⟩)
    obtain ⟨w1, hw1⟩ : ∃ w1, w1 = w.alloc (.cells (vcells c) 42) := ⟨_, rfl⟩
    have HK1 : Hid (Keep (fun _ => False) w w1) := Lib.hid (by rw [hw1]; exact (Keep.refl _ w).alloc _)
    have c0 := HC.out _ HK1.out
    have hw := h.hw
    have hwi : (0 : Int) < (W : Int) := by omega
    clear h hi hw
    obtain ⟨xr, ⟨xf, xg, xb, xu, xi⟩⟩ := c
    unfold vcells at hw1
    dsimp only at hw1
    simp only [CellM.v]
    by_cases hn : (0 : Int) < n
    · go_enter Try.func22, Try.ntmps22
      go_wp2_with fail
      rw [← hw1]
      clear hw1
      go_loopw [10, 11] (fun i _ wr => i = .int .i64 0 ∧ wr = w1) (fun _ _ _ => 0)
      case atStart => exact ⟨rfl, rfl⟩
      case round =>
        obtain ⟨rfl, rfl⟩ := hrel
        go_wp2_with fail
        refine (HI.out _ HK1.out).mono ?_
        rintro e w2 ⟨rfl, rfl⟩
        go_wp2_with fail
        go_end0
        exact ⟨rfl, HR.out _ HK1.out⟩
    · go_enter Try.func22, Try.ntmps22
      go_wp2_with fail
      rw [← hw1]
      clear hw1
      go_loopw [10, 11] (fun i _ wr => i = .int .i64 0 ∧ wr = w1) (fun _ _ _ => 0)
      case atStart => exact ⟨rfl, rfl⟩
      case round =>
        obtain ⟨rfl, rfl⟩ := hrel
        go_wp2_with fail
        go_end0
        exact ⟨rfl, HR.out _ HK1.out⟩

end Go.Proofs.Ytbjdcbnmpmcdiaa
