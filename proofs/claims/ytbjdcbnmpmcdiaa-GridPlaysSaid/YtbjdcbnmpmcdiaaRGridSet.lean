/- grid: the document's Set. By program (rgn/XRGridSet.py). Own work. -/
import Derived.Test.YtbjdcbnmpmcdiaaRGrid
import Derived.Deep.Cut
namespace Go.Proofs.Ytbjdcbnmpmcdiaa
set_option linter.unusedVariables false
set_option linter.unusedSimpArgs false
open Go.RowKit

set_option maxRecDepth 100000 in
set_option maxHeartbeats 3200000 in
theorem ref_set_in (w : World) (r lb lc W H : Nat) (R : Nat → Nat) (F : Nat → Nat → CellM) (x y : Nat) (A : Option Addr) (n cc : Nat) (gs : Nat → CellM) (h : RGrid w r lb lc W H R F) (hx : x < W) (hy : y < H)
    (hS : Src w A (n * 6) (flatF gs n)) (hA : 0 < n → ∀ b, blk A = some b → b ≠ R y) (hn : n ≤ 1099511627776) :
    Calls Try.prog 14 #[.pointer (some ⟨r, 0, none⟩), .int .i64 x, .int .i64 y, .slice A n cc] w fun e w' => e = .returned (.int .i64 ((min n (W - x) : Nat) : Int)) ∧ PutC (R y) (x * 6) (min n (W - x)) gs w w' := by
  have HG := Lib.hid h
  obtain ⟨g, hg⟩ : ∃ g, g = R y := ⟨_, rfl⟩
  have hrg : r ≠ g := by rw [hg]; exact fun e => (h.nr y hy).1 e.symm
  have hlg : lb ≠ g := by rw [hg]; exact fun e => (h.nr y hy).2 e.symm
  have HL0 : Hid (Lies w g 0 W (F y)) := Lib.hid (by rw [hg]; exact h.lie y hy)
  have HI : Hid (∀ V, Keep (· = g) w V → Calls Try.prog 31 #[.pointer (some ⟨r, 0, none⟩), .int .i64 x, .int .i64 y] V fun e w' => e = .returned (.bool true) ∧ w' = V) := Lib.hid (fun V k => by
    have hs := h.cw.keep k hrg
    have hq := h.ch.keep k hrg
    have := ref_in_cells V r W H x y hs.1 hq.1
    rwa [decide_eq_true ⟨by omega, by omega, by omega, by omega⟩] at this)
  have HC : Hid (∀ V, Keep (· = g) w V → V.cell? ⟨r, 0, none⟩ = some (.int .i64 W) ∧ V.cell? ⟨r, 2, none⟩ = some (.slice (some ⟨lb, 0, none⟩) H lc) ∧ V.cell? ⟨lb, y, none⟩ = some (.slice (some ⟨g, 0, none⟩) W W)) := Lib.hid (fun V k => ⟨(h.cw.keep k hrg).1, (h.cs.keep k hrg).1, by have := ((h.row y hy).keep k hlg).1; rwa [← hg] at this⟩)
  rw [← hg] at hA ⊢
  have HA := Lib.hid hA
  have HS0 := Lib.hid hS
  obtain ⟨G, hGq⟩ : ∃ G, G = F y := ⟨_, rfl⟩
  rw [← hGq] at HL0
  have hw := h.hw
  have hw40 : (W : Int) ≤ 40 := by omega
  have hyi : (y : Int) < (H : Int) := by omega
  have hy0 : (0 : Int) ≤ (y : Int) := by omega
  have hni : (n : Int) ≤ 1099511627776 := by omega
  obtain ⟨M, hM⟩ : ∃ M, M = min n (W - x) := ⟨_, rfl⟩
  have HM := Lib.hid hM
  rw [← hM]
  clear h hg hGq hM hA hS
  go_enter Try.func14, Try.ntmps14
  go_wp2_with fail
  go_loopw [9, 10] (fun a i wr => ∃ k : Nat, a = .int .i64 k ∧ i = .int .i64 k ∧ k ≤ M ∧ Hid (PutC g (x * 6) k gs w wr)) (fun _ i _ => M - (intOf i).toNat)
  case atStart => exact ⟨0, rfl, rfl, Nat.zero_le _, Lib.hid (PutC.refl _ _ _ _)⟩
  case round =>
    obtain ⟨k, rfl, rfl, hk, HP⟩ := hrel
    have HKw := Lib.hid HP.out.keep
    obtain ⟨z, hz⟩ : ∃ z, z = x + k := ⟨_, rfl⟩
    have hMe := HM.out
    have hzw : IntKind.i64.wrap ((x : Int) + (k : Int)) = (z : Int) := by rw [hz]; rw [IntWalk.i64_in _ (by omega)]; omega
    by_cases hkm : k < M
    · have k1 : (k : Int) < (n : Int) := by omega
      have k2 : (z : Int) < (W : Int) := by omega
      have k0 : (0 : Int) ≤ (k : Int) := by omega
      have z0 : (0 : Int) ≤ (z : Int) := by omega
      have hzW : z < W := by omega
      have hkn : k < n := by omega
      obtain ⟨c0, c2, cl⟩ := HC.out _ HKw.out
      have hA := HA.out (by omega)
      obtain ⟨b, o, rfl, hb, hc⟩ := HS0.out.2 (by omega)
      have hbg : b ≠ g := hA b rfl
      obtain ⟨⟨cr, ⟨cf, cg, cb, cu, ci⟩⟩, hcr⟩ : ∃ c, gs k = c := ⟨_, rfl⟩
      have hs6 : SixAt w b (o + k * 6) ⟨cr, ⟨cf, cg, cb, cu, ci⟩⟩ := by
        have hv : ∀ i v, (cellCs ⟨cr, ⟨cf, cg, cb, cu, ci⟩⟩)[i]? = some v → w.cell? ⟨b, o + (k * 6 + i), none⟩ = some v := fun i v hv => hc _ _ ((flatF_at gs n _ _).2 ⟨by have := cellCs_lt hv; omega, by have := cellCs_lt hv; rw [show (k * 6 + i) / 6 = k from by omega, show (k * 6 + i) % 6 = i from by omega, hcr]; exact hv⟩)
        exact ⟨hv 0 _ rfl, hv 1 _ rfl, hv 2 _ rfl, hv 3 _ rfl, hv 4 _ rfl, hv 5 _ rfl⟩
      have HS : Hid (∀ V, Keep (· = g) wr V → (fun V => V.cell? ⟨r, 2, none⟩ = some (.slice (some ⟨lb, 0, none⟩) H lc) ∧ V.cell? ⟨lb, y, none⟩ = some (.slice (some ⟨g, 0, none⟩) W W) ∧ SixAt V b (o + k * 6) ⟨cr, ⟨cf, cg, cb, cu, ci⟩⟩) V) := Lib.hid (fun V kk => by
        have hh := HC.out _ (HKw.out.trans kk (fun _ _ e => e))
        exact ⟨hh.2.1, hh.2.2, hs6.keep (HKw.out.trans kk (fun _ _ e => e)) hb hbg⟩)
      have HL3 := Lib.hid (PutC.lies (a := x) HL0.out (by simpa using HP.out) (by omega))
      have HZ := Lib.hid (And.intro hz hcr)
      clear hz hcr hs6 hc hA hMe hb
      go_wp2_with fail
      refine (HI.out _ HKw.out).mono ?_
      rintro e w2 ⟨rfl, rfl⟩
      go_wp2_with fail
      refine wp_region_noPanic ?_
      refine wp_region_held_drew (S := (fun V => V.cell? ⟨r, 2, none⟩ = some (.slice (some ⟨lb, 0, none⟩) H lc) ∧ V.cell? ⟨lb, y, none⟩ = some (.slice (some ⟨g, 0, none⟩) W W) ∧ SixAt V b (o + k * 6) ⟨cr, ⟨cf, cg, cb, cu, ci⟩⟩)) (by kernel_rfl) (HS.out _ ((Keep.refl _ w2).drew)) (fun hHeld => ?_)
      refine wpAnyH_take (i := 0) (oi := _) (v := ?va0) rfl (by kernel_rfl) (by kernel_rfl) (by kernel_rfl) (fun _ _ _ h => h) (Or.inl ⟨by rfl, ?hya0⟩) (by assumption) ?resta0
      case hya0 => (intro w hSw; (try dsimp only [SixAt] at hSw); (try simp only [List.getElem_toArray, List.getElem_cons_zero, List.getElem_cons_succ]); go_simp; (try with_reducible rfl))
      (try simp only [Act.put, List.setIfInBounds_toArray, List.set_cons_zero, List.set_cons_succ, List.getElem_toArray, List.getElem_cons_zero, List.getElem_cons_succ])
      refine wpAnyH_take (i := 1) (oi := _) (v := ?va1) rfl (by kernel_rfl) (by kernel_rfl) (by kernel_rfl) (fun _ _ _ h => h) (Or.inl ⟨by rfl, ?hya1⟩) (by assumption) ?resta1
      case hya1 => (intro w hSw; (try dsimp only [SixAt] at hSw); (try simp only [List.getElem_toArray, List.getElem_cons_zero, List.getElem_cons_succ]); go_simp; (try with_reducible rfl))
      (try simp only [Act.put, List.setIfInBounds_toArray, List.set_cons_zero, List.set_cons_succ, List.getElem_toArray, List.getElem_cons_zero, List.getElem_cons_succ])
      refine wpAnyH_take (i := 2) (oi := _) (v := ?va2) rfl (by kernel_rfl) (by kernel_rfl) (by kernel_rfl) (fun _ _ _ h => h) (Or.inl ⟨by rfl, ?hya2⟩) (by assumption) ?resta2
      case hya2 => (intro w hSw; (try dsimp only [SixAt] at hSw); (try simp only [List.getElem_toArray, List.getElem_cons_zero, List.getElem_cons_succ]); go_simp; (try with_reducible rfl))
      (try simp only [Act.put, List.setIfInBounds_toArray, List.set_cons_zero, List.set_cons_succ, List.getElem_toArray, List.getElem_cons_zero, List.getElem_cons_succ])
      refine wpAnyH_take (i := 3) (oi := _) (v := ?va3) rfl (by kernel_rfl) (by kernel_rfl) (by kernel_rfl) (fun _ _ _ h => h) (Or.inl ⟨by rfl, ?hya3⟩) (by assumption) ?resta3
      case hya3 => (intro w hSw; (try dsimp only [SixAt] at hSw); (try simp only [List.getElem_toArray, List.getElem_cons_zero, List.getElem_cons_succ]); go_simp; (try with_reducible rfl))
      (try simp only [Act.put, List.setIfInBounds_toArray, List.set_cons_zero, List.set_cons_succ, List.getElem_toArray, List.getElem_cons_zero, List.getElem_cons_succ])
      refine wpAnyH_take (i := 4) (oi := _) (v := ?va4) rfl (by kernel_rfl) (by kernel_rfl) (by kernel_rfl) (fun _ _ _ h => h) (Or.inl ⟨by rfl, ?hya4⟩) (by assumption) ?resta4
      case hya4 => (intro w hSw; (try dsimp only [SixAt] at hSw); (try simp only [List.getElem_toArray, List.getElem_cons_zero, List.getElem_cons_succ]); go_simp; (try with_reducible rfl))
      (try simp only [Act.put, List.setIfInBounds_toArray, List.set_cons_zero, List.set_cons_succ, List.getElem_toArray, List.getElem_cons_zero, List.getElem_cons_succ])
      refine wpAnyH_take (i := 5) (oi := _) (v := ?va5) rfl (by kernel_rfl) (by kernel_rfl) (by kernel_rfl) (fun _ _ _ h => h) (Or.inl ⟨by rfl, ?hya5⟩) (by assumption) ?resta5
      case hya5 => (intro w hSw; (try dsimp only [SixAt] at hSw); (try simp only [List.getElem_toArray, List.getElem_cons_zero, List.getElem_cons_succ]); go_simp; (try with_reducible rfl))
      (try simp only [Act.put, List.setIfInBounds_toArray, List.set_cons_zero, List.set_cons_succ, List.getElem_toArray, List.getElem_cons_zero, List.getElem_cons_succ])
      refine wpAnyH_take (i := 6) (oi := _) (v := ?va6) rfl (by kernel_rfl) (by kernel_rfl) (by kernel_rfl) (fun _ _ _ h => h) (Or.inl ⟨by rfl, ?hya6⟩) (by assumption) ?resta6
      case hya6 => (intro w hSw; (try dsimp only [SixAt] at hSw); (try simp only [List.getElem_toArray, List.getElem_cons_zero, List.getElem_cons_succ]); go_simp; (try with_reducible rfl))
      (try simp only [Act.put, List.setIfInBounds_toArray, List.set_cons_zero, List.set_cons_succ, List.getElem_toArray, List.getElem_cons_zero, List.getElem_cons_succ])
      refine wpAnyH_take (i := 7) (oi := _) (v := ?va7) rfl (by kernel_rfl) (by kernel_rfl) (by kernel_rfl) (fun _ _ _ h => h) (Or.inl ⟨by rfl, ?hya7⟩) (by assumption) ?resta7
      case hya7 => (intro w hSw; (try dsimp only [SixAt] at hSw); (try simp only [List.getElem_toArray, List.getElem_cons_zero, List.getElem_cons_succ]); go_simp; (try with_reducible rfl))
      (try simp only [Act.put, List.setIfInBounds_toArray, List.set_cons_zero, List.set_cons_succ, List.getElem_toArray, List.getElem_cons_zero, List.getElem_cons_succ])
      refine wpAnyH_take (i := 8) (oi := _) (v := ?va8) rfl (by kernel_rfl) (by kernel_rfl) (by kernel_rfl) (fun _ _ _ h => h) (Or.inl ⟨by rfl, ?hya8⟩) (by assumption) ?resta8
      case hya8 => (intro w hSw; (try dsimp only [SixAt] at hSw); (try simp only [List.getElem_toArray, List.getElem_cons_zero, List.getElem_cons_succ]); go_simp; (try with_reducible rfl))
      (try simp only [Act.put, List.setIfInBounds_toArray, List.set_cons_zero, List.set_cons_succ, List.getElem_toArray, List.getElem_cons_zero, List.getElem_cons_succ])
      refine wpAnyH_take (i := 9) (oi := _) (v := ?va9) rfl (by kernel_rfl) (by kernel_rfl) (by kernel_rfl) (fun _ _ _ h => h) (Or.inl ⟨by rfl, ?hya9⟩) (by assumption) ?resta9
      case hya9 => (intro w hSw; (try dsimp only [SixAt] at hSw); (try simp only [List.getElem_toArray, List.getElem_cons_zero, List.getElem_cons_succ]); go_simp; (try with_reducible rfl))
      (try simp only [Act.put, List.setIfInBounds_toArray, List.set_cons_zero, List.set_cons_succ, List.getElem_toArray, List.getElem_cons_zero, List.getElem_cons_succ])
      refine wpAnyH_take (i := 10) (oi := _) (v := ?va10) rfl (by kernel_rfl) (by kernel_rfl) (by kernel_rfl) (fun _ _ _ h => h) (Or.inl ⟨by rfl, ?hya10⟩) (by assumption) ?resta10
      case hya10 => (intro w hSw; (try dsimp only [SixAt] at hSw); (try simp only [List.getElem_toArray, List.getElem_cons_zero, List.getElem_cons_succ]); go_simp; (try with_reducible rfl))
      (try simp only [Act.put, List.setIfInBounds_toArray, List.set_cons_zero, List.set_cons_succ, List.getElem_toArray, List.getElem_cons_zero, List.getElem_cons_succ])
      refine wpAnyH_take (i := 11) (oi := _) (v := ?va11) rfl (by kernel_rfl) (by kernel_rfl) (by kernel_rfl) (fun _ _ _ h => h) (Or.inl ⟨by rfl, ?hya11⟩) (by assumption) ?resta11
      case hya11 => (intro w hSw; (try dsimp only [SixAt] at hSw); (try simp only [List.getElem_toArray, List.getElem_cons_zero, List.getElem_cons_succ]); go_simp; (try with_reducible rfl))
      (try simp only [Act.put, List.setIfInBounds_toArray, List.set_cons_zero, List.set_cons_succ, List.getElem_toArray, List.getElem_cons_zero, List.getElem_cons_succ])
      refine wpAnyH_take (i := 12) (oi := _) (v := ?va12) rfl (by kernel_rfl) (by kernel_rfl) (by kernel_rfl) (fun _ _ _ h => h) (Or.inl ⟨by rfl, ?hya12⟩) (by assumption) ?resta12
      case hya12 => (intro w hSw; (try dsimp only [SixAt] at hSw); (try simp only [List.getElem_toArray, List.getElem_cons_zero, List.getElem_cons_succ]); go_simp; (try with_reducible rfl))
      (try simp only [Act.put, List.setIfInBounds_toArray, List.set_cons_zero, List.set_cons_succ, List.getElem_toArray, List.getElem_cons_zero, List.getElem_cons_succ])
      refine wpAnyH_take (i := 13) (oi := _) (v := ?va13) rfl (by kernel_rfl) (by kernel_rfl) (by kernel_rfl) (fun _ _ _ h => h) (Or.inl ⟨by rfl, ?hya13⟩) (by assumption) ?resta13
      case hya13 => (intro w hSw; (try dsimp only [SixAt] at hSw); (try simp only [List.getElem_toArray, List.getElem_cons_zero, List.getElem_cons_succ]); go_simp; (try with_reducible rfl))
      (try simp only [Act.put, List.setIfInBounds_toArray, List.set_cons_zero, List.set_cons_succ, List.getElem_toArray, List.getElem_cons_zero, List.getElem_cons_succ])
      refine wpAnyH_take (i := 14) (oi := _) (v := ?va14) rfl (by kernel_rfl) (by kernel_rfl) (by kernel_rfl) (fun _ _ _ h => h) (Or.inl ⟨by rfl, ?hya14⟩) (by assumption) ?resta14
      case hya14 => (intro w hSw; (try dsimp only [SixAt] at hSw); (try simp only [List.getElem_toArray, List.getElem_cons_zero, List.getElem_cons_succ]); go_simp; (try with_reducible rfl))
      (try simp only [Act.put, List.setIfInBounds_toArray, List.set_cons_zero, List.set_cons_succ, List.getElem_toArray, List.getElem_cons_zero, List.getElem_cons_succ])
      refine wpAnyH_ready (rs := [15]) (by kernel_rfl) (by simp) ?_
      refine AllReadyH.cons (o := _) rfl (fun K hK => ?_) AllReadyH.nil
      (try simp only [List.getElem_toArray, List.getElem_cons_zero, List.getElem_cons_succ])
      rw [if_pos (by rfl)]; refine wp_store_cell 42 (.tmp 47) (.tmp 46) rfl g 0 z W _ HL3.out.drew hzW ⟨cr, ⟨cf, cg, cb, cu, ci⟩⟩ ?hxa ?hya cell_info ?_; (case hxa => (rw [Nat.zero_add]; rfl)); (case hya => rfl); intro w4 hp4; have HP4 : Hid (PutC g (z * 6) 1 (fun _ => ⟨cr, ⟨cf, cg, cb, cu, ci⟩⟩) w2.drew w4) := Lib.hid (by simpa using hp4); clear hp4
      refine hK.out _ _ ?_ (fun hHeld => ?_)
      · exact HS.out _ (((Keep.refl _ w2).drew).trans HP4.out.keep (fun _ _ e => e))
      clear hK K
      (try simp only [Act.put, List.setIfInBounds_toArray, List.set_cons_zero, List.set_cons_succ, List.getElem_toArray, List.getElem_cons_zero, List.getElem_cons_succ])
      refine wpAnyH_done (by kernel_rfl) ?_ _
      refine NoPanic.normal ?_
      have HP5 : Hid (PutC g (x * 6) (k + 1) gs w w4) := Lib.hid ((HP.out.grow (m := 1) (h := fun _ => ⟨cr, ⟨cf, cg, cb, cu, ci⟩⟩) (w2 := w4) (by
        have hz := HZ.out.1
        have := HP4.out
        rw [hz, Nat.add_mul] at this
        exact ⟨((Keep.refl _ w2).drew).trans this.keep (fun _ _ e => e), this.fz, this.val, this.out⟩)).congr (fun j hj => by
          by_cases e : j < k
          · rw [if_pos e]
          · rw [if_neg e, show j = k from by omega]; exact HZ.out.2.symm))
      clear c0 c2 cl
      go_wp2_with fail
      go_roundw
      case rel => exact ⟨k + 1, by go_num, by go_num, by omega, HP5⟩
      case measure => simp [intOf]; omega
    · have hkM : k = M := by omega
      subst hkM
      by_cases k1 : (k : Int) < (n : Int)
      · have k2 : ¬ ((z : Int) < (W : Int)) := by omega
        have c0 := (HC.out _ HKw.out).1
        clear hMe hkm hz
        go_wp2_with fail
        refine (HI.out _ HKw.out).mono ?_
        rintro e w2 ⟨rfl, rfl⟩
        go_wp2_with fail
        go_ret
        exact ⟨rfl, HP.out⟩
      · clear hMe hkm hz
        go_wp2_with fail
        go_ret
        exact ⟨rfl, HP.out⟩

/-- The document's Set: how many, and what is there then. -/
def setTo (W H : Nat) (X Y : Int) (n : Nat) (gs : Nat → CellM) (F : Nat → Nat → CellM) (i j : Nat) : CellM := if (i : Int) = Y ∧ X ≤ j ∧ (j : Int) < X + n then gs (j - X.toNat) else F i j
theorem ref_set (w : World) (r lb lc W H : Nat) (R : Nat → Nat) (F : Nat → Nat → CellM) (X Y : Int) (A : Option Addr) (n cc : Nat) (gs : Nat → CellM) (h : RGrid w r lb lc W H R F)
    (hS : Src w A (n * 6) (flatF gs n)) (hA : 0 < n → ∀ b, blk A = some b → ¬ rown r lb H R b) (hn : n ≤ 1099511627776) :
    Calls Try.prog 14 #[.pointer (some ⟨r, 0, none⟩), .int .i64 X, .int .i64 Y, .slice A n cc] w fun e w' => e = .returned (.int .i64 ((min n (restN W H X Y) : Nat) : Int)) ∧ Keep (rown r lb H R) w w' ∧
      RGrid w' r lb lc W H R (setTo W H X Y (min n (restN W H X Y)) gs F) := by
  by_cases hi : 0 ≤ X ∧ X < W ∧ 0 ≤ Y ∧ Y < H
  · rw [show restN W H X Y = W - X.toNat from if_pos hi]
    obtain ⟨x, rfl⟩ := Int.eq_ofNat_of_zero_le hi.1
    obtain ⟨y, rfl⟩ := Int.eq_ofNat_of_zero_le hi.2.2.1
    refine (ref_set_in w r lb lc W H R F x y A n cc gs h (by omega) (by omega) hS (fun h0 b hb e => hA h0 b hb (.inr (.inr ⟨y, by omega, e⟩))) hn).mono ?_
    rintro e w' ⟨rfl, p⟩
    refine ⟨rfl, p.keep.mono (fun b _ e => .inr (.inr ⟨y, by omega, e⟩)), (h.put y x _ (by omega) (by omega) gs p).congr (fun i j hi' hj => ?_)⟩
    unfold setTo
    by_cases e : i = y ∧ x ≤ j ∧ j < x + min n (W - x)
    · rw [if_pos e, if_pos (by omega)]; rfl
    · rw [if_neg e, if_neg (by simp only [Int.ofNat_eq_natCast, Int.toNat_natCast]; omega)]
  · have hN : restN W H X Y = 0 := if_neg hi
    rw [hN, Nat.min_zero]
    have HR : Hid (∀ V, Keep (fun _ => False) w V → Keep (rown r lb H R) w V ∧ RGrid V r lb lc W H R (setTo W H X Y 0 gs F)) := Lib.hid (fun V k => ⟨k.mono (fun _ _ e => e.elim), (h.quiet k).congr (fun i j hi' hj => by unfold setTo; rw [if_neg (by omega)])⟩)
    have HI : Hid (∀ V, Keep (fun _ => False) w V → Calls Try.prog 31 #[.pointer (some ⟨r, 0, none⟩), .int .i64 X, .int .i64 Y] V fun e w' => e = .returned (.bool false) ∧ w' = V) := Lib.hid (fun V k => by
      have := ref_in V r lb lc W H R F X Y (h.quiet k)
      rwa [decide_eq_false hi] at this)
    clear h hi hN hS hA
    by_cases h0 : (0 : Int) < (n : Int)
    · go_enter Try.func14, Try.ntmps14
      go_wp2_with fail
      go_loopw [9, 10] (fun a i wr => a = .int .i64 0 ∧ i = .int .i64 0 ∧ wr = w) (fun _ _ _ => 0)
      case atStart => exact ⟨rfl, rfl, rfl⟩
      case round =>
        obtain ⟨rfl, rfl, rfl⟩ := hrel
        go_wp2_with fail
        refine (HI.out _ (Keep.refl _ _)).mono ?_
        rintro e w2 ⟨rfl, rfl⟩
        go_wp2_with fail
        go_ret
        exact ⟨rfl, HR.out _ (Keep.refl _ _)⟩
    · go_enter Try.func14, Try.ntmps14
      go_wp2_with fail
      go_loopw [9, 10] (fun a i wr => a = .int .i64 0 ∧ i = .int .i64 0 ∧ wr = w) (fun _ _ _ => 0)
      case atStart => exact ⟨rfl, rfl, rfl⟩
      case round =>
        obtain ⟨rfl, rfl, rfl⟩ := hrel
        go_wp2_with fail
        go_ret
        exact ⟨rfl, HR.out _ (Keep.refl _ _)⟩

end Go.Proofs.Ytbjdcbnmpmcdiaa
