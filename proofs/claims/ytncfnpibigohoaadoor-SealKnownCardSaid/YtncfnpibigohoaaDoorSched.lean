/- schedule. Own work (by sched.gen.py). -/
import Derived.Test.YtncfnpibigohoaaDoorTab
import Derived.OrdersHeld
import Derived.Deep.RegionHeld3
namespace Go.Proofs.YtncfnpibigohoaaDoor
set_option linter.unusedVariables false
open Go.RowKit

theorem tab_zero (w : World) (part : List UInt8) (t : TypeId) : ∀ Z : List Value, Z = wcells (List.replicate 64 (Wd.of 0)) → Tab (w.alloc (.cells Z.toArray t)) t w.heap.size 64 (accW part 0) := by
  intro Z hZ
  unfold Tab
  rw [heap_alloc_new, hZ]
  have e : tabL 64 (accW part 0) = tabL 64 (fun _ => Wd.of 0) := tabL_congr fun t _ => accW_zero part t
  rw [e]
  rfl

set_option maxRecDepth 100000 in
set_option maxHeartbeats 3200000 in
theorem sched_any (p : Nat) (s : St) (part : List UInt8) (size : Nat) (w : World) (h : MsgAt w p s part size) :
    Calls Tryd.prog 40 #[.pointer (some ⟨p, 0, none⟩)] w fun r w' => r = .returned (.agg (wcells (sched part 64)).toArray) ∧ Below w.heap.size w w' := by
  have hr : ∀ o1 o2, ((w.alloc o1).alloc o2).rangeAt p 8 (Lib.byteCells part) := fun o1 o2 =>
    (h.below (((Below.refl _ _).alloc (Nat.le_refl _) _).alloc (by simp) _)).part_range
  have HR := Lib.hid hr
  have HL := Lib.hid h.len
  obtain ⟨PA, hPA⟩ : ∃ PA, PA = (Lib.byteCells part).toArray := ⟨_, rfl⟩
  have HPA := Lib.hid hPA
  have HI : (Tryd.prog.info? 57).map (·.size) = some (Lib.byteCells part).length := by rw [part_info, Lib.byteCells_length, h.len]
  have HIh := Lib.hid HI
  clear h hPA hr HI
  obtain ⟨i0, hi, hz0, hz1, hz2⟩ := info_parts byte_info
  have I0 := Lib.hid hi
  clear hz0 hz2
  go_enter Tryd.func40, Tryd.ntmps40
  go_wp2_with (refine wpList_load_mid rfl 57 (.tmp 9) rfl p 8 rfl (Lib.byteCells part) _ (HR.out _ _) Tryd.underlying57 rfl HIh.out ?_; rw [← HPA.out])
  generalize hw1 : (w.alloc (Obj.cells _ 53)).alloc (Obj.cells _ 53) = w1
  obtain ⟨B, hB⟩ : ∃ B, B = w.heap.size + 1 := ⟨_, rfl⟩
  have hT0 : Tab w1 53 B 64 (accW part 0) := by
    have h1 := tab_zero (w.alloc (.cells (wcells (List.replicate 64 (Wd.of 0))).toArray 53)) part 53 _ rfl
    rw [show (w.alloc (.cells (wcells (List.replicate 64 (Wd.of 0))).toArray 53)).heap.size = w.heap.size + 1 from by simp] at h1
    rw [hB, ← hw1]
    exact h1
  have hb1 : Below w.heap.size w w1 := by rw [← hw1]; exact ((Below.refl _ _).alloc (Nat.le_refl _) _).alloc (by simp) _
  have hB0 : ∃ c : Array Value, c.size = 64 ∧ w1.heap[w.heap.size]? = some (.cells c 53 (0, 0)) := by
    rw [← hw1]; exact ⟨_, rfl, heap_alloc (heap_alloc_new w _) _⟩
  rw [← hB]
  have HT0 := Lib.hid hT0
  have HB1 := Lib.hid hb1
  have HB0 := Lib.hid hB0
  have HBe := Lib.hid hB
  clear hT0 hb1 hB0 hw1 hB
  go_loopw [11] (fun i wr => ∃ k : Nat, k ≤ 64 ∧ i = .int .i64 k ∧ Hid (Tab wr 53 B 64 (accW part k)) ∧ Hid (Keep (· = B) w1 wr)) (fun i _ => 64 - (intOf i).toNat)
  case atStart => exact ⟨0, by omega, rfl, HT0, Keep.refl _ _⟩
  case round =>
    obtain ⟨k, hk, rfl, HT, HK⟩ := hrel
    by_cases hlt : k < 64
    · obtain ⟨x, hx⟩ : ∃ x, part[k]? = some x := ⟨part[k]'(by rw [HL.out]; exact hlt), List.getElem?_eq_getElem _⟩
      have hpa : PA[k]? = some (.int .u8 x.toNat) := by rw [HPA.out]; simp [Lib.byteCells, hx]
      have hix : ∀ W, (Instr.index 57 (.agg PA) (.int .i64 (k : Int))).run Tryd.prog W = .ok (.int .u8 x.toNat) W := fun W =>
        run_index_agg W 57 5 64 i0 _ Tryd.underlying57 Tryd.underlying5 rfl hi hz1 PA .i64 k hlt _ hpa
      have hc := HT.out.cell (i := k / 4) (by omega)
      have hf := HT.out.fr (k / 4)
      have hq := accW_same part hx
      have hxl := x.toNat_lt
      clear hpa
      generalize accW part k (k / 4) = xo at hc hq
      go_wp2_with fail
      go_roundw
      case rel => exact ⟨k + 1, by omega, by go_num, ((HT.out.set (i := k / 4) (by omega) _).congr fun i _ => by
          by_cases e : i = k / 4
          · subst e; exact upd_same _ _ _
          · rw [upd_ne _ _ e, accW_other part e]), HK.out.own _ _⟩
      case measure => simp [intOf]; omega
    · obtain rfl : k = 64 := by omega
      have hT2 : Tab wr 53 B 64 (accW part 64) := HT.out
      clear hlt hk HT
      obtain ⟨we, rfl⟩ : ∃ we : World, we = wr := ⟨_, rfl⟩
      have HT2 := Lib.hid hT2
      have HK2 := Lib.hid HK.out
      clear hT2 HK
      rw [show ((64 : Nat) : Int) = 64 from rfl]
      go_wp2_with fail
      go_loopw [6] (fun i wr => ∃ (t : Nat) (f : Nat → Wd), 16 ≤ t ∧ t ≤ 64 ∧ i = .int .i64 t ∧ Hid (∀ i, i < t → f i = wd part i) ∧ Hid (Tab wr 53 B 64 f) ∧ Hid (Keep (· = B) w1 wr)) (fun i _ => 64 - (intOf i).toNat)
      case atStart => exact ⟨16, _, by omega, by omega, rfl, fun i h => accW_word part h, HT2, HK2⟩
      case round =>
        obtain ⟨t, f, ht1, ht2, rfl, HF, HT, HK⟩ := hrel
        by_cases hlt : t < 64
        · have b16 : ((t - 16 : Nat) : Int) < 64 := by omega
          have b15 : ((t - 15 : Nat) : Int) < 64 := by omega
          have b7 : ((t - 7 : Nat) : Int) < 64 := by omega
          have b2 : ((t - 2 : Nat) : Int) < 64 := by omega
          have a16 : IntKind.i64.wrap ((t : Int) - 16) = ((t - 16 : Nat) : Int) := by rw [IntWalk.i64_in _ (by omega)]; omega
          have a15 : IntKind.i64.wrap ((t : Int) - 15) = ((t - 15 : Nat) : Int) := by rw [IntWalk.i64_in _ (by omega)]; omega
          have a7 : IntKind.i64.wrap ((t : Int) - 7) = ((t - 7 : Nat) : Int) := by rw [IntWalk.i64_in _ (by omega)]; omega
          have a2 : IntKind.i64.wrap ((t : Int) - 2) = ((t - 2 : Nat) : Int) := by rw [IntWalk.i64_in _ (by omega)]; omega
          have c16 := HT.out.cell (i := t - 16) (by omega)
          have c15 := HT.out.cell (i := t - 15) (by omega)
          have c7 := HT.out.cell (i := t - 7) (by omega)
          have c2 := HT.out.cell (i := t - 2) (by omega)
          have cf := HT.out.fr t
          have cT := HT.out.cell (i := t) hlt
          have l16 : t - 16 < t := by omega
          have l15 : t - 15 < t := by omega
          have l7 : t - 7 < t := by omega
          have l2 : t - 2 < t := by omega
          have hne := wd_next part ht1
          rw [← HF.out (t - 16) (by omega), ← HF.out (t - 15) (by omega), ← HF.out (t - 7) (by omega), ← HF.out (t - 2) (by omega)] at hne
          have HN := Lib.hid hne
          have HT3 := Lib.hid (HT.out.set (i := t) hlt (wd part t))
          clear hne
          generalize f t = xt at cT
          generalize f (t - 16) = x16 at c16 HN
          generalize t - 16 = m16 at b16 a16 c16 l16
          generalize f (t - 15) = x15 at c15 HN
          generalize t - 15 = m15 at b15 a15 c15 l15
          generalize f (t - 7) = x7 at c7 HN
          generalize t - 7 = m7 at b7 a7 c7 l7
          generalize f (t - 2) = x2 at c2 HN
          generalize t - 2 = m2 at b2 a2 c2 l2
          have e1 := Wd.add_is x16 (x15.small 7 18 3)
          have e2 := Wd.add_is (x16.add (x15.small 7 18 3)) x7
          have e3 := Wd.add_is ((x16.add (x15.small 7 18 3)).add x7) (x2.small 17 19 10)
          rw [← HN.out] at e3
          go_wp2_with fail
          refine wp_region_noPanic ?_
          refine wp_region_held_drew (S := fun w' => w'.cell? ⟨B, m16, none⟩ = some (.int .u32 x16.n) ∧ w'.cell? ⟨B, m15, none⟩ = some (.int .u32 x15.n) ∧ w'.cell? ⟨B, m7, none⟩ = some (.int .u32 x7.n) ∧ w'.cell? ⟨B, m2, none⟩ = some (.int .u32 x2.n)) (by kernel_rfl) ⟨c16, c15, c7, c2⟩ (fun hHeld => ?_)
          refine wpAnyH_take (i := 0) (oi := _) (v := ?va0) rfl (by kernel_rfl) (by kernel_rfl) (by kernel_rfl) (fun _ _ _ h => h) (Or.inl ⟨by rfl, ?hya0⟩) (by assumption) ?resta0
          case hya0 => (intro w hSw; (try dsimp only at hSw); (try simp only [List.getElem_toArray, List.getElem_cons_zero, List.getElem_cons_succ]); go_simp; (try with_reducible rfl))
          (try simp only [Act.put, List.setIfInBounds_toArray, List.set_cons_zero, List.set_cons_succ, List.getElem_toArray, List.getElem_cons_zero, List.getElem_cons_succ])
          refine wpAnyH_take (i := 1) (oi := _) (v := ?va1) rfl (by kernel_rfl) (by kernel_rfl) (by kernel_rfl) (fun _ _ _ h => h) (Or.inl ⟨by rfl, ?hya1⟩) (by assumption) ?resta1
          case hya1 => (intro w hSw; (try dsimp only at hSw); (try simp only [List.getElem_toArray, List.getElem_cons_zero, List.getElem_cons_succ]); go_simp; (try with_reducible rfl))
          (try simp only [Act.put, List.setIfInBounds_toArray, List.set_cons_zero, List.set_cons_succ, List.getElem_toArray, List.getElem_cons_zero, List.getElem_cons_succ])
          refine wpAnyH_take (i := 2) (oi := _) (v := ?va2) rfl (by kernel_rfl) (by kernel_rfl) (by kernel_rfl) (fun _ _ _ h => h) (Or.inl ⟨by rfl, ?hya2⟩) (by assumption) ?resta2
          case hya2 => (intro w hSw; (try dsimp only at hSw); (try simp only [List.getElem_toArray, List.getElem_cons_zero, List.getElem_cons_succ]); go_simp; (try with_reducible rfl))
          (try simp only [Act.put, List.setIfInBounds_toArray, List.set_cons_zero, List.set_cons_succ, List.getElem_toArray, List.getElem_cons_zero, List.getElem_cons_succ])
          refine wpAnyH_take (i := 3) (oi := _) (v := ?va3) rfl (by kernel_rfl) (by kernel_rfl) (by kernel_rfl) (fun _ _ _ h => h) (Or.inl ⟨by rfl, ?hya3⟩) (by assumption) ?resta3
          case hya3 => (intro w hSw; (try dsimp only at hSw); (try simp only [List.getElem_toArray, List.getElem_cons_zero, List.getElem_cons_succ]); go_simp; (try with_reducible rfl))
          (try simp only [Act.put, List.setIfInBounds_toArray, List.set_cons_zero, List.set_cons_succ, List.getElem_toArray, List.getElem_cons_zero, List.getElem_cons_succ])
          refine wpAnyH_take (i := 4) (oi := _) (v := ?va4) rfl (by kernel_rfl) (by kernel_rfl) (by kernel_rfl) (fun _ _ _ h => h) (Or.inl ⟨by rfl, ?hya4⟩) (by assumption) ?resta4
          case hya4 => (intro w hSw; (try dsimp only at hSw); (try simp only [List.getElem_toArray, List.getElem_cons_zero, List.getElem_cons_succ]); go_simp; (try with_reducible rfl))
          (try simp only [Act.put, List.setIfInBounds_toArray, List.set_cons_zero, List.set_cons_succ, List.getElem_toArray, List.getElem_cons_zero, List.getElem_cons_succ])
          refine wpAnyH_take (i := 5) (oi := _) (v := ?va5) rfl (by kernel_rfl) (by kernel_rfl) (by kernel_rfl) (fun _ _ _ h => h) (Or.inl ⟨by rfl, ?hya5⟩) (by assumption) ?resta5
          case hya5 => (intro w hSw; (try dsimp only at hSw); (try simp only [List.getElem_toArray, List.getElem_cons_zero, List.getElem_cons_succ]); go_simp; (try with_reducible rfl))
          (try simp only [Act.put, List.setIfInBounds_toArray, List.set_cons_zero, List.set_cons_succ, List.getElem_toArray, List.getElem_cons_zero, List.getElem_cons_succ])
          refine wpAnyH_take (i := 6) (oi := _) (v := ?va6) rfl (by kernel_rfl) (by kernel_rfl) (by kernel_rfl) (fun _ _ _ h => h) (Or.inl ⟨by rfl, ?hya6⟩) (by assumption) ?resta6
          case hya6 => (intro w hSw; (try dsimp only at hSw); (try simp only [List.getElem_toArray, List.getElem_cons_zero, List.getElem_cons_succ]); go_simp; (try with_reducible rfl))
          (try simp only [Act.put, List.setIfInBounds_toArray, List.set_cons_zero, List.set_cons_succ, List.getElem_toArray, List.getElem_cons_zero, List.getElem_cons_succ])
          refine wpAnyH_take (i := 7) (oi := _) (v := ?va7) rfl (by kernel_rfl) (by kernel_rfl) (by kernel_rfl) (fun _ _ _ h => h) (Or.inl ⟨by rfl, ?hya7⟩) (by assumption) ?resta7
          case hya7 => (intro w hSw; (try dsimp only at hSw); (try simp only [List.getElem_toArray, List.getElem_cons_zero, List.getElem_cons_succ]); go_simp; (try with_reducible rfl))
          (try simp only [Act.put, List.setIfInBounds_toArray, List.set_cons_zero, List.set_cons_succ, List.getElem_toArray, List.getElem_cons_zero, List.getElem_cons_succ])
          refine wpAnyH_take (i := 8) (oi := _) (v := ?va8) rfl (by kernel_rfl) (by kernel_rfl) (by kernel_rfl) (fun _ _ _ h => h) (Or.inl ⟨by rfl, ?hya8⟩) (by assumption) ?resta8
          case hya8 => (intro w hSw; (try dsimp only at hSw); (try simp only [List.getElem_toArray, List.getElem_cons_zero, List.getElem_cons_succ]); go_simp; (try with_reducible rfl))
          (try simp only [Act.put, List.setIfInBounds_toArray, List.set_cons_zero, List.set_cons_succ, List.getElem_toArray, List.getElem_cons_zero, List.getElem_cons_succ])
          refine wpAnyH_take (i := 11) (oi := _) (v := ?va11) rfl (by kernel_rfl) (by kernel_rfl) (by kernel_rfl) (fun _ _ _ h => h) (Or.inl ⟨by rfl, ?hya11⟩) (by assumption) ?resta11
          case hya11 => (intro w hSw; (try dsimp only at hSw); (try simp only [List.getElem_toArray, List.getElem_cons_zero, List.getElem_cons_succ]); go_simp; (try with_reducible rfl))
          (try simp only [Act.put, List.setIfInBounds_toArray, List.set_cons_zero, List.set_cons_succ, List.getElem_toArray, List.getElem_cons_zero, List.getElem_cons_succ])
          refine wpAnyH_take (i := 12) (oi := _) (v := ?va12) rfl (by kernel_rfl) (by kernel_rfl) (by kernel_rfl) (fun _ _ _ h => h) (Or.inl ⟨by rfl, ?hya12⟩) (by assumption) ?resta12
          case hya12 => (intro w hSw; (try dsimp only at hSw); (try simp only [List.getElem_toArray, List.getElem_cons_zero, List.getElem_cons_succ]); go_simp; (try with_reducible rfl))
          (try simp only [Act.put, List.setIfInBounds_toArray, List.set_cons_zero, List.set_cons_succ, List.getElem_toArray, List.getElem_cons_zero, List.getElem_cons_succ])
          refine wpAnyH_take (i := 13) (oi := _) (v := ?va13) rfl (by kernel_rfl) (by kernel_rfl) (by kernel_rfl) (fun _ _ _ h => h) (Or.inl ⟨by rfl, ?hya13⟩) (by assumption) ?resta13
          case hya13 => (intro w hSw; (try dsimp only at hSw); (try simp only [List.getElem_toArray, List.getElem_cons_zero, List.getElem_cons_succ]); go_simp; (try with_reducible rfl))
          (try simp only [Act.put, List.setIfInBounds_toArray, List.set_cons_zero, List.set_cons_succ, List.getElem_toArray, List.getElem_cons_zero, List.getElem_cons_succ])
          refine wpAnyH_take (i := 14) (oi := _) (v := ?va14) rfl (by kernel_rfl) (by kernel_rfl) (by kernel_rfl) (fun _ _ _ h => h) (Or.inl ⟨by rfl, ?hya14⟩) (by assumption) ?resta14
          case hya14 => (intro w hSw; (try dsimp only at hSw); (try simp only [List.getElem_toArray, List.getElem_cons_zero, List.getElem_cons_succ]); go_simp; (try with_reducible rfl))
          (try simp only [Act.put, List.setIfInBounds_toArray, List.set_cons_zero, List.set_cons_succ, List.getElem_toArray, List.getElem_cons_zero, List.getElem_cons_succ])
          refine wpAnyH_take (i := 16) (oi := _) (v := ?va16) rfl (by kernel_rfl) (by kernel_rfl) (by kernel_rfl) (fun _ _ _ h => h) (Or.inl ⟨by rfl, ?hya16⟩) (by assumption) ?resta16
          case hya16 => (intro w hSw; (try dsimp only at hSw); (try simp only [List.getElem_toArray, List.getElem_cons_zero, List.getElem_cons_succ]); go_simp; (try with_reducible rfl))
          (try simp only [Act.put, List.setIfInBounds_toArray, List.set_cons_zero, List.set_cons_succ, List.getElem_toArray, List.getElem_cons_zero, List.getElem_cons_succ])
          refine wpAnyH_take (i := 17) (oi := _) (v := ?va17) rfl (by kernel_rfl) (by kernel_rfl) (by kernel_rfl) (fun _ _ _ h => h) (Or.inl ⟨by rfl, ?hya17⟩) (by assumption) ?resta17
          case hya17 => (intro w hSw; (try dsimp only at hSw); (try simp only [List.getElem_toArray, List.getElem_cons_zero, List.getElem_cons_succ]); go_simp; (try with_reducible rfl))
          (try simp only [Act.put, List.setIfInBounds_toArray, List.set_cons_zero, List.set_cons_succ, List.getElem_toArray, List.getElem_cons_zero, List.getElem_cons_succ])
          refine wpAnyH_take (i := 18) (oi := _) (v := ?va18) rfl (by kernel_rfl) (by kernel_rfl) (by kernel_rfl) (fun _ _ _ h => h) (Or.inl ⟨by rfl, ?hya18⟩) (by assumption) ?resta18
          case hya18 => (intro w hSw; (try dsimp only at hSw); (try simp only [List.getElem_toArray, List.getElem_cons_zero, List.getElem_cons_succ]); go_simp; (try with_reducible rfl))
          (try simp only [Act.put, List.setIfInBounds_toArray, List.set_cons_zero, List.set_cons_succ, List.getElem_toArray, List.getElem_cons_zero, List.getElem_cons_succ])
          refine wpAnyH_take (i := 19) (oi := _) (v := ?va19) rfl (by kernel_rfl) (by kernel_rfl) (by kernel_rfl) (fun _ _ _ h => h) (Or.inl ⟨by rfl, ?hya19⟩) (by assumption) ?resta19
          case hya19 => (intro w hSw; (try dsimp only at hSw); (try simp only [List.getElem_toArray, List.getElem_cons_zero, List.getElem_cons_succ]); go_simp; (try with_reducible rfl))
          (try simp only [Act.put, List.setIfInBounds_toArray, List.set_cons_zero, List.set_cons_succ, List.getElem_toArray, List.getElem_cons_zero, List.getElem_cons_succ])
          refine wpAnyH_ready (rs := [9]) (by kernel_rfl) (by simp) ?_
          refine AllReadyH.cons (o := _) rfl (fun K hK => ?_) AllReadyH.nil
          (try simp only [List.getElem_toArray, List.getElem_cons_zero, List.getElem_cons_succ])
          go_simp
          (refine (shift_seal x15 7 18 3 _ (by omega) (by omega) (by omega) (by omega) (by omega) (by omega)).mono ?_; rintro r w2 ⟨rfl, kk, rfl⟩)
          refine hK.out _ _ ?_ (fun hHeld => ?_)
          · exact ⟨c16, c15, c7, c2⟩
          clear hK K
          (try simp only [Act.put, List.setIfInBounds_toArray, List.set_cons_zero, List.set_cons_succ, List.getElem_toArray, List.getElem_cons_zero, List.getElem_cons_succ])
          refine wpAnyH_take (i := 10) (oi := _) (v := ?va10) rfl (by kernel_rfl) (by kernel_rfl) (by kernel_rfl) (fun _ _ _ h => h) (Or.inl ⟨by rfl, ?hya10⟩) (by assumption) ?resta10
          case hya10 => (intro w hSw; (try dsimp only at hSw); (try simp only [List.getElem_toArray, List.getElem_cons_zero, List.getElem_cons_succ]); go_simp; (try with_reducible rfl))
          (try simp only [Act.put, List.setIfInBounds_toArray, List.set_cons_zero, List.set_cons_succ, List.getElem_toArray, List.getElem_cons_zero, List.getElem_cons_succ])
          refine wpAnyH_take (i := 15) (oi := _) (v := ?va15) rfl (by kernel_rfl) (by kernel_rfl) (by kernel_rfl) (fun _ _ _ h => h) (Or.inl ⟨by rfl, ?hya15⟩) (by assumption) ?resta15
          case hya15 => (intro w hSw; (try dsimp only at hSw); (try simp only [List.getElem_toArray, List.getElem_cons_zero, List.getElem_cons_succ]); go_simp; (try with_reducible rfl))
          (try simp only [Act.put, List.setIfInBounds_toArray, List.set_cons_zero, List.set_cons_succ, List.getElem_toArray, List.getElem_cons_zero, List.getElem_cons_succ])
          refine wpAnyH_ready (rs := [20]) (by kernel_rfl) (by simp) ?_
          refine AllReadyH.cons (o := _) rfl (fun K hK => ?_) AllReadyH.nil
          (try simp only [List.getElem_toArray, List.getElem_cons_zero, List.getElem_cons_succ])
          go_simp
          (refine (shift_seal x2 17 19 10 _ (by omega) (by omega) (by omega) (by omega) (by omega) (by omega)).mono ?_; rintro r w2 ⟨rfl, kk, rfl⟩)
          refine hK.out _ _ ?_ (fun hHeld => ?_)
          · exact ⟨c16, c15, c7, c2⟩
          clear hK K
          (try simp only [Act.put, List.setIfInBounds_toArray, List.set_cons_zero, List.set_cons_succ, List.getElem_toArray, List.getElem_cons_zero, List.getElem_cons_succ])
          refine wpAnyH_take (i := 21) (oi := _) (v := ?va21) rfl (by kernel_rfl) (by kernel_rfl) (by kernel_rfl) (fun _ _ _ h => h) (Or.inl ⟨by rfl, ?hya21⟩) (by assumption) ?resta21
          case hya21 => (intro w hSw; (try dsimp only at hSw); (try simp only [List.getElem_toArray, List.getElem_cons_zero, List.getElem_cons_succ]); go_simp; (try with_reducible rfl))
          (try simp only [Act.put, List.setIfInBounds_toArray, List.set_cons_zero, List.set_cons_succ, List.getElem_toArray, List.getElem_cons_zero, List.getElem_cons_succ])
          refine wpAnyH_take (i := 22) (oi := _) (v := ?va22) rfl (by kernel_rfl) (by kernel_rfl) (by kernel_rfl) (fun _ _ _ h => h) (Or.inl ⟨by rfl, ?hya22⟩) (by assumption) ?resta22
          case hya22 => (intro w hSw; (try dsimp only at hSw); (try simp only [List.getElem_toArray, List.getElem_cons_zero, List.getElem_cons_succ]); go_simp; (try with_reducible rfl))
          (try simp only [Act.put, List.setIfInBounds_toArray, List.set_cons_zero, List.set_cons_succ, List.getElem_toArray, List.getElem_cons_zero, List.getElem_cons_succ])
          refine wpAnyH_ready (rs := [23]) (by kernel_rfl) (by simp) ?_
          refine AllReadyH.cons (o := _) rfl (fun K hK => ?_) AllReadyH.nil
          (try simp only [List.getElem_toArray, List.getElem_cons_zero, List.getElem_cons_succ])
          go_simp
          refine hK.out _ _ ?_ (fun hHeld => ?_)
          · exact ⟨(World.cell?_setCell_other _ _ _ _ (by simp; try omega)).trans c16, (World.cell?_setCell_other _ _ _ _ (by simp; try omega)).trans c15, (World.cell?_setCell_other _ _ _ _ (by simp; try omega)).trans c7, (World.cell?_setCell_other _ _ _ _ (by simp; try omega)).trans c2⟩
          clear hK K
          (try simp only [Act.put, List.setIfInBounds_toArray, List.set_cons_zero, List.set_cons_succ, List.getElem_toArray, List.getElem_cons_zero, List.getElem_cons_succ])
          refine wpAnyH_done (by kernel_rfl) ?_ _
          refine NoPanic.normal ?_
          go_wp2_with fail
          go_roundw
          case rel => exact ⟨t + 1, _, by omega, by omega, by go_num, (fun i hi => by
              by_cases e : i = t
              · subst e; rw [upd_same]
              · rw [upd_ne _ _ e]; exact HF.out i (by omega)), HT3.out, (HK.out.drewN _).own _ _⟩
          case measure => simp [intOf]; omega
        · obtain rfl : t = 64 := by omega
          have hT : Tab wr 53 B 64 (wd part) := HT.out.congr HF.out
          have HT4 := Lib.hid hT
          obtain ⟨c, hcs, hc⟩ := HB0.out
          have hc2 := HK.out.heap hc (by rw [HBe.out]; omega)
          have hb2 : Below w.heap.size w wr := HB1.out.trans (HK.out.below (by have := HB1.out.size; omega) (fun k hk e => by rw [HBe.out] at e; omega))
          have HC2 := Lib.hid hc2
          have HCs := Lib.hid hcs
          have HB2 := Lib.hid hb2
          clear hcs hc hc2 hb2 hT hlt ht1 ht2 HF HT
          rw [show ((64 : Nat) : Int) = 64 from rfl]
          have hz : (wcells (tabL 64 (wd part))).toArray.size = 64 := by rw [List.size_toArray, wcells_length, tabL_len]
          have h64 : (Tryd.prog.info? 53).map (·.size) = some (wcells (tabL 64 (wd part))).toArray.size := by rw [words_info, hz]
          have hold : c.size = (wcells (tabL 64 (wd part))).toArray.size := by rw [HCs.out, hz]
          have H64 := Lib.hid h64
          have HOL := Lib.hid hold
          have HZ := Lib.hid hz
          have H1 := Lib.hid (wcells_one (tabL 64 (wd part)))
          have hsched : wcells (sched part 64) = wcells (tabL 64 (wd part)) := by rw [sched_is]; rfl
          have HS := Lib.hid hsched
          clear hz h64 hold hsched
          go_wp2_with (first
            | refine wpList_load_mid rfl 53 (.tmp 3) rfl B 0 rfl (wcells (tabL 64 (wd part))) _ HT4.out.range Tryd.underlying53 rfl (by rw [words_info, wcells_length, tabL_len]) ?_
            | refine wpList_store_row rfl 53 (.tmp 2) (.tmp 54) rfl w.heap.size 53 c (wcells (tabL 64 (wd part))).toArray rfl rfl HC2.out H64.out HOL.out H1.out ?_)
          refine bodyPost_ret (v := .agg (wcells (tabL 64 (wd part))).toArray) ?_ rfl ⟨by rw [HS.out], ?_⟩
          · exact results_cell_row Tryd.results40 _ _ w.heap.size 53 _ (0, 0) _ rfl (setRow_heap _ _ _ _ _ _ HC2.out) Tryd.underlying53 rfl H64.out
          · exact (HB2.out.trans ((keep_row _ _ _).below HB2.out.size (fun k hk e => by omega)))

end Go.Proofs.YtncfnpibigohoaaDoor
