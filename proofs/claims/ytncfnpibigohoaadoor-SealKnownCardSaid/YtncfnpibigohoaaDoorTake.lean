/- take. Own work (by sealtake.gen.py). -/
import Derived.Test.YtncfnpibigohoaaDoorTakeM
namespace Go.Proofs.YtncfnpibigohoaaDoor
set_option linter.unusedVariables false
open Go.RowKit

/-- How long a text is that lies in a slot. -/
def strLen : Value → Nat
  | .string s => s.size
  | _ => 0

theorem MsgAt.size_to {w : World} {p : Nat} {s : St} {part : List UInt8} {size : Nat} (h : MsgAt w p s part size) (size' : Nat) : MsgAt (w.setCell ⟨p, 72, none⟩ (.int .i64 (size' : Int))) p s part size' := by
  refine ⟨h.len, ?_⟩
  rw [heap_set h.row 72]
  congr 2
  apply Array.ext'
  simp only [Array.toList_setIfInBounds, msgCells]
  have h1 : (wcells s.words).length = 8 := by rw [wcells_length, words_length]
  have h2 : (Lib.byteCells part).length = 64 := by rw [Lib.byteCells_length, h.len]
  rw [List.set_append_right _ _ (by omega), List.set_append_right _ _ (by omega), h1, h2]
  rfl

set_option maxRecDepth 100000 in
set_option maxHeartbeats 3200000 in
theorem take_any (p : Nat) (l0 : List UInt8) (x : ByteArray) (w : World) (h : MsgL w p l0) (hr : Roots w) (hl : l0.length + x.size ≤ 1000000) :
    Calls Tryd.prog 24 #[.pointer (some ⟨p, 0, none⟩), .string x] w fun r w' => r = .returned (.tuple #[]) ∧ MsgL w' p (l0 ++ x.data.toList) ∧ Keep (· = p) w w' := by
  have H := Lib.hid h
  have HR := Lib.hid hr
  have hb1 : (Tryd.prog.info? 5).map (·.size) = some 1 := by kernel_rfl
  have HB1 := Lib.hid hb1
  clear h hr hb1
  go_enter Tryd.func24, Tryd.ntmps24
  go_wp2_with fail
  go_loopw [1] (fun v wr => ∃ (y : ByteArray) (m : List UInt8), v = .string y ∧ m.length + y.size ≤ 1000000 ∧ Hid (m ++ y.data.toList = l0 ++ x.data.toList) ∧ Hid (MsgL wr p m) ∧ Hid (Keep (· = p) w wr)) (fun v _ => strLen v)
  case atStart => exact ⟨x, l0, rfl, hl, rfl, H, Keep.refl _ _⟩
  case round =>
    obtain ⟨y, l, rfl, hle, HE, HL, HK⟩ := hrel
    by_cases hy : y.size = 0
    · have he : y = ⟨#[]⟩ := is_empty hy
      subst he
      go_wp2_with fail
      go_end0
      refine ⟨rfl, ?_, HK.out⟩
      have := HE.out
      simp only [List.append_nil] at this
      rw [← this]
      exact HL.out
    · have hne := not_empty hy
      have hne' : y.toList ≠ [] := by intro e; rw [e] at hne; cases hne
      obtain ⟨part, hm, hpt⟩ := HL.out
      obtain ⟨s, hs⟩ : ∃ s, s = run l (l.length / 64) := ⟨_, rfl⟩
      rw [← hs] at hm
      obtain ⟨r, hrr⟩ : ∃ r, r = l.length % 64 := ⟨_, rfl⟩
      obtain ⟨n, hn⟩ : ∃ n, n = min y.size (64 - r) := ⟨_, rfl⟩
      have hr63 : r ≤ 63 := by omega
      have hn1 : 1 ≤ n := by omega
      have hny : n ≤ y.size := by omega
      have hrn : r + n ≤ 64 := by omega
      have hfit : 8 + r + n ≤ (msgCells s part l.length).toArray.size := by rw [List.size_toArray, msg_length hm.len]; omega
      have c72 := hm.size_at
      have f72 := hm.fr 72
      have a1 : (l.length : Int).tmod 64 = (r : Int) := by rw [Int.tmod_eq_emod_of_nonneg (by omega)]; omega
      have a2 : (l.length : Int) % 64 = (r : Int) := by omega
      have HM := Lib.hid hm
      have HN := Lib.hid hn
      have HFit := Lib.hid hfit
      have HPT := Lib.hid hpt
      have HS := Lib.hid hs
      have HRR := Lib.hid hrr
      have hn64 : ¬ 64 = r := by omega
      have hr0 : (0 : Int) ≤ (r : Int) := by omega
      have hr64 : (r : Int) ≤ 64 := by omega
      have hyl : (y.data.toList.take n).length = n := by rw [List.length_take, ← Lib.size_eq]; omega
      obtain ⟨P2, hP2⟩ : ∃ P2, P2 = part.take r ++ y.data.toList.take n ++ part.drop (r + n) := ⟨_, rfl⟩
      have hc : ∀ W : World, W.heap = wr.heap → MsgAt (W.setRow p ((msgCells s part l.length).toArray.toList.take (8 + r) ++ Lib.byteCells (y.data.toList.take n) ++ (msgCells s part l.length).toArray.toList.drop (8 + r + n)).toArray) p s P2 l.length := fun W hW => by
        refine ⟨by rw [hP2]; exact copied_len part _ r n hm.len hyl hrn, ?_⟩
        rw [setRow_heap _ _ _ _ _ _ (by rw [hW]; exact hm.row), List.toList_toArray, copied_cells s part _ l.length r n hm.len hyl hrn, ← hP2]
      have HC := Lib.hid hc
      have HP2 := Lib.hid hP2
      have HYL := Lib.hid hyl
      have hp0 : p ≠ 0 := by
        intro e
        subst e
        have hr0 : Roots w := HR.out
        have h1 := H.out
        obtain ⟨q, h2, _⟩ := h1
        exact h2.ne_roots hr0 rfl
      have HP0 := Lib.hid hp0
      clear hm hn hfit hpt hs hrr hyl hP2 hc hp0
      go_wp2_with fail
      go_outline
      refine wp_region_noPanic ?_
      refine wp_region_held_drew (S := fun w' => w'.cell? ⟨p, 72, none⟩ = some (.int .i64 (l.length : Int))) (by kernel_rfl) c72 (fun hHeld => ?_)
      refine wpAnyH_take (i := 0) (oi := _) (v := ?va0) rfl (by kernel_rfl) (by kernel_rfl) (by kernel_rfl) (fun _ _ _ h => h) (Or.inl ⟨by rfl, ?hya0⟩) (by assumption) ?resta0
      case hya0 => (intro w hSw; (try dsimp only at hSw); (try simp only [List.getElem_toArray, List.getElem_cons_zero, List.getElem_cons_succ]); go_simp; (try with_reducible rfl))
      (try simp only [Act.put, List.setIfInBounds_toArray, List.set_cons_zero, List.set_cons_succ, List.getElem_toArray, List.getElem_cons_zero, List.getElem_cons_succ])
      refine wpAnyH_take (i := 1) (oi := _) (v := ?va1) rfl (by kernel_rfl) (by kernel_rfl) (by kernel_rfl) (fun _ _ _ h => h) (Or.inl ⟨by rfl, ?hya1⟩) (by assumption) ?resta1
      case hya1 => (intro w hSw; (try dsimp only at hSw); (try simp only [List.getElem_toArray, List.getElem_cons_zero, List.getElem_cons_succ]); go_simp; (try with_reducible rfl))
      (try simp only [Act.put, List.setIfInBounds_toArray, List.set_cons_zero, List.set_cons_succ, List.getElem_toArray, List.getElem_cons_zero, List.getElem_cons_succ])
      refine wpAnyH_take (i := 2) (oi := _) (v := ?va2) rfl (by kernel_rfl) (by kernel_rfl) (by kernel_rfl) (fun _ _ _ h => h) (Or.inl ⟨by rfl, ?hya2⟩) (by assumption) ?resta2
      case hya2 => (intro w hSw; (try dsimp only at hSw); (try simp only [List.getElem_toArray, List.getElem_cons_zero, List.getElem_cons_succ]); go_simp; (try with_reducible rfl))
      (try simp only [Act.put, List.setIfInBounds_toArray, List.set_cons_zero, List.set_cons_succ, List.getElem_toArray, List.getElem_cons_zero, List.getElem_cons_succ])
      refine wpAnyH_take (i := 3) (oi := _) (v := ?va3) rfl (by kernel_rfl) (by kernel_rfl) (by kernel_rfl) (fun _ _ _ h => h) (Or.inl ⟨by rfl, ?hya3⟩) (by assumption) ?resta3
      case hya3 => (intro w hSw; (try dsimp only at hSw); (try simp only [List.getElem_toArray, List.getElem_cons_zero, List.getElem_cons_succ]); go_simp; (try with_reducible rfl))
      (try simp only [Act.put, List.setIfInBounds_toArray, List.set_cons_zero, List.set_cons_succ, List.getElem_toArray, List.getElem_cons_zero, List.getElem_cons_succ])
      refine wpAnyH_take (i := 4) (oi := _) (v := ?va4) rfl (by kernel_rfl) (by kernel_rfl) (by kernel_rfl) (fun _ _ _ h => h) (Or.inl ⟨by rfl, ?hya4⟩) (by assumption) ?resta4
      case hya4 => (intro w hSw; (try dsimp only at hSw); (try simp only [List.getElem_toArray, List.getElem_cons_zero, List.getElem_cons_succ]); go_simp; (try with_reducible rfl))
      (try simp only [Act.put, List.setIfInBounds_toArray, List.set_cons_zero, List.set_cons_succ, List.getElem_toArray, List.getElem_cons_zero, List.getElem_cons_succ])
      refine wpAnyH_take (i := 5) (oi := _) (v := ?va5) rfl (by kernel_rfl) (by kernel_rfl) (by kernel_rfl) (fun _ _ _ h => h) (Or.inl ⟨by rfl, ?hya5⟩) (by assumption) ?resta5
      case hya5 => (intro w hSw; (try dsimp only at hSw); (try simp only [List.getElem_toArray, List.getElem_cons_zero, List.getElem_cons_succ]); go_simp; (try with_reducible rfl))
      (try simp only [Act.put, List.setIfInBounds_toArray, List.set_cons_zero, List.set_cons_succ, List.getElem_toArray, List.getElem_cons_zero, List.getElem_cons_succ])
      refine wpAnyH_take (i := 6) (oi := _) (v := ?va6) rfl (by kernel_rfl) (by kernel_rfl) (by kernel_rfl) (fun _ _ _ h => h) (Or.inl ⟨by rfl, ?hya6⟩) (by assumption) ?resta6
      case hya6 => (intro w hSw; (try dsimp only at hSw); (try simp only [List.getElem_toArray, List.getElem_cons_zero, List.getElem_cons_succ]); go_simp; (try with_reducible rfl))
      (try simp only [Act.put, List.setIfInBounds_toArray, List.set_cons_zero, List.set_cons_succ, List.getElem_toArray, List.getElem_cons_zero, List.getElem_cons_succ])
      refine wpAnyH_take (i := 7) (oi := _) (v := ?va7) rfl (by kernel_rfl) (by kernel_rfl) (by kernel_rfl) (fun _ _ _ h => h) (Or.inl ⟨by rfl, ?hya7⟩) (by assumption) ?resta7
      case hya7 => (intro w hSw; (try dsimp only at hSw); (try simp only [List.getElem_toArray, List.getElem_cons_zero, List.getElem_cons_succ]); go_simp; (try with_reducible rfl))
      (try simp only [Act.put, List.setIfInBounds_toArray, List.set_cons_zero, List.set_cons_succ, List.getElem_toArray, List.getElem_cons_zero, List.getElem_cons_succ])
      refine wpAnyH_take (i := 8) (oi := _) (v := ?va8) rfl (by kernel_rfl) (by kernel_rfl) (by kernel_rfl) (fun _ _ _ h => h) (Or.inl ⟨by rfl, ?hya8⟩) (by assumption) ?resta8
      case hya8 => (intro w hSw; (try dsimp only at hSw); (try simp only [List.getElem_toArray, List.getElem_cons_zero, List.getElem_cons_succ]); go_simp; (try with_reducible rfl))
      (try simp only [Act.put, List.setIfInBounds_toArray, List.set_cons_zero, List.set_cons_succ, List.getElem_toArray, List.getElem_cons_zero, List.getElem_cons_succ])
      refine wpAnyH_take (i := 9) (oi := _) (v := ?va9) rfl (by kernel_rfl) (by kernel_rfl) (by kernel_rfl) (fun _ _ _ h => h) (Or.inl ⟨by rfl, ?hya9⟩) (by assumption) ?resta9
      case hya9 => (intro w hSw; (try dsimp only at hSw); (try simp only [List.getElem_toArray, List.getElem_cons_zero, List.getElem_cons_succ]); go_simp; (try with_reducible rfl))
      (try simp only [Act.put, List.setIfInBounds_toArray, List.set_cons_zero, List.set_cons_succ, List.getElem_toArray, List.getElem_cons_zero, List.getElem_cons_succ])
      refine wpAnyH_ready (rs := [10]) (by kernel_rfl) (by simp) ?_
      refine AllReadyH.cons (o := _) rfl (fun K hK => ?_) AllReadyH.nil
      (try simp only [List.getElem_toArray, List.getElem_cons_zero, List.getElem_cons_succ])
      (rw [if_pos (by rfl)]; refine wp_copy_some _ (.tmp 15) (.tmp 16) 34 9 rfl 5 Tryd.underlying34 HB1.out y (msgCells s part l.length).toArray 59 n HN.out rfl rfl HM.out.row HFit.out ?_; generalize hwc : World.setRow _ p _ = wc; have HMC : Hid (MsgAt wc p s P2 l.length) := (by show MsgAt _ _ _ _ _; rw [← hwc]; exact HC.out _ rfl); have HKC : Hid (Keep (· = p) wr wc) := (by show Keep _ _ _; rw [← hwc]; exact ((Keep.refl (fun x => x = p) wr).drew).trans (keep_row _ _ _) (fun _ _ e => e)); clear hwc)
      refine hK.out _ _ ?_ (fun hHeld => ?_)
      · exact HMC.out.size_at
      clear hK K
      (try simp only [Act.put, List.setIfInBounds_toArray, List.set_cons_zero, List.set_cons_succ, List.getElem_toArray, List.getElem_cons_zero, List.getElem_cons_succ])
      refine wpAnyH_take (i := 11) (oi := _) (v := ?va11) rfl (by kernel_rfl) (by kernel_rfl) (by kernel_rfl) (fun _ _ _ h => h) (Or.inl ⟨by rfl, ?hya11⟩) (by assumption) ?resta11
      case hya11 => (intro w hSw; (try dsimp only at hSw); (try simp only [List.getElem_toArray, List.getElem_cons_zero, List.getElem_cons_succ]); go_simp; (try with_reducible rfl))
      (try simp only [Act.put, List.setIfInBounds_toArray, List.set_cons_zero, List.set_cons_succ, List.getElem_toArray, List.getElem_cons_zero, List.getElem_cons_succ])
      refine wpAnyH_done (by kernel_rfl) ?_ _
      refine NoPanic.normal ?_
      have c2 := HMC.out.size_at
      have f2 := HMC.out.fr 72
      have hM3 : MsgAt (wc.setCell ⟨p, 72, none⟩ (.int .i64 ((l.length : Int) + (n : Int)))) p s P2 (l.length + n) := by
        have := HMC.out.size_to (l.length + n)
        rwa [show ((l.length + n : Nat) : Int) = (l.length : Int) + (n : Int) from by omega] at this
      have hK3 : Keep (· = p) w (wc.setCell ⟨p, 72, none⟩ (.int .i64 ((l.length : Int) + (n : Int)))) := (HK.out.trans HKC.out (fun _ _ e => e)).own _ _
      have hll : (l ++ y.data.toList.take n).length = l.length + n := by rw [List.length_append, HYL.out]
      have hE2 : (l ++ y.data.toList.take n) ++ (y.extract n y.size).data.toList = l0 ++ x.data.toList := by
        rw [← HE.out, List.append_assoc]
        congr 1
        have : (y.extract n y.size).data.toList = y.data.toList.drop n := by
          simp [ByteArray.data_extract]
          rw [List.take_of_length_le]
          simp [List.length_drop]
        rw [this, List.take_append_drop]
      have hy2 : (y.extract n y.size).size = y.size - n := by simp [ByteArray.size_extract]
      have HE2 := Lib.hid hE2
      have HLL := Lib.hid hll
      have HY2 := Lib.hid hy2
      have HM3 := Lib.hid hM3
      have HK3 := Lib.hid hK3
      clear hM3 hK3 hll hE2 hy2
      by_cases hfull : r + n = 64
      · have ht : (((l.length : Int) + (n : Int)) % 64 == 0) = true := by rw [beq_iff_eq]; omega
        have HFu := Lib.hid hfull
        clear hfull
        go_wp2_with fail
        refine (mix_any p s P2 (l.length + n) _ HM3.out (HR.out.keep HK3.out (fun e => HP0.out e.symm))).mono ?_
        rintro q w4 ⟨rfl, m4, k4⟩
        have HM4 := Lib.hid m4
        have HK4 := Lib.hid k4
        clear m4 k4
        go_wp2_with fail
        go_roundw
        case rel =>
          refine ⟨_, l ++ y.data.toList.take n, rfl, by rw [HLL.out, HY2.out]; omega, HE2.out, ⟨P2, ?_, ?_⟩, HK3.out.trans HK4.out (fun _ _ e => e)⟩
          · have hf := held_full l (y.data.toList.take n) part n HYL.out (by rw [← HRR.out]; exact HFu.out) HM.out.len HPT.out
            rw [hf.2, HLL.out, ← HRR.out, ← HP2.out, ← HS.out]
            exact HM4.out
          · have hf := held_full l (y.data.toList.take n) part n HYL.out (by rw [← HRR.out]; exact HFu.out) HM.out.len HPT.out
            rw [← HRR.out, ← HP2.out] at hf
            exact hf.1
        case measure => simp only [strLen, HY2.out]; omega
      · have ht : (((l.length : Int) + (n : Int)) % 64 == 0) = false := by rw [beq_eq_false_iff_ne]; omega
        have HFu := Lib.hid hfull
        clear hfull
        go_wp2_with fail
        go_roundw
        case rel =>
          have hf := held_some l (y.data.toList.take n) part n HYL.out (by rw [← HRR.out]; have := HFu.out; omega) HPT.out
          rw [← HRR.out, ← HP2.out, ← HS.out] at hf
          refine ⟨_, l ++ y.data.toList.take n, rfl, by rw [HLL.out, HY2.out]; omega, HE2.out, ⟨P2, ?_, hf.1⟩, HK3.out⟩
          rw [hf.2, HLL.out]
          exact HM3.out
        case measure => simp only [strLen, HY2.out]; omega
end Go.Proofs.YtncfnpibigohoaaDoor
