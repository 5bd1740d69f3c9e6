/- The document's own Tag. Own work (by sealreft.gen.py). The document's own Seal and Open. Own work. -/
import Derived.Test.YtncpjapfkcgjnaaDoorDigB
import Derived.Test.YtncpjapfkcgjnaaDoorSealC
set_option linter.unusedVariables false
set_option linter.unusedSimpArgs false
namespace Go.Proofs.YtncpjapfkcgjnaaDoor
set_option linter.unusedVariables false
set_option linter.unusedSimpArgs false
open Go.RowKit

theorem two_appends {w wr w2 w3 : World} {A1 A2 A1' A2' : Option Addr} {n1 n2 c1' c2' : Nat} {xs ys : List Value} (hb : Below w.heap.size w wr)
    (h2 : Buf w2 A1' n1 c1' xs) (k2 : Keep (fun j => blk A1 = some j) wr w2) (f2 : ∀ k, blk A1' = some k → blk A1 = some k ∨ wr.heap.size ≤ k)
    (f1 : ∀ j, blk A1 = some j → w.heap.size ≤ j ∧ blk A2 ≠ some j) (g2 : ∀ j, blk A2 = some j → w.heap.size ≤ j)
    {o2 : Obj} (h3 : Buf w3 A2' n2 c2' ys) (k3 : Keep (fun j => blk A2 = some j) (w2.alloc o2) w3) (f3 : ∀ k, blk A2' = some k → blk A2 = some k ∨ w2.heap.size ≤ k) (hA2 : ∀ j, blk A2 = some j → j < wr.heap.size) :
    Buf w3 A1' n1 c1' xs ∧ Buf w3 A2' n2 c2' ys ∧ (∀ j, blk A1' = some j → w.heap.size ≤ j ∧ blk A2' ≠ some j) ∧ (∀ j, blk A2' = some j → w.heap.size ≤ j) ∧ Below w.heap.size w w3 := by
  have hs0 := hb.size
  have hs2 := k2.size
  have hne : ∀ i, blk A1' = some i → blk A2 ≠ some i := fun i hi e => by
    rcases f2 i hi with q | q
    · exact (f1 i q).2 e
    · have := hA2 i e; omega
  have hlt : ∀ i, blk A1' = some i → i < w2.heap.size := fun i hi => h2.lt hi
  refine ⟨(h2.keep ((Keep.refl (fun _ => False) w2).alloc _) (fun _ _ x => x)).keep k3 hne, h3, fun j hj => ⟨?_, fun e => ?_⟩, fun j hj => ?_, ?_⟩
  · rcases f2 j hj with q | q
    · exact (f1 j q).1
    · omega
  · rcases f3 j e with q | q
    · exact hne j hj q
    · have := hlt j hj; omega
  · rcases f3 j hj with q | q
    · exact g2 j q
    · omega
  · have b2 : Below w.heap.size w w2 := hb.trans (k2.below hs0 (fun k hk e => by have := (f1 k e).1; omega))
    exact (b2.alloc b2.size _).trans (k3.below (by simp; omega) (fun k hk e => by have := g2 k e; omega))

set_option maxRecDepth 100000 in
set_option maxHeartbeats 6400000 in
theorem reftag_short (key x : ByteArray) (w : World) (hk : key.size ≤ 64) (hx : x.size ≤ 90000) :
    Calls Tryd.prog 19 #[.string key, .string x] w fun r w' => r = .returned (.string ⟨(tagL key.data.toList x.data.toList).toArray⟩) ∧ Below w.heap.size w w' := by
  have HKO := Lib.hid (keyOf_short key hk)
  obtain ⟨L, hL⟩ : ∃ L, L = key.data.toList ++ List.replicate (64 - key.size) (0 : UInt8) := ⟨_, rfl⟩
  have HB0 := Lib.hid (Below.refl w.heap.size w)
  have HLN : Hid (L.length = 64) := by show L.length = 64; rw [hL, List.length_append, List.length_replicate, ← Lib.size_eq]; omega
  have HLE := Lib.hid hL
  obtain ⟨L1, h1⟩ : ∃ L1, L1 = L.map (· ^^^ (54 : UInt8)) := ⟨_, rfl⟩
  obtain ⟨L2, h2⟩ : ∃ L2, L2 = L.map (· ^^^ (92 : UInt8)) := ⟨_, rfl⟩
  have HL1 := Lib.hid h1
  have HL2 := Lib.hid h2
  clear h1 h2
  obtain ⟨i0, hi, hz0, hz1, hz2⟩ := info_parts byte_info
  have HI := Lib.hid hi
  have HZ0 := Lib.hid hz0
  have HZ1 := Lib.hid hz1
  have HZ2 := Lib.hid hz2
  clear hL hi hz0 hz1 hz2
  go_enter Tryd.func19, Tryd.ntmps19
  go_wp2_with fail
  go_loopw [5, 6, 7] (fun a b i wr => ∃ (k : Nat) (A1 A2 : Option Addr) (c1 c2 : Nat), k ≤ 64 ∧ i = .int .i64 k ∧ a = .slice A1 k c1 ∧ b = .slice A2 k c2 ∧ Hid (Buf wr A1 k c1 (Lib.byteCells (L1.take k))) ∧ Hid (Buf wr A2 k c2 (Lib.byteCells (L2.take k))) ∧ Hid (∀ j, blk A1 = some j → w.heap.size ≤ j ∧ blk A2 ≠ some j) ∧ Hid (∀ j, blk A2 = some j → w.heap.size ≤ j) ∧ Hid (Below w.heap.size w wr)) (fun _ _ i _ => 64 - (intOf i).toNat)
  case atStart => exact ⟨0, none, none, 0, 0, by omega, rfl, rfl, rfl, (by show Buf _ _ _ _ _; simpa [Lib.byteCells] using Buf.nil _), (by show Buf _ _ _ _ _; simpa [Lib.byteCells] using Buf.nil _), fun j hj => by simp [blk] at hj, fun j hj => by simp [blk] at hj, HB0.out⟩
  case round =>
    obtain ⟨k, A1, A2, c1, c2, hk, rfl, rfl, rfl, HA, HB, HF1, HF2, HBw⟩ := hrel
    by_cases hlt : k < 64
    · obtain ⟨y, hy⟩ : ∃ y, L[k]? = some y := ⟨L[k]'(by rw [HLN.out]; exact hlt), List.getElem?_eq_getElem _⟩
      have e1 := xor_u8 y 54
      have e2 := xor_u8 y 92
      rw [show (((54 : UInt8).toNat : Nat) : Int) = 54 from rfl] at e1
      rw [show (((92 : UInt8).toNat : Nat) : Int) = 92 from rfl] at e2
      obtain ⟨y1, hy1⟩ : ∃ y1, y1 = y ^^^ 54 := ⟨_, rfl⟩
      obtain ⟨y2, hy2⟩ : ∃ y2, y2 = y ^^^ 92 := ⟨_, rfl⟩
      rw [← hy1] at e1
      rw [← hy2] at e2
      have t1 : Lib.byteCells (L1.take (k + 1)) = Lib.byteCells (L1.take k) ++ [.int .u8 y1.toNat] := by
        rw [take_next (x := y1) (by rw [HL1.out, List.getElem?_map, hy, hy1]; rfl)]; simp [Lib.byteCells]
      have t2 : Lib.byteCells (L2.take (k + 1)) = Lib.byteCells (L2.take k) ++ [.int .u8 y2.toNat] := by
        rw [take_next (x := y2) (by rw [HL2.out, List.getElem?_map, hy, hy2]; rfl)]; simp [Lib.byteCells]
      have TT1 := Lib.hid t1
      have TT2 := Lib.hid t2
      have HY := Lib.hid hy
      clear t1 t2 hy1 hy2 hy
      by_cases hin : k < key.size
      · have hki : (k : Int) < (key.size : Int) := by omega
        have gk : ∀ h : k < key.size, key[k] = y := fun h => by
          have := HY.out
          rw [HLE.out, List.getElem?_append_left (by rw [← Lib.size_eq]; exact h), List.getElem?_eq_getElem (by rw [← Lib.size_eq]; exact h)] at this
          exact Option.some.inj this
        go_wp2_with (at_builtin; refine wpList_append_buf _ rfl (.tmp 25) (.tmp 28) 59 rfl 5 i0 (.int .u8 0) 1 Tryd.underlying59 HI.out HZ0.out HZ1.out HZ2.out rfl rfl (HA.out.keep ((Keep.refl (fun _ => False) wr).alloc _) (fun _ _ x => x)) [.int .u8 y1.toNat] rfl (src_one _ _ _ rfl) (by intro u hu; simp at hu; subst hu; rfl) (by unfold maxLen; omega) (by omega) ?_)
        intro A1' c1' w2 hb2 hk2 hf2
        have HA2 := Lib.hid hb2
        have HK2 : Hid (Keep (fun j => blk A1 = some j) wr w2) := ((Keep.refl (fun j => blk A1 = some j) wr).alloc _).trans hk2 (fun _ _ e => e)
        have HF3 : Hid (∀ k, blk A1' = some k → blk A1 = some k ∨ wr.heap.size ≤ k) := fun k hk => (hf2 k hk).imp_right (fun h => by first | omega | (simp at h; omega))
        have HBB := Lib.hid (HB.out.keep HK2.out (fun i hi e => (HF1.out i e).2 hi))
        clear hb2 hk2 hf2
        go_wp2_with (at_builtin; refine wpList_append_buf _ rfl (.tmp 30) (.tmp 33) 59 rfl 5 i0 (.int .u8 0) 1 Tryd.underlying59 HI.out HZ0.out HZ1.out HZ2.out rfl rfl (HBB.out.keep ((Keep.refl (fun _ => False) w2).alloc _) (fun _ _ x => x)) [.int .u8 y2.toNat] rfl (src_one _ _ _ rfl) (by intro u hu; simp at hu; subst hu; rfl) (by unfold maxLen; omega) (by omega) ?_)
        intro A2' c2' w3 hb3 hk3 hf3
        have HE := Lib.hid (two_appends HBw.out HA2.out HK2.out HF3.out HF1.out HF2.out hb3 hk3 (fun k hk => (hf3 k hk).imp_right (fun h => by first | omega | (simp at h; omega))) (fun j hj => HB.out.lt hj))
        rw [← TT1.out, ← TT2.out] at HE
        clear hb3 hk3 hf3 HBB
        go_wp2_with fail
        go_roundw
        case rel => exact ⟨k + 1, A1', A2', c1', c2', by omega, by go_num, rfl, rfl, HE.out.1, HE.out.2.1, HE.out.2.2.1, HE.out.2.2.2.1, HE.out.2.2.2.2⟩
        case measure => simp [intOf]; omega
      · have hki : ¬ (k : Int) < (key.size : Int) := by omega
        have hy0 : y = 0 := by
          have := HY.out
          rw [HLE.out, List.getElem?_append_right (by rw [← Lib.size_eq]; omega), List.getElem?_replicate] at this
          split at this
          · exact (Option.some.inj this).symm
          · cases this
        have e1' : bits .xor .u8 0 54 = (y1.toNat : Int) := by rw [hy0] at e1; exact e1
        have e2' : bits .xor .u8 0 92 = (y2.toNat : Int) := by rw [hy0] at e2; exact e2
        clear hy0
        go_wp2_with (at_builtin; refine wpList_append_buf _ rfl (.tmp 25) (.tmp 28) 59 rfl 5 i0 (.int .u8 0) 1 Tryd.underlying59 HI.out HZ0.out HZ1.out HZ2.out rfl rfl (HA.out.keep ((Keep.refl (fun _ => False) wr).alloc _) (fun _ _ x => x)) [.int .u8 y1.toNat] rfl (src_one _ _ _ rfl) (by intro u hu; simp at hu; subst hu; rfl) (by unfold maxLen; omega) (by omega) ?_)
        intro A1' c1' w2 hb2 hk2 hf2
        have HA2 := Lib.hid hb2
        have HK2 : Hid (Keep (fun j => blk A1 = some j) wr w2) := ((Keep.refl (fun j => blk A1 = some j) wr).alloc _).trans hk2 (fun _ _ e => e)
        have HF3 : Hid (∀ k, blk A1' = some k → blk A1 = some k ∨ wr.heap.size ≤ k) := fun k hk => (hf2 k hk).imp_right (fun h => by first | omega | (simp at h; omega))
        have HBB := Lib.hid (HB.out.keep HK2.out (fun i hi e => (HF1.out i e).2 hi))
        clear hb2 hk2 hf2
        go_wp2_with (at_builtin; refine wpList_append_buf _ rfl (.tmp 30) (.tmp 33) 59 rfl 5 i0 (.int .u8 0) 1 Tryd.underlying59 HI.out HZ0.out HZ1.out HZ2.out rfl rfl (HBB.out.keep ((Keep.refl (fun _ => False) w2).alloc _) (fun _ _ x => x)) [.int .u8 y2.toNat] rfl (src_one _ _ _ rfl) (by intro u hu; simp at hu; subst hu; rfl) (by unfold maxLen; omega) (by omega) ?_)
        intro A2' c2' w3 hb3 hk3 hf3
        have HE := Lib.hid (two_appends HBw.out HA2.out HK2.out HF3.out HF1.out HF2.out hb3 hk3 (fun k hk => (hf3 k hk).imp_right (fun h => by first | omega | (simp at h; omega))) (fun j hj => HB.out.lt hj))
        rw [← TT1.out, ← TT2.out] at HE
        clear hb3 hk3 hf3 HBB
        go_wp2_with fail
        go_roundw
        case rel => exact ⟨k + 1, A1', A2', c1', c2', by omega, by go_num, rfl, rfl, HE.out.1, HE.out.2.1, HE.out.2.2.1, HE.out.2.2.2.1, HE.out.2.2.2.2⟩
        case measure => simp [intOf]; omega
    · obtain rfl : k = 64 := by omega
      have hL1 : L1.length = 64 := by rw [HL1.out, List.length_map, HLN.out]
      have hL2 : L2.length = 64 := by rw [HL2.out, List.length_map, HLN.out]
      rw [List.take_of_length_le (show L1.length ≤ 64 by omega)] at HA
      rw [List.take_of_length_le (show L2.length ≤ 64 by omega)] at HB
      obtain ⟨TA, hTA⟩ : ∃ TA : ByteArray, TA = ⟨L1.toArray⟩ := ⟨_, rfl⟩
      obtain ⟨TB, hTB⟩ : ∃ TB : ByteArray, TB = ⟨L2.toArray⟩ := ⟨_, rfl⟩
      have hTAs : TA.size = 64 := by rw [hTA, size_mk, hL1]
      have hTBs : TB.size = 64 := by rw [hTB, size_mk, hL2]
      have hca : ∀ W : World, Keep (fun _ => False) wr W → (convert 59 9 (.slice A1 64 c1)).run Tryd.prog W = .ok (.string TA) W := fun W hW => by
        have := run_buf_string (P := Tryd.prog) 59 9 5 (HA.out.keep hW (fun _ _ x => x)) Tryd.underlying59 Tryd.underlying5 Tryd.underlying9 64 (Nat.le_refl _)
        rw [this, List.take_of_length_le (by omega), hTA]
      have hcb : ∀ W : World, Keep (fun _ => False) wr W → (convert 59 9 (.slice A2 64 c2)).run Tryd.prog W = .ok (.string TB) W := fun W hW => by
        have := run_buf_string (P := Tryd.prog) 59 9 5 (HB.out.keep hW (fun _ _ x => x)) Tryd.underlying59 Tryd.underlying5 Tryd.underlying9 64 (Nat.le_refl _)
        rw [this, List.take_of_length_le (by omega), hTB]
      obtain ⟨DX, hDX⟩ : ∃ DX : ByteArray, DX = ⟨(digest (TA ++ x).data.toList).toArray⟩ := ⟨_, rfl⟩
      have hDXs : DX.size = 32 := by rw [hDX, size_mk, digest_len]
      obtain ⟨E, hE⟩ : ∃ E : ByteArray, E = ⟨(digest (TB ++ DX).data.toList).toArray⟩ := ⟨_, rfl⟩
      have hEs : E.size = 32 := by rw [hE, size_mk, digest_len]
      have hEx : E.extract 0 16 = ⟨(tagL key.data.toList x.data.toList).toArray⟩ := by
        rw [hE, extract_mk, List.drop_zero]
        unfold tagL turned
        rw [HKO.out]
        simp only [ByteArray.data_append, Array.toList_append, hTA, hTB, hDX, HL1.out, HL2.out, HLE.out, ← Lib.size_eq]
      have hax : (TA ++ x).size = 64 + x.size := by rw [ByteArray.size_append, hTAs]
      have hbd : (TB ++ DX).size = 96 := by rw [ByteArray.size_append, hTBs, hDXs]
      have z1 : TA.size + x.size ≤ 9223372036854775807 := by omega
      have z2 : TB.size + DX.size ≤ 9223372036854775807 := by omega
      have z3 : 16 ≤ E.size := by omega
      have z3' : (16 : Int) ≤ (E.size : Int) := by omega
      have z4 : ¬ 9223372036854775807 < TA.size + x.size := by omega
      have z5 : ¬ 9223372036854775807 < TB.size + DX.size := by omega
      have HCA := Lib.hid hca
      have HCB := Lib.hid hcb
      have HDE := Lib.hid hDX
      have HDE2 := Lib.hid hE
      have HTAX := Lib.hid hax
      have HTBD := Lib.hid hbd
      have HEX := Lib.hid hEx
      clear hL1 hL2 hTA hTB hTAs hTBs hca hcb hDX hDXs hE hEs hEx hax hbd
      rw [show ((64 : Nat) : Int) = 64 from rfl]
      go_wp2_with fail
      refine wp_region_noPanic ?_
      refine wp_region_held_drew (S := fun w' => (convert 59 9 (.slice A2 64 c2)).run Tryd.prog w' = .ok (.string TB) w' ∧ (convert 59 9 (.slice A1 64 c1)).run Tryd.prog w' = .ok (.string TA) w') (by kernel_rfl) ⟨HCB.out _ ((Keep.refl _ wr).drew), HCA.out _ ((Keep.refl _ wr).drew)⟩ (fun hHeld => ?_)
      refine wpAnyH_take (i := 0) (oi := _) (v := ?va0) rfl (by kernel_rfl) (by kernel_rfl) (by kernel_rfl) (fun _ _ _ h => h) (Or.inl ⟨by rfl, ?hya0⟩) (by assumption) ?resta0
      case hya0 => (intro w hSw; (try dsimp only at hSw); (try simp only [List.getElem_toArray, List.getElem_cons_zero, List.getElem_cons_succ]); go_simp; (try with_reducible rfl))
      (try simp only [Act.put, List.setIfInBounds_toArray, List.set_cons_zero, List.set_cons_succ, List.getElem_toArray, List.getElem_cons_zero, List.getElem_cons_succ])
      refine wpAnyH_take (i := 1) (oi := _) (v := ?va1) rfl (by kernel_rfl) (by kernel_rfl) (by kernel_rfl) (fun _ _ _ h => h) (Or.inl ⟨by rfl, ?hya1⟩) (by assumption) ?resta1
      case hya1 => (intro w hSw; (try dsimp only at hSw); (try simp only [List.getElem_toArray, List.getElem_cons_zero, List.getElem_cons_succ]); go_simp; (try with_reducible rfl))
      (try simp only [Act.put, List.setIfInBounds_toArray, List.set_cons_zero, List.set_cons_succ, List.getElem_toArray, List.getElem_cons_zero, List.getElem_cons_succ])
      refine wpAnyH_take (i := 2) (oi := _) (v := ?va2) rfl (by kernel_rfl) (by kernel_rfl) (by kernel_rfl) (fun _ _ _ h => h) (Or.inl ⟨by rfl, ?hya2⟩) (by assumption) ?resta2
      case hya2 => (intro w hSw; (try dsimp only at hSw); (try simp only [List.getElem_toArray, List.getElem_cons_zero, List.getElem_cons_succ]); go_simp; (try with_reducible rfl))
      (try simp only [Act.put, List.setIfInBounds_toArray, List.set_cons_zero, List.set_cons_succ, List.getElem_toArray, List.getElem_cons_zero, List.getElem_cons_succ])
      refine wpAnyH_take (i := 3) (oi := _) (v := ?va3) rfl (by kernel_rfl) (by kernel_rfl) (by kernel_rfl) (fun _ _ _ h => h) (Or.inl ⟨by rfl, ?hya3⟩) (by assumption) ?resta3
      case hya3 => (intro w hSw; (try dsimp only at hSw); (try simp only [List.getElem_toArray, List.getElem_cons_zero, List.getElem_cons_succ]); go_simp; (try with_reducible rfl))
      (try simp only [Act.put, List.setIfInBounds_toArray, List.set_cons_zero, List.set_cons_succ, List.getElem_toArray, List.getElem_cons_zero, List.getElem_cons_succ])
      refine wpAnyH_take (i := 4) (oi := _) (v := ?va4) rfl (by kernel_rfl) (by kernel_rfl) (by kernel_rfl) (fun _ _ _ h => h) (Or.inl ⟨by rfl, ?hya4⟩) (by assumption) ?resta4
      case hya4 => (intro w hSw; (try dsimp only at hSw); (try simp only [List.getElem_toArray, List.getElem_cons_zero, List.getElem_cons_succ]); go_simp; (try with_reducible rfl))
      (try simp only [Act.put, List.setIfInBounds_toArray, List.set_cons_zero, List.set_cons_succ, List.getElem_toArray, List.getElem_cons_zero, List.getElem_cons_succ])
      refine wpAnyH_take (i := 5) (oi := _) (v := ?va5) rfl (by kernel_rfl) (by kernel_rfl) (by kernel_rfl) (fun _ _ _ h => h) (Or.inl ⟨by rfl, ?hya5⟩) (by assumption) ?resta5
      case hya5 => (intro w hSw; (try dsimp only at hSw); (try simp only [List.getElem_toArray, List.getElem_cons_zero, List.getElem_cons_succ]); go_simp; (try with_reducible rfl))
      (try simp only [Act.put, List.setIfInBounds_toArray, List.set_cons_zero, List.set_cons_succ, List.getElem_toArray, List.getElem_cons_zero, List.getElem_cons_succ])
      refine wpAnyH_ready (rs := [6]) (by kernel_rfl) (by simp) ?_
      refine AllReadyH.cons (o := _) rfl (fun K hK => ?_) AllReadyH.nil
      (try simp only [List.getElem_toArray, List.getElem_cons_zero, List.getElem_cons_succ])
      go_simp
      (refine (digest_ref (TA ++ x) _ (by rw [HTAX.out]; omega)).mono ?_; rintro r w2 ⟨rfl, hb2⟩; have HK2 : Hid (Keep (fun _ => False) wr w2) := ((Keep.refl (fun _ => False) wr).drew).trans (Keep.of_below (fun _ => False) hb2) (fun _ _ e => e); clear hb2; rw [← HDE.out])
      refine hK.out _ _ ?_ (fun hHeld => ?_)
      · exact ⟨HCB.out _ (HK2.out), HCA.out _ (HK2.out)⟩
      clear hK K
      (try simp only [Act.put, List.setIfInBounds_toArray, List.set_cons_zero, List.set_cons_succ, List.getElem_toArray, List.getElem_cons_zero, List.getElem_cons_succ])
      refine wpAnyH_take (i := 7) (oi := _) (v := ?va7) rfl (by kernel_rfl) (by kernel_rfl) (by kernel_rfl) (fun _ _ _ h => h) (Or.inl ⟨by rfl, ?hya7⟩) (by assumption) ?resta7
      case hya7 => (intro w hSw; (try dsimp only at hSw); (try simp only [List.getElem_toArray, List.getElem_cons_zero, List.getElem_cons_succ]); go_simp; (try with_reducible rfl))
      (try simp only [Act.put, List.setIfInBounds_toArray, List.set_cons_zero, List.set_cons_succ, List.getElem_toArray, List.getElem_cons_zero, List.getElem_cons_succ])
      refine wpAnyH_ready (rs := [8]) (by kernel_rfl) (by simp) ?_
      refine AllReadyH.cons (o := _) rfl (fun K hK => ?_) AllReadyH.nil
      (try simp only [List.getElem_toArray, List.getElem_cons_zero, List.getElem_cons_succ])
      go_simp
      (refine (digest_ref (TB ++ DX) _ (by rw [HTBD.out]; omega)).mono ?_; rintro r w3 ⟨rfl, hb3⟩; have HK3 : Hid (Keep (fun _ => False) wr w3) := HK2.out.trans (Keep.of_below (fun _ => False) hb3) (fun _ _ e => e); clear hb3; rw [← HDE2.out])
      refine hK.out _ _ ?_ (fun hHeld => ?_)
      · exact ⟨HCB.out _ (HK3.out), HCA.out _ (HK3.out)⟩
      clear hK K
      (try simp only [Act.put, List.setIfInBounds_toArray, List.set_cons_zero, List.set_cons_succ, List.getElem_toArray, List.getElem_cons_zero, List.getElem_cons_succ])
      refine wpAnyH_take (i := 9) (oi := _) (v := ?va9) rfl (by kernel_rfl) (by kernel_rfl) (by kernel_rfl) (fun _ _ _ h => h) (Or.inl ⟨by rfl, ?hya9⟩) (by assumption) ?resta9
      case hya9 => (intro w hSw; (try dsimp only at hSw); (try simp only [List.getElem_toArray, List.getElem_cons_zero, List.getElem_cons_succ]); go_simp; (try with_reducible rfl))
      (try simp only [Act.put, List.setIfInBounds_toArray, List.set_cons_zero, List.set_cons_succ, List.getElem_toArray, List.getElem_cons_zero, List.getElem_cons_succ])
      refine wpAnyH_take (i := 10) (oi := _) (v := ?va10) rfl (by kernel_rfl) (by kernel_rfl) (by kernel_rfl) (fun _ _ _ h => h) (Or.inl ⟨by rfl, ?hya10⟩) (by assumption) ?resta10
      case hya10 => (intro w hSw; (try dsimp only at hSw); (try simp only [List.getElem_toArray, List.getElem_cons_zero, List.getElem_cons_succ]); go_simp; (try with_reducible rfl))
      (try simp only [Act.put, List.setIfInBounds_toArray, List.set_cons_zero, List.set_cons_succ, List.getElem_toArray, List.getElem_cons_zero, List.getElem_cons_succ])
      refine wpAnyH_done (by kernel_rfl) ?_ _
      refine NoPanic.normal ?_
      go_wp2_with fail
      go_ret
      exact ⟨by rw [← HEX.out]; rfl, HBw.out.trans (HK3.out.below HBw.out.size (fun _ _ e => e))⟩

set_option maxRecDepth 100000 in
set_option maxHeartbeats 6400000 in
theorem reftag_long (key x : ByteArray) (w : World) (hk : 64 < key.size) (hk2 : key.size ≤ 90000) (hx : x.size ≤ 90000) :
    Calls Tryd.prog 19 #[.string key, .string x] w fun r w' => r = .returned (.string ⟨(tagL key.data.toList x.data.toList).toArray⟩) ∧ Below w.heap.size w w' := by
  obtain ⟨K, hK⟩ : ∃ K : ByteArray, K = ⟨(digest key.data.toList).toArray⟩ := ⟨_, rfl⟩
  have hKs : K.size ≤ 64 := by rw [hK, size_mk, digest_len]; omega
  have HKO : Hid (keyOf key.data.toList = K.data.toList) := by show _ = _; rw [hK, keyOf_long key hk]
  obtain ⟨L, hL⟩ : ∃ L, L = K.data.toList ++ List.replicate (64 - K.size) (0 : UInt8) := ⟨_, rfl⟩
  have HKE := Lib.hid hK
  have HLN : Hid (L.length = 64) := by show L.length = 64; rw [hL, List.length_append, List.length_replicate, ← Lib.size_eq]; omega
  have HLE := Lib.hid hL
  obtain ⟨L1, h1⟩ : ∃ L1, L1 = L.map (· ^^^ (54 : UInt8)) := ⟨_, rfl⟩
  obtain ⟨L2, h2⟩ : ∃ L2, L2 = L.map (· ^^^ (92 : UInt8)) := ⟨_, rfl⟩
  have HL1 := Lib.hid h1
  have HL2 := Lib.hid h2
  clear h1 h2
  obtain ⟨i0, hi, hz0, hz1, hz2⟩ := info_parts byte_info
  have HI := Lib.hid hi
  have HZ0 := Lib.hid hz0
  have HZ1 := Lib.hid hz1
  have HZ2 := Lib.hid hz2
  clear hK hL hi hz0 hz1 hz2
  go_enter Tryd.func19, Tryd.ntmps19
  go_wp2_with fail
  refine (digest_ref key w (by omega)).mono ?_
  rintro r w0 ⟨rfl, hb0⟩
  rw [← HKE.out]
  have HB0 := Lib.hid hb0
  clear hb0
  go_wp2_with fail
  go_loopw [5, 6, 7] (fun a b i wr => ∃ (k : Nat) (A1 A2 : Option Addr) (c1 c2 : Nat), k ≤ 64 ∧ i = .int .i64 k ∧ a = .slice A1 k c1 ∧ b = .slice A2 k c2 ∧ Hid (Buf wr A1 k c1 (Lib.byteCells (L1.take k))) ∧ Hid (Buf wr A2 k c2 (Lib.byteCells (L2.take k))) ∧ Hid (∀ j, blk A1 = some j → w.heap.size ≤ j ∧ blk A2 ≠ some j) ∧ Hid (∀ j, blk A2 = some j → w.heap.size ≤ j) ∧ Hid (Below w.heap.size w wr)) (fun _ _ i _ => 64 - (intOf i).toNat)
  case atStart => exact ⟨0, none, none, 0, 0, by omega, rfl, rfl, rfl, (by show Buf _ _ _ _ _; simpa [Lib.byteCells] using Buf.nil _), (by show Buf _ _ _ _ _; simpa [Lib.byteCells] using Buf.nil _), fun j hj => by simp [blk] at hj, fun j hj => by simp [blk] at hj, HB0.out⟩
  case round =>
    obtain ⟨k, A1, A2, c1, c2, hk, rfl, rfl, rfl, HA, HB, HF1, HF2, HBw⟩ := hrel
    by_cases hlt : k < 64
    · obtain ⟨y, hy⟩ : ∃ y, L[k]? = some y := ⟨L[k]'(by rw [HLN.out]; exact hlt), List.getElem?_eq_getElem _⟩
      have e1 := xor_u8 y 54
      have e2 := xor_u8 y 92
      rw [show (((54 : UInt8).toNat : Nat) : Int) = 54 from rfl] at e1
      rw [show (((92 : UInt8).toNat : Nat) : Int) = 92 from rfl] at e2
      obtain ⟨y1, hy1⟩ : ∃ y1, y1 = y ^^^ 54 := ⟨_, rfl⟩
      obtain ⟨y2, hy2⟩ : ∃ y2, y2 = y ^^^ 92 := ⟨_, rfl⟩
      rw [← hy1] at e1
      rw [← hy2] at e2
      have t1 : Lib.byteCells (L1.take (k + 1)) = Lib.byteCells (L1.take k) ++ [.int .u8 y1.toNat] := by
        rw [take_next (x := y1) (by rw [HL1.out, List.getElem?_map, hy, hy1]; rfl)]; simp [Lib.byteCells]
      have t2 : Lib.byteCells (L2.take (k + 1)) = Lib.byteCells (L2.take k) ++ [.int .u8 y2.toNat] := by
        rw [take_next (x := y2) (by rw [HL2.out, List.getElem?_map, hy, hy2]; rfl)]; simp [Lib.byteCells]
      have TT1 := Lib.hid t1
      have TT2 := Lib.hid t2
      have HY := Lib.hid hy
      clear t1 t2 hy1 hy2 hy
      by_cases hin : k < K.size
      · have hki : (k : Int) < (K.size : Int) := by omega
        have gk : ∀ h : k < K.size, K[k] = y := fun h => by
          have := HY.out
          rw [HLE.out, List.getElem?_append_left (by rw [← Lib.size_eq]; exact h), List.getElem?_eq_getElem (by rw [← Lib.size_eq]; exact h)] at this
          exact Option.some.inj this
        go_wp2_with (at_builtin; refine wpList_append_buf _ rfl (.tmp 25) (.tmp 28) 59 rfl 5 i0 (.int .u8 0) 1 Tryd.underlying59 HI.out HZ0.out HZ1.out HZ2.out rfl rfl (HA.out.keep ((Keep.refl (fun _ => False) wr).alloc _) (fun _ _ x => x)) [.int .u8 y1.toNat] rfl (src_one _ _ _ rfl) (by intro u hu; simp at hu; subst hu; rfl) (by unfold maxLen; omega) (by omega) ?_)
        intro A1' c1' w2 hb2 hk2 hf2
        have HA2 := Lib.hid hb2
        have HK2 : Hid (Keep (fun j => blk A1 = some j) wr w2) := ((Keep.refl (fun j => blk A1 = some j) wr).alloc _).trans hk2 (fun _ _ e => e)
        have HF3 : Hid (∀ k, blk A1' = some k → blk A1 = some k ∨ wr.heap.size ≤ k) := fun k hk => (hf2 k hk).imp_right (fun h => by first | omega | (simp at h; omega))
        have HBB := Lib.hid (HB.out.keep HK2.out (fun i hi e => (HF1.out i e).2 hi))
        clear hb2 hk2 hf2
        go_wp2_with (at_builtin; refine wpList_append_buf _ rfl (.tmp 30) (.tmp 33) 59 rfl 5 i0 (.int .u8 0) 1 Tryd.underlying59 HI.out HZ0.out HZ1.out HZ2.out rfl rfl (HBB.out.keep ((Keep.refl (fun _ => False) w2).alloc _) (fun _ _ x => x)) [.int .u8 y2.toNat] rfl (src_one _ _ _ rfl) (by intro u hu; simp at hu; subst hu; rfl) (by unfold maxLen; omega) (by omega) ?_)
        intro A2' c2' w3 hb3 hk3 hf3
        have HE := Lib.hid (two_appends HBw.out HA2.out HK2.out HF3.out HF1.out HF2.out hb3 hk3 (fun k hk => (hf3 k hk).imp_right (fun h => by first | omega | (simp at h; omega))) (fun j hj => HB.out.lt hj))
        rw [← TT1.out, ← TT2.out] at HE
        clear hb3 hk3 hf3 HBB
        go_wp2_with fail
        go_roundw
        case rel => exact ⟨k + 1, A1', A2', c1', c2', by omega, by go_num, rfl, rfl, HE.out.1, HE.out.2.1, HE.out.2.2.1, HE.out.2.2.2.1, HE.out.2.2.2.2⟩
        case measure => simp [intOf]; omega
      · have hki : ¬ (k : Int) < (K.size : Int) := by omega
        have hy0 : y = 0 := by
          have := HY.out
          rw [HLE.out, List.getElem?_append_right (by rw [← Lib.size_eq]; omega), List.getElem?_replicate] at this
          split at this
          · exact (Option.some.inj this).symm
          · cases this
        have e1' : bits .xor .u8 0 54 = (y1.toNat : Int) := by rw [hy0] at e1; exact e1
        have e2' : bits .xor .u8 0 92 = (y2.toNat : Int) := by rw [hy0] at e2; exact e2
        clear hy0
        go_wp2_with (at_builtin; refine wpList_append_buf _ rfl (.tmp 25) (.tmp 28) 59 rfl 5 i0 (.int .u8 0) 1 Tryd.underlying59 HI.out HZ0.out HZ1.out HZ2.out rfl rfl (HA.out.keep ((Keep.refl (fun _ => False) wr).alloc _) (fun _ _ x => x)) [.int .u8 y1.toNat] rfl (src_one _ _ _ rfl) (by intro u hu; simp at hu; subst hu; rfl) (by unfold maxLen; omega) (by omega) ?_)
        intro A1' c1' w2 hb2 hk2 hf2
        have HA2 := Lib.hid hb2
        have HK2 : Hid (Keep (fun j => blk A1 = some j) wr w2) := ((Keep.refl (fun j => blk A1 = some j) wr).alloc _).trans hk2 (fun _ _ e => e)
        have HF3 : Hid (∀ k, blk A1' = some k → blk A1 = some k ∨ wr.heap.size ≤ k) := fun k hk => (hf2 k hk).imp_right (fun h => by first | omega | (simp at h; omega))
        have HBB := Lib.hid (HB.out.keep HK2.out (fun i hi e => (HF1.out i e).2 hi))
        clear hb2 hk2 hf2
        go_wp2_with (at_builtin; refine wpList_append_buf _ rfl (.tmp 30) (.tmp 33) 59 rfl 5 i0 (.int .u8 0) 1 Tryd.underlying59 HI.out HZ0.out HZ1.out HZ2.out rfl rfl (HBB.out.keep ((Keep.refl (fun _ => False) w2).alloc _) (fun _ _ x => x)) [.int .u8 y2.toNat] rfl (src_one _ _ _ rfl) (by intro u hu; simp at hu; subst hu; rfl) (by unfold maxLen; omega) (by omega) ?_)
        intro A2' c2' w3 hb3 hk3 hf3
        have HE := Lib.hid (two_appends HBw.out HA2.out HK2.out HF3.out HF1.out HF2.out hb3 hk3 (fun k hk => (hf3 k hk).imp_right (fun h => by first | omega | (simp at h; omega))) (fun j hj => HB.out.lt hj))
        rw [← TT1.out, ← TT2.out] at HE
        clear hb3 hk3 hf3 HBB
        go_wp2_with fail
        go_roundw
        case rel => exact ⟨k + 1, A1', A2', c1', c2', by omega, by go_num, rfl, rfl, HE.out.1, HE.out.2.1, HE.out.2.2.1, HE.out.2.2.2.1, HE.out.2.2.2.2⟩
        case measure => simp [intOf]; omega
    · obtain rfl : k = 64 := by omega
      have hL1 : L1.length = 64 := by rw [HL1.out, List.length_map, HLN.out]
      have hL2 : L2.length = 64 := by rw [HL2.out, List.length_map, HLN.out]
      rw [List.take_of_length_le (show L1.length ≤ 64 by omega)] at HA
      rw [List.take_of_length_le (show L2.length ≤ 64 by omega)] at HB
      obtain ⟨TA, hTA⟩ : ∃ TA : ByteArray, TA = ⟨L1.toArray⟩ := ⟨_, rfl⟩
      obtain ⟨TB, hTB⟩ : ∃ TB : ByteArray, TB = ⟨L2.toArray⟩ := ⟨_, rfl⟩
      have hTAs : TA.size = 64 := by rw [hTA, size_mk, hL1]
      have hTBs : TB.size = 64 := by rw [hTB, size_mk, hL2]
      have hca : ∀ W : World, Keep (fun _ => False) wr W → (convert 59 9 (.slice A1 64 c1)).run Tryd.prog W = .ok (.string TA) W := fun W hW => by
        have := run_buf_string (P := Tryd.prog) 59 9 5 (HA.out.keep hW (fun _ _ x => x)) Tryd.underlying59 Tryd.underlying5 Tryd.underlying9 64 (Nat.le_refl _)
        rw [this, List.take_of_length_le (by omega), hTA]
      have hcb : ∀ W : World, Keep (fun _ => False) wr W → (convert 59 9 (.slice A2 64 c2)).run Tryd.prog W = .ok (.string TB) W := fun W hW => by
        have := run_buf_string (P := Tryd.prog) 59 9 5 (HB.out.keep hW (fun _ _ x => x)) Tryd.underlying59 Tryd.underlying5 Tryd.underlying9 64 (Nat.le_refl _)
        rw [this, List.take_of_length_le (by omega), hTB]
      obtain ⟨DX, hDX⟩ : ∃ DX : ByteArray, DX = ⟨(digest (TA ++ x).data.toList).toArray⟩ := ⟨_, rfl⟩
      have hDXs : DX.size = 32 := by rw [hDX, size_mk, digest_len]
      obtain ⟨E, hE⟩ : ∃ E : ByteArray, E = ⟨(digest (TB ++ DX).data.toList).toArray⟩ := ⟨_, rfl⟩
      have hEs : E.size = 32 := by rw [hE, size_mk, digest_len]
      have hEx : E.extract 0 16 = ⟨(tagL key.data.toList x.data.toList).toArray⟩ := by
        rw [hE, extract_mk, List.drop_zero]
        unfold tagL turned
        rw [HKO.out]
        simp only [ByteArray.data_append, Array.toList_append, hTA, hTB, hDX, HL1.out, HL2.out, HLE.out, ← Lib.size_eq]
      have hax : (TA ++ x).size = 64 + x.size := by rw [ByteArray.size_append, hTAs]
      have hbd : (TB ++ DX).size = 96 := by rw [ByteArray.size_append, hTBs, hDXs]
      have z1 : TA.size + x.size ≤ 9223372036854775807 := by omega
      have z2 : TB.size + DX.size ≤ 9223372036854775807 := by omega
      have z3 : 16 ≤ E.size := by omega
      have z3' : (16 : Int) ≤ (E.size : Int) := by omega
      have z4 : ¬ 9223372036854775807 < TA.size + x.size := by omega
      have z5 : ¬ 9223372036854775807 < TB.size + DX.size := by omega
      have HCA := Lib.hid hca
      have HCB := Lib.hid hcb
      have HDE := Lib.hid hDX
      have HDE2 := Lib.hid hE
      have HTAX := Lib.hid hax
      have HTBD := Lib.hid hbd
      have HEX := Lib.hid hEx
      clear hL1 hL2 hTA hTB hTAs hTBs hca hcb hDX hDXs hE hEs hEx hax hbd
      rw [show ((64 : Nat) : Int) = 64 from rfl]
      go_wp2_with fail
      refine wp_region_noPanic ?_
      refine wp_region_held_drew (S := fun w' => (convert 59 9 (.slice A2 64 c2)).run Tryd.prog w' = .ok (.string TB) w' ∧ (convert 59 9 (.slice A1 64 c1)).run Tryd.prog w' = .ok (.string TA) w') (by kernel_rfl) ⟨HCB.out _ ((Keep.refl _ wr).drew), HCA.out _ ((Keep.refl _ wr).drew)⟩ (fun hHeld => ?_)
      refine wpAnyH_take (i := 0) (oi := _) (v := ?va0) rfl (by kernel_rfl) (by kernel_rfl) (by kernel_rfl) (fun _ _ _ h => h) (Or.inl ⟨by rfl, ?hya0⟩) (by assumption) ?resta0
      case hya0 => (intro w hSw; (try dsimp only at hSw); (try simp only [List.getElem_toArray, List.getElem_cons_zero, List.getElem_cons_succ]); go_simp; (try with_reducible rfl))
      (try simp only [Act.put, List.setIfInBounds_toArray, List.set_cons_zero, List.set_cons_succ, List.getElem_toArray, List.getElem_cons_zero, List.getElem_cons_succ])
      refine wpAnyH_take (i := 1) (oi := _) (v := ?va1) rfl (by kernel_rfl) (by kernel_rfl) (by kernel_rfl) (fun _ _ _ h => h) (Or.inl ⟨by rfl, ?hya1⟩) (by assumption) ?resta1
      case hya1 => (intro w hSw; (try dsimp only at hSw); (try simp only [List.getElem_toArray, List.getElem_cons_zero, List.getElem_cons_succ]); go_simp; (try with_reducible rfl))
      (try simp only [Act.put, List.setIfInBounds_toArray, List.set_cons_zero, List.set_cons_succ, List.getElem_toArray, List.getElem_cons_zero, List.getElem_cons_succ])
      refine wpAnyH_take (i := 2) (oi := _) (v := ?va2) rfl (by kernel_rfl) (by kernel_rfl) (by kernel_rfl) (fun _ _ _ h => h) (Or.inl ⟨by rfl, ?hya2⟩) (by assumption) ?resta2
      case hya2 => (intro w hSw; (try dsimp only at hSw); (try simp only [List.getElem_toArray, List.getElem_cons_zero, List.getElem_cons_succ]); go_simp; (try with_reducible rfl))
      (try simp only [Act.put, List.setIfInBounds_toArray, List.set_cons_zero, List.set_cons_succ, List.getElem_toArray, List.getElem_cons_zero, List.getElem_cons_succ])
      refine wpAnyH_take (i := 3) (oi := _) (v := ?va3) rfl (by kernel_rfl) (by kernel_rfl) (by kernel_rfl) (fun _ _ _ h => h) (Or.inl ⟨by rfl, ?hya3⟩) (by assumption) ?resta3
      case hya3 => (intro w hSw; (try dsimp only at hSw); (try simp only [List.getElem_toArray, List.getElem_cons_zero, List.getElem_cons_succ]); go_simp; (try with_reducible rfl))
      (try simp only [Act.put, List.setIfInBounds_toArray, List.set_cons_zero, List.set_cons_succ, List.getElem_toArray, List.getElem_cons_zero, List.getElem_cons_succ])
      refine wpAnyH_take (i := 4) (oi := _) (v := ?va4) rfl (by kernel_rfl) (by kernel_rfl) (by kernel_rfl) (fun _ _ _ h => h) (Or.inl ⟨by rfl, ?hya4⟩) (by assumption) ?resta4
      case hya4 => (intro w hSw; (try dsimp only at hSw); (try simp only [List.getElem_toArray, List.getElem_cons_zero, List.getElem_cons_succ]); go_simp; (try with_reducible rfl))
      (try simp only [Act.put, List.setIfInBounds_toArray, List.set_cons_zero, List.set_cons_succ, List.getElem_toArray, List.getElem_cons_zero, List.getElem_cons_succ])
      refine wpAnyH_take (i := 5) (oi := _) (v := ?va5) rfl (by kernel_rfl) (by kernel_rfl) (by kernel_rfl) (fun _ _ _ h => h) (Or.inl ⟨by rfl, ?hya5⟩) (by assumption) ?resta5
      case hya5 => (intro w hSw; (try dsimp only at hSw); (try simp only [List.getElem_toArray, List.getElem_cons_zero, List.getElem_cons_succ]); go_simp; (try with_reducible rfl))
      (try simp only [Act.put, List.setIfInBounds_toArray, List.set_cons_zero, List.set_cons_succ, List.getElem_toArray, List.getElem_cons_zero, List.getElem_cons_succ])
      refine wpAnyH_ready (rs := [6]) (by kernel_rfl) (by simp) ?_
      refine AllReadyH.cons (o := _) rfl (fun K hK => ?_) AllReadyH.nil
      (try simp only [List.getElem_toArray, List.getElem_cons_zero, List.getElem_cons_succ])
      go_simp
      (refine (digest_ref (TA ++ x) _ (by rw [HTAX.out]; omega)).mono ?_; rintro r w2 ⟨rfl, hb2⟩; have HK2 : Hid (Keep (fun _ => False) wr w2) := ((Keep.refl (fun _ => False) wr).drew).trans (Keep.of_below (fun _ => False) hb2) (fun _ _ e => e); clear hb2; rw [← HDE.out])
      refine hK.out _ _ ?_ (fun hHeld => ?_)
      · exact ⟨HCB.out _ (HK2.out), HCA.out _ (HK2.out)⟩
      clear hK K
      (try simp only [Act.put, List.setIfInBounds_toArray, List.set_cons_zero, List.set_cons_succ, List.getElem_toArray, List.getElem_cons_zero, List.getElem_cons_succ])
      refine wpAnyH_take (i := 7) (oi := _) (v := ?va7) rfl (by kernel_rfl) (by kernel_rfl) (by kernel_rfl) (fun _ _ _ h => h) (Or.inl ⟨by rfl, ?hya7⟩) (by assumption) ?resta7
      case hya7 => (intro w hSw; (try dsimp only at hSw); (try simp only [List.getElem_toArray, List.getElem_cons_zero, List.getElem_cons_succ]); go_simp; (try with_reducible rfl))
      (try simp only [Act.put, List.setIfInBounds_toArray, List.set_cons_zero, List.set_cons_succ, List.getElem_toArray, List.getElem_cons_zero, List.getElem_cons_succ])
      refine wpAnyH_ready (rs := [8]) (by kernel_rfl) (by simp) ?_
      refine AllReadyH.cons (o := _) rfl (fun K hK => ?_) AllReadyH.nil
      (try simp only [List.getElem_toArray, List.getElem_cons_zero, List.getElem_cons_succ])
      go_simp
      (refine (digest_ref (TB ++ DX) _ (by rw [HTBD.out]; omega)).mono ?_; rintro r w3 ⟨rfl, hb3⟩; have HK3 : Hid (Keep (fun _ => False) wr w3) := HK2.out.trans (Keep.of_below (fun _ => False) hb3) (fun _ _ e => e); clear hb3; rw [← HDE2.out])
      refine hK.out _ _ ?_ (fun hHeld => ?_)
      · exact ⟨HCB.out _ (HK3.out), HCA.out _ (HK3.out)⟩
      clear hK K
      (try simp only [Act.put, List.setIfInBounds_toArray, List.set_cons_zero, List.set_cons_succ, List.getElem_toArray, List.getElem_cons_zero, List.getElem_cons_succ])
      refine wpAnyH_take (i := 9) (oi := _) (v := ?va9) rfl (by kernel_rfl) (by kernel_rfl) (by kernel_rfl) (fun _ _ _ h => h) (Or.inl ⟨by rfl, ?hya9⟩) (by assumption) ?resta9
      case hya9 => (intro w hSw; (try dsimp only at hSw); (try simp only [List.getElem_toArray, List.getElem_cons_zero, List.getElem_cons_succ]); go_simp; (try with_reducible rfl))
      (try simp only [Act.put, List.setIfInBounds_toArray, List.set_cons_zero, List.set_cons_succ, List.getElem_toArray, List.getElem_cons_zero, List.getElem_cons_succ])
      refine wpAnyH_take (i := 10) (oi := _) (v := ?va10) rfl (by kernel_rfl) (by kernel_rfl) (by kernel_rfl) (fun _ _ _ h => h) (Or.inl ⟨by rfl, ?hya10⟩) (by assumption) ?resta10
      case hya10 => (intro w hSw; (try dsimp only at hSw); (try simp only [List.getElem_toArray, List.getElem_cons_zero, List.getElem_cons_succ]); go_simp; (try with_reducible rfl))
      (try simp only [Act.put, List.setIfInBounds_toArray, List.set_cons_zero, List.set_cons_succ, List.getElem_toArray, List.getElem_cons_zero, List.getElem_cons_succ])
      refine wpAnyH_done (by kernel_rfl) ?_ _
      refine NoPanic.normal ?_
      go_wp2_with fail
      go_ret
      exact ⟨by rw [← HEX.out]; rfl, HBw.out.trans (HK3.out.below HBw.out.size (fun _ _ e => e))⟩

theorem reftag_any (key x : ByteArray) (w : World) (hk2 : key.size ≤ 90000) (hx : x.size ≤ 90000) :
    Calls Tryd.prog 19 #[.string key, .string x] w fun r w' => r = .returned (.string ⟨(tagL key.data.toList x.data.toList).toArray⟩) ∧ Below w.heap.size w w' := by
  rcases Nat.lt_or_ge 64 key.size with h1 | h1
  · exact reftag_long key x w h1 hk2 hx
  · exact reftag_short key x w h1 hx

end Go.Proofs.YtncpjapfkcgjnaaDoor
namespace Go.Proofs.YtncpjapfkcgjnaaDoor
set_option linter.unusedVariables false
open Go.RowKit

theorem refseal_any (key x : ByteArray) (w : World) (hk2 : key.size ≤ 90000) (hx : x.size ≤ 90000) :
    Calls Tryd.prog 7 #[.string key, .string x] w fun r w' => r = .returned (.string ⟨(sealedL key.data.toList x.data.toList).toArray⟩) ∧ Below w.heap.size w w' := by
  obtain ⟨T, hT⟩ : ∃ T : ByteArray, T = ⟨(tagL key.data.toList x.data.toList).toArray⟩ := ⟨_, rfl⟩
  have hTs : T.size = 16 := by rw [hT, size_mk, tagL_len]
  have ht := reftag_any key x w hk2 hx
  rw [← hT] at ht
  have HT := Lib.hid ht
  have HE : Hid (x ++ T = (⟨(sealedL key.data.toList x.data.toList).toArray⟩ : ByteArray)) := by
    show _ = _
    rw [hT]
    apply ByteArray.ext
    simp [sealedL]
  have hz : x.size + T.size ≤ 9223372036854775807 := by omega
  clear hT hTs ht
  go_enter Tryd.func7, Tryd.ntmps7
  go_wp2_with fail
  refine HT.out.mono ?_
  rintro r w1 ⟨rfl, hb⟩
  have HB := Lib.hid hb
  clear hb
  go_wp2_with fail
  go_ret
  exact ⟨by rw [← HE.out]; rfl, HB.out⟩

theorem sealed_open (key b : ByteArray) (m : Nat) (X : ByteArray) (hm : m = b.size - 16) (h16 : ¬ b.size < 16) (hX : X.data.toList = b.data.toList.take m) :
    openL key.data.toList b.data.toList = if sealedL key.data.toList X.data.toList = b.data.toList then (X.data.toList, 0) else ([], 5) := by
  unfold openL sealedL
  rw [if_neg (by rw [← Lib.size_eq]; omega), ← Lib.size_eq, ← hm, ← hX]
  have e : (X.data.toList ++ tagL key.data.toList X.data.toList = b.data.toList) ↔ (b.data.toList.drop m = tagL key.data.toList X.data.toList) := by
    have hs := (List.take_append_drop m b.data.toList)
    constructor
    · intro h
      rw [← hs, ← hX] at h
      exact (List.append_cancel_left h).symm
    · intro h
      rw [← h, hX, hs]
  by_cases h : b.data.toList.drop m = tagL key.data.toList X.data.toList
  · rw [if_pos h, if_pos (e.2 h)]
  · rw [if_neg h, if_neg (fun q => h (e.1 q))]

set_option maxRecDepth 100000 in
set_option maxHeartbeats 1600000 in
theorem refopen_any (key b : ByteArray) (w : World) (hk : key.size ≤ 90000) (hb : b.size ≤ 90000) :
    Calls Tryd.prog 28 #[.string key, .string b] w fun r w' => r = .returned (.tuple #[.string ⟨(openL key.data.toList b.data.toList).1.toArray⟩, .int .i64 (openL key.data.toList b.data.toList).2]) ∧ Below w.heap.size w w' := by
  by_cases h16 : b.size < 16
  · have he : openL key.data.toList b.data.toList = ([], 2) := by unfold openL; rw [if_pos (by rw [← Lib.size_eq]; exact h16)]
    rw [he]
    go_enter Tryd.func28, Tryd.ntmps28
    go_wp2_with fail
    go_ret2
    exact ⟨rfl, Below.refl _ _⟩
  · obtain ⟨m, hm⟩ : ∃ m, m = b.size - 16 := ⟨_, rfl⟩
    have a1 : IntKind.i64.wrap ((b.size : Int) - 16) = (m : Int) := by rw [IntWalk.i64_in _ (by omega)]; omega
    have a2 : (b.size : Int) - 16 = (m : Int) := by omega
    have hmb : m ≤ b.size := by omega
    have hmi : (m : Int) ≤ (b.size : Int) := by omega
    have hm0 : (0 : Int) ≤ (m : Int) := by omega
    obtain ⟨X, hX⟩ : ∃ X : ByteArray, X = b.extract 0 m := ⟨_, rfl⟩
    have hXl : X.data.toList = b.data.toList.take m := by rw [hX]; simp [ByteArray.data_extract]
    have hXs : X.size ≤ 90000 := by rw [Lib.size_eq, hXl, List.length_take]; omega
    have hop := sealed_open key b m X hm h16 hXl
    obtain ⟨Z, hZ⟩ : ∃ Z : ByteArray, Z = ⟨(sealedL key.data.toList X.data.toList).toArray⟩ := ⟨_, rfl⟩
    have hZb : (sealedL key.data.toList X.data.toList = b.data.toList) ↔ Z = b := by
      rw [hZ]
      constructor
      · intro h; rw [h]
      · intro h; rw [← h]
    have HOP := Lib.hid hop
    have HZ := Lib.hid hZ
    have HZB := Lib.hid hZb
    have hb16 : ¬ (b.size : Int) < 16 := by omega
    have hs := refseal_any key X w hk hXs
    rw [← hZ] at hs
    have HS := Lib.hid hs
    rw [hX] at HS
    have HX := Lib.hid hX
    clear hXl hXs hop hZ hZb hm h16 hX hs
    by_cases hz : Z = b
    · have ho := HOP.out
      rw [if_pos (HZB.out.2 hz)] at ho
      have HO := Lib.hid ho
      clear ho HOP HZB
      subst hz
      go_enter Tryd.func28, Tryd.ntmps28
      go_wp2_with fail
      refine HS.out.mono ?_
      rintro r w1 ⟨rfl, hb1⟩
      have HB := Lib.hid hb1
      clear hb1
      go_wp2_with fail
      go_ret2
      refine ⟨?_, HB.out⟩
      rw [HO.out, HX.out, mk_data]
      rfl
    · have ho := HOP.out
      rw [if_neg (fun q => hz (HZB.out.1 q))] at ho
      have hzl : (!Z.toList == b.toList) = true := by
        have : Z.toList ≠ b.toList := fun e => hz (by
          rw [Lib.toList_data, Lib.toList_data] at e
          rw [← mk_data Z, ← mk_data b, e])
        simp [this]
      have HO := Lib.hid ho
      clear ho HOP HZB
      go_enter Tryd.func28, Tryd.ntmps28
      go_wp2_with fail
      refine HS.out.mono ?_
      rintro r w1 ⟨rfl, hb1⟩
      have HB := Lib.hid hb1
      clear hb1
      go_wp2_with fail
      go_ret2
      refine ⟨?_, HB.out⟩
      rw [HO.out]
      rfl

end Go.Proofs.YtncpjapfkcgjnaaDoor
