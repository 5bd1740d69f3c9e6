/- The document's own Digest. Own work (by sealloops.gen.py). -/
import Derived.Test.YtncfnpibigohoaaDoorLoop2
namespace Go.Proofs.YtncfnpibigohoaaDoor
set_option linter.unusedVariables false
open Go.RowKit

set_option maxRecDepth 100000 in
set_option maxHeartbeats 12800000 in
theorem digest_ref (s : ByteArray) (w : World) (hs : s.size ≤ 100000) :
    Calls Tryd.prog 17 #[.string s] w fun r w' => r = .returned (.string ⟨(digest s.data.toList).toArray⟩) ∧ Below w.heap.size w w' := by
  obtain ⟨z, hz⟩ : ∃ z : Nat, z = (119 - s.size % 64) % 64 := ⟨_, rfl⟩
  have e1 : (119 - (s.size : Int) % 64) % 64 = (z : Int) := by omega
  have hz2 : z ≤ 63 := by omega
  obtain ⟨i0, hi, hz0, hz1, hzz2⟩ := info_parts byte_info
  -- zeros, made and made a string
  obtain ⟨M, hM⟩ : ∃ M, M = madeCells (Value.int .u8 0).cells (((z : Nat) : Int).toNat * i0.size) := ⟨_, rfl⟩
  have hMl : M.toList = Lib.byteCells (List.replicate z 0) := by
    rw [hM, hz1]
    simp [madeCells, Lib.byteCells, Value.cells]
    have e : (fun x : Nat => ([Value.int IntKind.u8 0] : List Value)[x % 1]?.getD default) = fun _ => Value.int IntKind.u8 0 := by
      funext x; rw [Nat.mod_one]; rfl
    rw [e, List.map_const', List.length_range]
  have hmk : ∀ W : World, (Instr.makeSlice 34 (.int .i64 (z : Int)) (.int .i64 (z : Int))).run Tryd.prog W = .ok (.slice (some ⟨W.heap.size, 0, none⟩) z z) (W.alloc (.cells M 5)) := fun W => by
    have h := run_make (P := Tryd.prog) W 34 5 i0 (.int .u8 0) Tryd.underlying34 hi hz0 .i64 .i64 (z : Int) (z : Int) (by omega) (by omega) (by rw [hzz2]; omega) (by omega)
    rw [← hM] at h
    simpa using h
  obtain ⟨R, hR⟩ : ∃ R : ByteArray, R = ⟨(List.replicate z (0 : UInt8)).toArray⟩ := ⟨_, rfl⟩
  have hRs : R.size = z := by rw [hR, size_mk, List.length_replicate]
  have hcv : ∀ W : World, (convert 34 9 (.slice (some ⟨W.heap.size, 0, none⟩) z z)).run Tryd.prog (W.alloc (.cells M 5)) = .ok (.string R) (W.alloc (.cells M 5)) := fun W => by
    have := run_convert_bytes_back (P := Tryd.prog) (W.alloc (.cells M 5)) 34 9 5 ⟨W.heap.size, 0, none⟩ z (List.replicate z (0 : UInt8)) Tryd.underlying34 Tryd.underlying5 Tryd.underlying9 (fun j hj => by
      rw [add_mk, Nat.zero_add, cell_of_row _ _ j _ 5 (0, 0) (heap_alloc_new W _), ← Array.getElem?_toList, hMl]
      have hjz : j < z := by simpa using hj
      simp only [Lib.byteCells, List.map_replicate, List.getElem_replicate]
      rw [List.getElem?_replicate, if_pos hjz])
    rw [List.length_replicate, ← hR] at this
    exact this
  have hcat1 : s.size + 1 ≤ 9223372036854775807 := by omega
  have hcat2 : (s ++ ⟨#[128]⟩ : ByteArray).size + R.size ≤ 9223372036854775807 := by
    rw [ByteArray.size_append, hRs]
    show s.size + 1 + z ≤ _
    omega
  obtain ⟨m8, hm8⟩ : ∃ m8 : Nat, m8 = 8 * s.size := ⟨_, rfl⟩
  have em8 : 8 * (s.size : Int) = (m8 : Int) := by omega
  have hm8z : m8 ≤ 800000 := by omega
  have HM8 := Lib.hid hm8
  have HZ := Lib.hid hz
  have HR := Lib.hid hR
  have HRS := Lib.hid hRs
  clear hz hMl hM hR hRs hm8
  go_enter Tryd.func17, Tryd.ntmps17
  go_wp2_with fail
  generalize hwa : w.alloc _ = wa
  have hTh : Tab wa 49 w.heap.size 8 st0.at := by
    rw [← hwa]
    unfold Tab
    rw [heap_alloc_new]
    rfl
  have hba : Below w.heap.size w wa := by rw [← hwa]; exact (Below.refl _ _).alloc (Nat.le_refl _) _
  obtain ⟨Bh, hBh⟩ : ∃ Bh, Bh = w.heap.size := ⟨_, rfl⟩
  rw [← hBh] at hTh ⊢
  have HTH := Lib.hid hTh
  have HBA := Lib.hid hba
  have HBH := Lib.hid hBh
  clear hwa hTh hba hBh
  refine (keys_any wa).mono ?_
  rintro r wb ⟨rfl, hT, hb⟩
  obtain ⟨Bk, hBk⟩ : ∃ Bk, Bk = wa.heap.size := ⟨_, rfl⟩
  rw [← hBk] at hT ⊢
  have HTK := Lib.hid hT
  have HTHb := Lib.hid (HTH.out.below hb)
  have HBB := Lib.hid (HBA.out.trans (hb.mono HBA.out.size))
  have hlt : Bh < Bk := by rw [hBk]; exact HTH.out.lt
  clear hT hb hBk HTH
  go_wp2_with fail
  obtain ⟨wc, hwc⟩ : ∃ wc, wc = wb.alloc (Obj.cells M 5) := ⟨_, rfl⟩
  have hbc : Below w.heap.size w wc := by rw [hwc]; exact HBB.out.alloc HBB.out.size _
  have hThc : Tab wc 49 Bh 8 st0.at := by rw [hwc]; exact HTHb.out.below ((Below.refl _ _).alloc (Nat.le_refl _) _)
  have hTkc : Tab wc 48 Bk 64 kAt := by rw [hwc]; exact HTK.out.below ((Below.refl _ _).alloc (Nat.le_refl _) _)
  rw [← hwc]
  have HBC := Lib.hid hbc
  have HTHC := Lib.hid hThc
  have HTKC := Lib.hid hTkc
  obtain ⟨Q0, hQ0⟩ : ∃ Q0 : ByteArray, Q0 = s ++ ⟨#[128]⟩ ++ R := ⟨_, rfl⟩
  have hQs : Q0.size = s.size + 1 + z := by rw [hQ0, ByteArray.size_append, ByteArray.size_append, HRS.out]; rfl
  have hQp : Q0.data.toList ++ be m8 8 = padded s.data.toList := by
    rw [hQ0, HR.out, HM8.out]
    have e : s.data.toList.length = s.size := (Lib.size_eq s).symm
    simp only [padded, endOf, e, ← HZ.out]
    simp
  rw [← hQ0]
  have HQP := Lib.hid hQp
  have hQz : Q0.size ≤ 100100 := by omega
  clear hwc hbc hThc hTkc HTHb HTK HBB HBA hQ0 hQp hQs hcat1 hcat2 hmk hcv e1 HRS HR HZ HM8 hs
  go_loopw [0, 6] (fun v i wr => ∃ (k : Nat) (Q : ByteArray), k ≤ 8 ∧ i = .int .i64 ((k : Int) - 1) ∧ v = .string Q ∧ Q.size ≤ 100200 - k ∧ Hid (Q.data.toList ++ be m8 k = padded s.data.toList) ∧ Hid (Below wc.heap.size wc wr)) (fun _ i _ => (intOf i + 1).toNat)
  case atStart => exact ⟨8, Q0, Nat.le_refl _, rfl, rfl, by omega, HQP, Below.refl _ _⟩
  case round =>
    obtain ⟨k, Q, hk, rfl, rfl, hQz, HQ, HBw⟩ := hrel
    rcases Nat.eq_zero_or_pos k with h0 | h0
    · subst h0
      have hP : Q.data.toList = padded s.data.toList := by have := HQ.out; simpa [be] using this
      have hP64 : Q.size % 64 = 0 := by
        rw [Lib.size_eq, hP]
        unfold padded
        rw [List.length_append, endOf_len]; omega
      have HPP := Lib.hid hP
      have HBC2 := Lib.hid (HBC.out.trans (HBw.out.mono HBC.out.size))
      have HTH2 := Lib.hid (HTHC.out.below HBw.out)
      have HTK2 := Lib.hid (HTKC.out.below HBw.out)
      clear hP HQ
      obtain ⟨wf, rfl⟩ : ∃ wf : World, wf = wr := ⟨_, rfl⟩
      go_wp2_with fail
      generalize Value.int IntKind.i64 ((119 - (s.size : Int) % 64) % 64) = j29
      generalize Value.int IntKind.i64 (119 - (s.size : Int) % 64) = j28
      generalize Value.int IntKind.i64 (((0 : Nat) : Int) - 1) = j6
      generalize Value.agg _ = j20
      generalize Value.slice (some ⟨wb.heap.size, 0, none⟩) z z = j30
      generalize hwz : World.alloc wf _ = wz
      obtain ⟨Bw, hBw⟩ : ∃ Bw, Bw = wf.heap.size := ⟨_, rfl⟩
      have hTw : Tab wz 53 Bw 64 (accW [] 0) := by rw [← hwz, hBw]; exact tab_zero wf [] 53 _ (by kernel_rfl)
      have hbd : Below wf.heap.size wf wz := by rw [← hwz]; exact (Below.refl _ _).alloc (Nat.le_refl _) _
      rw [← hBw]
      have HTW := Lib.hid hTw
      have HTH3 := Lib.hid (HTH2.out.below hbd)
      have HTK3 := Lib.hid (HTK2.out.below hbd)
      have HBD := Lib.hid (HBC2.out.trans (hbd.mono HBC2.out.size))
      have hBhw : Bh < Bw := by rw [hBw]; exact HTH2.out.lt
      have hBkw : Bk < Bw := by rw [hBw]; exact HTK2.out.lt
      have hwh : w.heap.size ≤ Bh := by rw [HBH.out]; exact Nat.le_refl _
      clear hTw hbd hBw hwz HTH2 HTK2 HBC2 HBw
      refine loop2 _ Q (padded s.data.toList) Bh Bk Bw _ _ _ _ _ _ _ _ _ _ _ _ _ _ _ _ _ _ _ _ _ _ _ _ _ _ _ _ _ _ _ _ _ _ _ _ _ _ _ _ _ _ _ _ _ _ _ _ _ _ _ _ _ _ _ _ _ _ _ _ _ _ _ _ _ _ _ _ _ _ _ _ _ _ _ _ _ _ _ _ _ _ _ _ _ _ _ _ _ _ _ _ _ _ _ _ _ _ _ _ _ _ _ _ _ _ _ _ _ _ _ _ _ _ _ _ _ _ _ _ _ _ _ _ _ _ _ _ _ _ _ _ _ _ _ _ _ _ _ _ _ _ _ _ _ _ _ _ _ _ _ _ _ _ _ _ _ _ _ _ _ _ _ _ _ _ _ _ _ _ _ _ _ _ _ _ _ _ _ _ _ _ _ _ _ _ _ _ _ _ _ _ _ _ _ _ _ _ _ _ _ _ _ _ _ _ _ _ _ _ _ _ _ _ _ _ _ _ _ _ _ _ _ _ _ _ _ _ _ _ _ _ _ _ _ _ _ _ _ _ _ _ _ _ _ _ _ _ _ _ _ _ _ _ _ _ _ _ _ _ _ _ _ _ _ _ HPP hP64 (by omega) HTH3 HTK3 HTW hlt hBkw ?_
      intro _ _ _ _ _ _ _ _ _ _ _ _ _ _ _ _ _ _ _ _ _ _ _ _ _ _ _ _ _ _ _ _ _ _ _ _ _ _ _ _ _ _ _ _ _ _ _ _ _ _ _ _ _ _ _ _ _ _ _ _ _ _ _ _ _ _ _ _ _ _ _ _ _ _ _ _ _ _ _ _ _ _ _ _ _ _ _ _ _ _ _ _ _ _ _ _ _ _ _ _ _ _ _ _ _ _ _ _ _ _ _ _ _ _ _ _ _ _ _ _ _ _ _ _ _ _ _ _ _ _ _ _ _ _ _ _ _ _ _ _ _ _ _ _ _ _ _ _ _ _ _ _ _ _ _ _ _ _ _ _ _ _ _ _ _ _ _ _ _ _ _ _ _ _ _ _ _ _ _ _ _ _ _ _ _ _ _ _ _ _ _ _ _ _ _ _ _ _ _ _ _ _ _ w9 HH9 HK9
      obtain ⟨h, hh⟩ : ∃ h, h = run (padded s.data.toList) (Q.size / 64) := ⟨_, rfl⟩
      rw [← hh] at HH9
      have hd : outOf h = digest s.data.toList := by
        rw [hh, Lib.size_eq, HPP.out]; rfl
      have HD := Lib.hid hd
      have HB9 : Hid (Below w.heap.size w w9) := HBD.out.trans (HK9.out.below HBD.out.size (by rintro k hk (e | e) <;> omega))
      have hbl : Bh < w9.heap.size := HH9.out.lt
      obtain ⟨B, hB⟩ : ∃ B, B = w9.heap.size := ⟨_, rfl⟩
      have HBe := Lib.hid hB
      rw [← hB] at hbl
      clear hh hd hB HK9
      go_wp2_with fail
      refine loop7 _ h Bh B _ _ _ _ _ _ _ _ _ _ _ _ _ _ _ _ _ _ _ _ _ _ _ _ _ _ _ _ _ _ _ _ _ _ _ _ _ _ _ _ _ _ _ _ _ _ _ _ _ _ _ _ _ _ _ _ _ _ _ _ _ _ _ _ _ _ _ _ _ _ _ _ _ _ _ _ _ _ _ _ _ _ _ _ _ _ _ _ _ _ _ _ _ _ _ _ _ _ _ _ _ _ _ _ _ _ _ _ _ _ _ _ _ _ _ _ _ _ _ _ _ _ _ _ _ _ _ _ _ _ _ _ _ _ _ _ _ _ _ _ _ _ _ _ _ _ _ _ _ _ _ _ _ _ _ _ _ _ _ _ _ _ _ _ _ _ _ _ _ _ _ _ _ _ _ _ _ _ _ _ _ _ _ _ _ _ _ _ _ _ _ _ _ _ _ _ _ _ _ _ _ _ _ _ _ _ _ _ _ _ _ _ _ _ _ _ _ _ _ _ _ _ _ _ _ _ _ _ _ _ _ _ _ _ _ _ _ _ _ _ _ _ _ _ _ _ _ _ _ _ _ _ _ _ _ _ _ _ _ _ _ _ _ _ _ _ _ HH9 hbl HBe ?_
      intro z18 _ _ _ _ _ _ _ _ _ _ _ _ _ _ _ _ _ _ _ _ _ _ _ _ _ _ _ wr HO HBw
      obtain ⟨A1, c1, rfl, _⟩ := own_form HO.out
      have hcv := run_own_string (P := Tryd.prog) (t := 34) (u := 9) HO.out Tryd.underlying34 Tryd.underlying5 Tryd.underlying9
      go_wp2_with fail
      go_ret
      exact ⟨by rw [← HD.out]; rfl, HB9.out.trans (HBw.out.mono (by rw [HBe.out]; exact HB9.out.size))⟩
    · obtain ⟨j, rfl⟩ : ∃ j, k = j + 1 := ⟨k - 1, by omega⟩
      have e1 : ((j + 1 : Nat) : Int) - 1 = (j : Int) := by omega
      rw [e1]
      have hj : (j : Int) ≤ 7 := by omega
      have hj0 : (0 : Int) ≤ (j : Int) := by omega
      obtain ⟨b, hb⟩ : ∃ b : UInt8, b = UInt8.ofNat (m8 >>> (8 * j)) := ⟨_, rfl⟩
      have e4 : (m8 : Int) / 2 ^ (8 * j) % 256 = (b.toNat : Int) := by
        rw [hb, ← u8_shift, IntKind.wrap_u8']; simp
      have hcb : ∀ W : World, (convert 34 9 (.slice (some ⟨W.heap.size, 0, none⟩) 1 1)).run Tryd.prog (W.alloc (.cells #[.int .u8 b.toNat] 5)) = .ok (.string ⟨#[b]⟩) (W.alloc (.cells #[.int .u8 b.toNat] 5)) := fun W =>
        run_convert_bytes_back (P := Tryd.prog) (W.alloc (.cells #[.int .u8 b.toNat] 5)) 34 9 5 ⟨W.heap.size, 0, none⟩ 1 [b] Tryd.underlying34 Tryd.underlying5 Tryd.underlying9 (fun i hi => by
          rw [add_mk, Nat.zero_add, cell_of_row _ _ i _ 5 (0, 0) (heap_alloc_new W _)]
          match i, hi with
          | 0, _ => rfl)
      have hcat : Q.size + 1 ≤ 9223372036854775807 := by omega
      have hE2 : (Q ++ ⟨#[b]⟩ : ByteArray).data.toList ++ be m8 j = padded s.data.toList := by
        rw [← HQ.out, hb]; simp [be]
      have hs2 : (Q ++ ⟨#[b]⟩ : ByteArray).size = Q.size + 1 := by rw [ByteArray.size_append]; rfl
      have HE2 := Lib.hid hE2
      have HS2 := Lib.hid hs2
      clear hE2 hs2 hb e1
      go_wp2_with fail
      go_roundw
      case rel => exact ⟨j, _, by omega, by go_num, rfl, by rw [HS2.out]; omega, HE2.out, HBw.out.alloc HBw.out.size _⟩
      case measure => simp [intOf]
end Go.Proofs.YtncfnpibigohoaaDoor
