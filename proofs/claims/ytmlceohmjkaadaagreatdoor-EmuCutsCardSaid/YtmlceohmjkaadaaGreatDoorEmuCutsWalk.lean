/- Law EmuCuts: the walk. Own work. -/
import Derived.Test.YtmlceohmjkaadaaGreatDoorEmuCutsM
import Derived.Test.YtmlceohmjkaadaaGreatDoorCuts
namespace Go.Proofs.YtmlceohmjkaadaaGreatDoor
set_option linter.unusedVariables false
set_option linter.unusedSimpArgs false
open Go.RowKit

set_option maxRecDepth 100000 in
set_option maxHeartbeats 1600000 in
theorem emuCuts_early (x y : Int) (a : ByteArray) (A : Option Addr) (n cap : Nat) (w : World) (h : (a.size : Int) > 1500 ∨ (¬ (a.size : Int) > 1500 ∧ (n : Int) > 40)) :
    Calls Tryz.prog 4 #[.int .i64 x, .int .i64 y, .string a, .slice A n cap] w fun e w' => e = .returned (.bool true) ∧ Below w.heap.size w w' := by
  rcases h with h | ⟨h, h2⟩
  all_goals
    go_enter Tryz.func4, Tryz.ntmps4
    go_wp2_with fail
    refine (emu_alive _).mono ?_
    rintro e w1 ⟨rfl, hb⟩
    have HB := Lib.hid hb
    clear hb
    go_wp2_with fail
    go_ret
    exact ⟨rfl, HB.out⟩

set_option maxRecDepth 100000 in
set_option maxHeartbeats 6400000 in
theorem walk_EmuCuts (x : Int) (wx : (Lit.int .i64 x).wf = true) (y : Int) (wy : (Lit.int .i64 y).wf = true) (a : ByteArray) (wa : a.size ≤ maxLen) (A : Option Addr) (n cap : Nat) (xs : List Int) (w : World) (h : Ints w A n xs) :
    Calls Tryz.prog 4 #[.int .i64 x, .int .i64 y, .string a, .slice A n cap] w fun e w' => e = .returned (.bool true) ∧ Below w.heap.size w w' := by
  by_cases hs : (a.size : Int) > 1500
  · exact emuCuts_early x y a A n cap w (.inl hs)
  by_cases hn : (n : Int) > 40
  · exact emuCuts_early x y a A n cap w (.inr ⟨hs, hn⟩)
  obtain ⟨W, hW⟩ : ∃ W : Nat, min (max x 2) 40 = (W : Int) := ⟨(min (max x 2) 40).toNat, by omega⟩
  obtain ⟨H, hH⟩ : ∃ H : Nat, min (max y 1) 20 = (H : Int) := ⟨(min (max y 1) 20).toNat, by omega⟩
  have HN := Lib.hid (fun V => emu_newF V x y W H hW hH)
  have HOK : Hid (EmM.new W H).Ok := Lib.hid (EmM.Ok.new (by omega) (by omega) (by omega) (by omega))
  have HI := Lib.hid h
  clear hW hH wx wy wa h
  go_enter Tryz.func4, Tryz.ntmps4
  go_wp2_with fail
  refine (emu_alive _).mono ?_
  rintro v w1 ⟨rfl, hb1⟩
  have HE1 := Lib.hid ((Ems.start w).quiet (Keep.of_below _ hb1))
  clear hb1
  obtain ⟨x0, hx0⟩ : ∃ x0, (pAt 0, EmM.new W H) = x0 := ⟨_, rfl⟩
  go_wp2_with fail
  refine (HN.out _).mono ?_
  rintro v w2 h2
  obtain ⟨p1, L1, rfl, -, he2⟩ := HE1.out.add h2
  have HE2 : Hid (Ems w w2 [⟨p1, L1, 0, (pAt 0, EmM.new W H)⟩]) := Lib.hid he2
  clear h2 he2 HE1
  go_wp2_with fail
  refine (HN.out _).mono ?_
  rintro v w3 h3
  obtain ⟨p2, L2, rfl, -, he3⟩ := HE2.out.add h3
  have HE3 : Hid (Ems w w3 [⟨p1, L1, 0, (pAt 0, EmM.new W H)⟩, ⟨p2, L2, 0, (pAt 0, EmM.new W H)⟩]) := Lib.hid he3
  clear h3 he3 HE2
  go_wp2_with fail
  refine (HN.out _).mono ?_
  rintro v w4 h4
  obtain ⟨p3, L3, rfl, -, he4⟩ := HE3.out.add h4
  rw [hx0] at he4
  have HE4 : Hid (Ems w w4 [⟨p1, L1, 0, x0⟩, ⟨p2, L2, 0, x0⟩, ⟨p3, L3, 0, x0⟩]) := Lib.hid he4
  have HOUT : Hid (∀ l : List Nat, l.length ≤ 2000 → (feedM x0 l).2.length ≤ 100000) := Lib.hid (by rw [← hx0]; exact out_len HOK.out)
  clear h4 he4 HE3 HN hx0
  have HB4 := Lib.hid HE4.out.below
  go_wp2_with fail
  refine (cuts_any a A n cap xs w4 ((src_ints HI.out).far (⟨HB4.out.os, HB4.out.tape, HB4.out.output, HB4.out.size, fun i hi hn => HB4.out.block i (by omega)⟩ : Keep (fun i => w.heap.size ≤ i) w w4) (fun h0 i hi x => by have := (src_ints HI.out).lt h0 hi; omega)) HI.out.2.2.1 (by omega) (by omega)).mono ?_
  rintro v w5 ⟨v, ps, rfl, o5, hj, hpn, b5⟩
  obtain ⟨PA, pc, rfl, -⟩ := own_form o5
  obtain ⟨np, hnp⟩ : ∃ np, np = ps.length := ⟨_, rfl⟩
  have HNP := Lib.hid hnp
  rw [← hnp] at o5 hpn ⊢
  have K5 := Keep.of_below (fun _ => False) b5
  have HFS5 := Lib.hid (FS.fresh HE4.out K5 (Buf.of_own o5).src (fun i hi => o5.lt i (by rw [ownBlock_slice]; exact hi)))
  have HJ : Hid (natsJ ps = natsOf a) := Lib.hid (by unfold natsJ natsOf; rw [hj])
  have HAL : Hid ((natsOf a).length ≤ 1500) := Lib.hid (by rw [natsOf_len]; omega)
  have HSUM : Hid (sum ps ≤ 1500) := Lib.hid (by rw [← natsJ_len, HJ.out]; exact HAL.out)
  have HE5 := Lib.hid (HE4.out.quiet K5)
  have hnp2 : (np : Int) ≤ 41 := by omega
  clear o5 hj hpn b5 hnp K5 HE4 HB4 HI
  go_wp2_with fail
  go_loopw [13, 15] (fun s i wr => ∃ k : Nat, s = .string (bytesN (feedM x0 (natsJ (ps.take k))).2) ∧ i = .int .i64 k ∧ k ≤ np ∧ Hid (∃ L k1, k1 ≤ 2 * sum (ps.take k) ∧ Ems w wr [⟨p1, L, k1, (feedM x0 (natsJ (ps.take k))).1⟩, ⟨p2, L2, 0, x0⟩, ⟨p3, L3, 0, x0⟩] ∧ FS wr [⟨p1, L, k1, (feedM x0 (natsJ (ps.take k))).1⟩, ⟨p2, L2, 0, x0⟩, ⟨p3, L3, 0, x0⟩] PA np (ps.map Value.string))) (fun _ i _ => np - (intOf i).toNat)
  case atStart => exact ⟨0, rfl, rfl, by omega, L1, 0, by omega, HE5.out, HFS5.out⟩
  case round =>
    obtain ⟨k, rfl, rfl, hk, HF⟩ := hrel
    obtain ⟨L, k1, hk1, he, hfs⟩ := HF.out
    by_cases hlt : k < np
    · obtain ⟨t, ht⟩ : ∃ t, ps[k]? = some t := ⟨ps[k]'(by rw [← HNP.out]; exact hlt), List.getElem?_eq_getElem _⟩
      obtain ⟨bb, off, rfl, hbl, hcs⟩ := hfs.1.2 (by omega)
      have hcx : wr.cell? ⟨bb, off + k, none⟩ = some (.string t) := hcs k _ (by rw [List.getElem?_map, ht]; rfl)
      have hki : ((k : Int) < (np : Int)) := by omega
      have hk0 : (0 : Int) ≤ (k : Int) := by omega
      have hst : sum (ps.take (k + 1)) = sum (ps.take k) + t.size := by rw [take_next ht, sum_snoc]
      have hsl := sum_take ps (k + 1)
      have est : sum [t] = t.size := by simp [sum]
      have Ka := (Keep.refl (fun _ => False) wr).alloc (.cells #[.string t] 9)
      have hel := he.three.1.lt
      have HS := Lib.hid (fedN (l1 := []) (l2 := [⟨p2, L2, 0, x0⟩, ⟨p3, L3, 0, x0⟩]) (he.quiet Ka) (some ⟨wr.heap.size, 0, none⟩) 1 1 [t] (src_new wr [.string t] 9 _ rfl 1 rfl) (fun _ q => by simp [blk] at q; dsimp only at hel; omega) (by omega) (by have := HSUM.out; omega) (by have := HSUM.out; omega))
      have HFQ := Lib.hid (hfs.quiet he Ka)
      have HM := feed_more x0 (natsJ (ps.take k)) (natsJ [t])
      rw [← natsJ_next ht] at HM
      have o1 := HOUT.out (natsJ (ps.take (k + 1))) (by rw [natsJ_len]; have := HSUM.out; omega)
      obtain ⟨sa, hsa⟩ : ∃ sa, bytesN (feedM x0 (natsJ (ps.take k))).2 = sa := ⟨_, rfl⟩
      obtain ⟨sb, hsb⟩ : ∃ sb, bytesN (feedM (feedM x0 (natsJ (ps.take k))).1 (natsJ [t])).2 = sb := ⟨_, rfl⟩
      have hz := congrArg ByteArray.size HM.2
      rw [bytesN_size, ByteArray.size_append, hsa, hsb] at hz
      have hsz : sa.size + sb.size ≤ 9223372036854775807 := by omega
      have HMM := Lib.hid HM
      have HNUM := Lib.hid (And.intro hst (And.intro hsl (And.intro hk1 est)))
      have HSB := Lib.hid hsb
      have HSA := Lib.hid hsa
      rw [hsa]
      clear hcs ht HM hst hsl hk1 est he hfs hel Ka o1 hz hsa hsb HF
      go_wp2_with fail
      refine HS.out.mono ?_
      rintro v w6 ⟨rfl, L6, he6, hf6⟩
      have HFS6 := Lib.hid (hf6 _ _ _ HFQ.out)
      have HE6 := Lib.hid he6
      rw [HSB.out]
      clear he6 hf6 HS HFQ
      go_wp2_with fail
      go_roundw
      case rel => exact ⟨k + 1, by rw [HMM.out.2, HSA.out, HSB.out], by go_num, by omega, ⟨L6, k1 + 2 * sum [t], by have := HNUM.out; omega, by rw [HMM.out.1]; exact HE6.out, by rw [HMM.out.1]; exact HFS6.out⟩⟩
      case measure => simp [intOf]; omega
    · obtain rfl : k = np := by omega
      have hki : ¬ ((k : Int) < (k : Int)) := by omega
      have HXS : Hid (ps.take k = ps) := Lib.hid (List.take_of_length_le (by rw [← HNP.out]; omega))
      rw [HXS.out] at he hfs ⊢
      obtain ⟨z, hz⟩ : ∃ z, feedM x0 (natsJ ps) = z := ⟨_, rfl⟩
      rw [hz] at he hfs ⊢
      have hel := he.three.2.1.lt
      obtain ⟨s1, hs1⟩ : ∃ s1, bytesN z.2 = s1 := ⟨_, rfl⟩
      rw [hs1]
      have HFS := Lib.hid hfs
      have HE := Lib.hid he
      have HZ := Lib.hid hz
      have HS1 := Lib.hid hs1
      have HS := Lib.hid (fedN (l1 := [⟨p1, L, k1, z.1⟩]) (l2 := [⟨p3, L3, 0, x0⟩]) he PA k pc ps hfs.1 (fun h0 q => by have := (hfs.2 p2 q).2 ⟨p2, L2, 0, x0⟩ (by simp); exact this (.inl (L2.e_T p2))) (by omega) (by have := HSUM.out; omega) (by omega))
      clear he hfs hz hs1 hel HF hlt
      go_wp2_with fail
      refine HS.out.mono ?_
      rintro v w6 ⟨rfl, M2, he6, hf6⟩
      have hfs6 := hf6 _ _ _ HFS.out
      rw [HZ.out] at he6 ⊢
      rw [HS1.out]
      obtain ⟨k2, hk2⟩ : ∃ k2, 0 + 2 * sum ps = k2 := ⟨_, rfl⟩
      rw [hk2] at he6
      have HE6 : Hid (Ems w w6 [⟨p1, L, k1, z.1⟩, ⟨p2, M2, k2, z.1⟩, ⟨p3, L3, 0, x0⟩]) := Lib.hid he6
      clear he6 hf6 hfs6 hk2 HS HFS HE
      go_wp2_with fail
      go_loopw [14, 17] (fun s i wr2 => ∃ j : Nat, s = .string (bytesN (feedM x0 ((natsOf a).take j)).2) ∧ i = .int .i64 j ∧ j ≤ a.size ∧ Hid (∃ N k3, k3 ≤ 2 * j ∧ Ems w wr2 [⟨p1, L, k1, z.1⟩, ⟨p2, M2, k2, z.1⟩, ⟨p3, N, k3, (feedM x0 ((natsOf a).take j)).1⟩])) (fun _ i _ => a.size - (intOf i).toNat)
      case atStart => exact ⟨0, rfl, rfl, by omega, L3, 0, by omega, HE6.out⟩
      case round =>
        obtain ⟨j, rfl, rfl, hj, HF⟩ := hrel
        obtain ⟨N3, k3, hk3, he⟩ := HF.out
        by_cases hlt : j < a.size
        · have hki : ((j : Int) < (a.size : Int)) := by omega
          have hk0 : (0 : Int) ≤ (j : Int) := by omega
          obtain ⟨t, ht⟩ : ∃ t, a.extract j (j + 1) = t := ⟨_, rfl⟩
          have est : sum [t] = 1 := by rw [← ht]; simp [sum, bit_size a j hlt]
          have Ka := (Keep.refl (fun _ => False) wr).alloc (.cells #[.string t] 9)
          have hel := he.three.2.2.lt
          have HS := Lib.hid (fedN (l1 := [⟨p1, L, k1, z.1⟩, ⟨p2, M2, k2, z.1⟩]) (l2 := []) (he.quiet Ka) (some ⟨wr.heap.size, 0, none⟩) 1 1 [t] (src_new wr [.string t] 9 _ rfl 1 rfl) (fun _ q => by simp [blk] at q; dsimp only at hel; omega) (by omega) (by omega) (by omega))
          have HM := feed_more x0 ((natsOf a).take j) (natsJ [t])
          rw [← ht, ← natsJ_bit a j hlt, ht] at HM
          have o1 := HOUT.out ((natsOf a).take (j + 1)) (by rw [List.length_take]; have := HAL.out; omega)
          obtain ⟨sa, hsa⟩ : ∃ sa, bytesN (feedM x0 ((natsOf a).take j)).2 = sa := ⟨_, rfl⟩
          obtain ⟨sb, hsb⟩ : ∃ sb, bytesN (feedM (feedM x0 ((natsOf a).take j)).1 (natsJ [t])).2 = sb := ⟨_, rfl⟩
          have hz := congrArg ByteArray.size HM.2
          rw [bytesN_size, ByteArray.size_append, hsa, hsb] at hz
          have hsz : sa.size + sb.size ≤ 9223372036854775807 := by omega
          have HMM := Lib.hid HM
          have HNUM := Lib.hid (And.intro hk3 est)
          have HSB := Lib.hid hsb
          have HSA := Lib.hid hsa
          rw [hsa]
          clear HM hk3 est he hel Ka o1 hz hsa hsb HF
          go_wp2_with fail
          refine HS.out.mono ?_
          rintro v w7 ⟨rfl, L7, he7, -⟩
          have HE7 := Lib.hid he7
          rw [HSB.out]
          clear he7 HS
          go_wp2_with fail
          go_roundw
          case rel => exact ⟨j + 1, by rw [HMM.out.2, HSA.out, HSB.out], by go_num, by omega, ⟨L7, k3 + 2 * sum [t], by have := HNUM.out; omega, by rw [HMM.out.1]; exact HE7.out⟩⟩
          case measure => simp [intOf]; omega
        · obtain rfl : j = a.size := by omega
          have hki : ¬ ((a.size : Int) < (a.size : Int)) := by omega
          rw [List.take_of_length_le (by rw [natsOf_len]; omega), ← HJ.out, HZ.out] at he ⊢
          rw [HS1.out]
          have HR := Lib.hid he.three
          have HK := Lib.hid he.k
          have t0 : (s1.toList == s1.toList) = true := by simp
          have HC := Lib.hid (emu_screen wr p1 L z.1.2 HR.out.1.r)
          go_wp2_with fail
          refine HC.out.mono ?_
          rintro v w9 ⟨ga, ca, rfl, -, -, -, hs, hb⟩
          have HR9 : Hid (EmuF w9 p1 L _ z.1 ∧ EmuF w9 p2 M2 _ z.1 ∧ EmuF w9 p3 N3 _ z.1) := Lib.hid ⟨HR.out.1.below hb, HR.out.2.1.below hb, HR.out.2.2.below hb⟩
          have HK9 := Lib.hid (HK.out.trans (Keep.of_below (fun _ => False) hb) (fun _ _ x => x))
          have HXa := Lib.hid hs
          clear hs hb HC HR HK
          have HC := Lib.hid (emu_screen w9 p2 M2 z.1.2 HR9.out.2.1.r)
          go_wp2_with fail
          refine HC.out.mono ?_
          rintro v w10 ⟨gb, cb, rfl, -, -, -, hs, hb⟩
          have HR10 : Hid (EmuF w10 p1 L _ z.1 ∧ EmuF w10 p2 M2 _ z.1 ∧ EmuF w10 p3 N3 _ z.1) := Lib.hid ⟨HR9.out.1.below hb, HR9.out.2.1.below hb, HR9.out.2.2.below hb⟩
          have HK10 := Lib.hid (HK9.out.trans (Keep.of_below (fun _ => False) hb) (fun _ _ x => x))
          have HXa' := Lib.hid (HXa.out.below hb)
          have HXb := Lib.hid hs
          clear hs hb HC HR9 HK9
          have HC := Lib.hid (same_scrV z.1.2 z.1.2 (Shown.refl _) (some ⟨ga, 0, none⟩) (some ⟨gb, 0, none⟩) ca cb w10 HXa'.out HXb.out HR10.out.1.few)
          go_wp2_with fail
          refine HC.out.mono ?_
          rintro v w11 ⟨rfl, hb⟩
          have HR11 : Hid (EmuF w11 p1 L _ z.1 ∧ EmuF w11 p2 M2 _ z.1 ∧ EmuF w11 p3 N3 _ z.1) := Lib.hid ⟨HR10.out.1.below hb, HR10.out.2.1.below hb, HR10.out.2.2.below hb⟩
          have HK11 := Lib.hid (HK10.out.trans (Keep.of_below (fun _ => False) hb) (fun _ _ x => x))
          clear hb HC HR10 HK10
          have HC := Lib.hid (emu_screen w11 p1 L z.1.2 HR11.out.1.r)
          go_wp2_with fail
          refine HC.out.mono ?_
          rintro v w12 ⟨gc, cc, rfl, -, -, -, hs, hb⟩
          have HR12 : Hid (EmuF w12 p1 L _ z.1 ∧ EmuF w12 p2 M2 _ z.1 ∧ EmuF w12 p3 N3 _ z.1) := Lib.hid ⟨HR11.out.1.below hb, HR11.out.2.1.below hb, HR11.out.2.2.below hb⟩
          have HK12 := Lib.hid (HK11.out.trans (Keep.of_below (fun _ => False) hb) (fun _ _ x => x))
          have HXc := Lib.hid hs
          clear hs hb HC HR11 HK11
          have HC := Lib.hid (emu_screen w12 p3 N3 z.1.2 HR12.out.2.2.r)
          go_wp2_with fail
          refine HC.out.mono ?_
          rintro v w13 ⟨gd, cd, rfl, -, -, -, hs, hb⟩
          have HR13 : Hid (EmuF w13 p1 L _ z.1 ∧ EmuF w13 p2 M2 _ z.1 ∧ EmuF w13 p3 N3 _ z.1) := Lib.hid ⟨HR12.out.1.below hb, HR12.out.2.1.below hb, HR12.out.2.2.below hb⟩
          have HK13 := Lib.hid (HK12.out.trans (Keep.of_below (fun _ => False) hb) (fun _ _ x => x))
          have HXc' := Lib.hid (HXc.out.below hb)
          have HXd := Lib.hid hs
          clear hs hb HC HR12 HK12
          have HC := Lib.hid (same_scrV z.1.2 z.1.2 (Shown.refl _) (some ⟨gc, 0, none⟩) (some ⟨gd, 0, none⟩) cc cd w13 HXc'.out HXd.out HR13.out.1.few)
          go_wp2_with fail
          refine HC.out.mono ?_
          rintro v w14 ⟨rfl, hb⟩
          have HR14 : Hid (EmuF w14 p1 L _ z.1 ∧ EmuF w14 p2 M2 _ z.1 ∧ EmuF w14 p3 N3 _ z.1) := Lib.hid ⟨HR13.out.1.below hb, HR13.out.2.1.below hb, HR13.out.2.2.below hb⟩
          have HK14 := Lib.hid (HK13.out.trans (Keep.of_below (fun _ => False) hb) (fun _ _ x => x))
          clear hb HC HR13 HK13
          have HB := Lib.hid (HK14.out.below (Nat.le_refl _) (fun _ _ x => x))
          go_wp2_with fail
          go_ret
          exact ⟨rfl, HB.out⟩

end Go.Proofs.YtmlceohmjkaadaaGreatDoor
