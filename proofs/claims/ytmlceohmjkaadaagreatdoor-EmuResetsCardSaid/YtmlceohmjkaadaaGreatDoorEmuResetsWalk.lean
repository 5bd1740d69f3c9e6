/- Law EmuResets: the walk. Own work. -/
import Derived.Test.YtmlceohmjkaadaaGreatDoorEmuZs
import Derived.Test.YtmlceohmjkaadaaGreatDoorEmuLaw
namespace Go.Proofs.YtmlceohmjkaadaaGreatDoor
set_option linter.unusedVariables false
set_option linter.unusedSimpArgs false
open Go.RowKit

set_option maxRecDepth 100000 in
set_option maxHeartbeats 1600000 in
theorem emuResets_early (x y : Int) (a b : ByteArray) (w : World) (h : (a.size : Int) > 500 ∨ (¬ (a.size : Int) > 500 ∧ (b.size : Int) > 300)) :
    Calls Tryz.prog 3 #[.int .i64 x, .int .i64 y, .string a, .string b] w fun e w' => e = .returned (.bool true) ∧ Below w.heap.size w w' := by
  rcases h with h | ⟨h, h2⟩
  all_goals
    go_enter Tryz.func3, Tryz.ntmps3
    go_wp2_with fail
    refine (emu_alive _).mono ?_
    rintro e w1 ⟨rfl, hb⟩
    have HB := Lib.hid hb
    clear hb
    go_wp2_with fail
    go_ret
    exact ⟨rfl, HB.out⟩

set_option maxRecDepth 100000 in
set_option maxHeartbeats 6400000 in
theorem walk_EmuResets (x : Int) (wx : (Lit.int .i64 x).wf = true) (y : Int) (wy : (Lit.int .i64 y).wf = true) (a : ByteArray) (wa : a.size ≤ maxLen) (b : ByteArray) (wb : b.size ≤ maxLen) (w : World) :
    Calls Tryz.prog 3 #[.int .i64 x, .int .i64 y, .string a, .string b] w fun e w' => e = .returned (.bool true) ∧ Below w.heap.size w w' := by
  by_cases ha : (a.size : Int) > 500
  · exact emuResets_early x y a b w (.inl ha)
  by_cases hb : (b.size : Int) > 300
  · exact emuResets_early x y a b w (.inr ⟨ha, hb⟩)
  obtain ⟨W, hW⟩ : ∃ W : Nat, min (max x 2) 40 = (W : Int) := ⟨(min (max x 2) 40).toNat, by omega⟩
  obtain ⟨H, hH⟩ : ∃ H : Nat, min (max y 1) 20 = (H : Int) := ⟨(min (max y 1) 20).toNat, by omega⟩
  have HN := Lib.hid (fun V => emu_newF V x y W H hW hH)
  have HAB : Hid (sum [a, ⟨#[24, 27, 99]⟩] ≤ 100000000 ∧ sum [b] ≤ 1000 ∧ sum [a, ⟨#[24, 27, 99]⟩] ≤ 1000) := Lib.hid (by
    have e3 : (⟨#[24, 27, 99]⟩ : ByteArray).size = 3 := rfl
    simp only [sum, List.map_cons, List.map_nil, List.foldr_cons, List.foldr_nil, List.sum_cons, List.sum_nil, e3]
    omega)
  clear hW hH wx wy wa wb
  go_enter Tryz.func3, Tryz.ntmps3
  go_wp2_with fail
  refine (emu_alive _).mono ?_
  rintro v w1 ⟨rfl, hb1⟩
  have HE1 := Lib.hid ((Ems.start w).quiet (Keep.of_below _ hb1))
  clear hb1
  go_wp2_with fail
  refine (HN.out _).mono ?_
  rintro v w2 h2
  obtain ⟨e, L, rfl, -, he2⟩ := HE1.out.add h2
  have HE2 : Hid (Ems w w2 [⟨e, L, 0, (pAt 0, EmM.new W H)⟩]) := Lib.hid he2
  clear h2 he2 HE1
  go_wp2_with fail
  refine (HN.out _).mono ?_
  rintro v w3 h3
  obtain ⟨f, M, rfl, -, he3⟩ := HE2.out.add h3
  have HE3 : Hid (Ems w w3 ([] ++ ⟨e, L, 0, (pAt 0, EmM.new W H)⟩ :: [⟨f, M, 0, (pAt 0, EmM.new W H)⟩])) := Lib.hid he3
  have hel : Hid (e < w3.heap.size) := Lib.hid HE3.out.at_.r.elt
  clear h3 he3 HE2 HN
  have HF3 := Lib.hid (ems_feed (l1 := []) (l2 := [⟨f, M, 0, (pAt 0, EmM.new W H)⟩]) (HE3.out.quiet ((Keep.refl _ w3).alloc (.cells #[.string a, .string ⟨#[24, 27, 99]⟩] 9))) (some ⟨w3.heap.size, 0, none⟩) 2 2 [a, ⟨#[24, 27, 99]⟩] (src_new w3 [.string a, .string ⟨#[24, 27, 99]⟩] 9 _ rfl 2 rfl) (fun _ q => by have := hel.out; simp [blk] at q; omega) (by omega) HAB.out.1 (by omega))
  go_wp2_with fail
  refine HF3.out.mono ?_
  rintro v w4 ⟨rfl, L4, he4, -, -⟩
  rw [resets_new] at he4
  have HE4 : Hid (Ems w w4 ([] ++ ⟨e, L4, _, (pAt 0, EmM.new W H)⟩ :: [⟨f, M, 0, (pAt 0, EmM.new W H)⟩])) := Lib.hid he4
  clear he4 HF3 HE3
  have hel4 : Hid (e < w4.heap.size ∧ f < w4.heap.size) := Lib.hid ⟨HE4.out.at_.r.elt, (show Ems w w4 ([⟨e, L4, _, (pAt 0, EmM.new W H)⟩] ++ ⟨f, M, 0, (pAt 0, EmM.new W H)⟩ :: []) from HE4.out).at_.r.elt⟩
  have HF4 := Lib.hid (ems_feed (l1 := []) (l2 := [⟨f, M, 0, (pAt 0, EmM.new W H)⟩]) (HE4.out.quiet ((Keep.refl _ w4).alloc (.cells #[.string b] 9))) (some ⟨w4.heap.size, 0, none⟩) 1 1 [b] (src_new w4 [.string b] 9 _ rfl 1 rfl) (fun _ q => by have := hel4.out; simp [blk] at q; omega) (by omega) (by have := HAB.out; omega) (by have := HAB.out; omega))
  clear HE4
  go_wp2_with fail
  refine HF4.out.mono ?_
  rintro v w5 ⟨rfl, L5, he5, hk5, -⟩
  have hsz5 := hk5.size
  simp at hsz5
  have HE5 : Hid (Ems w w5 ([⟨e, L5, _, (feedM (pAt 0, EmM.new W H) (natsJ [b])).1⟩] ++ ⟨f, M, 0, (pAt 0, EmM.new W H)⟩ :: [])) := Lib.hid he5
  have HF5 := Lib.hid (ems_feed (HE5.out.quiet ((Keep.refl _ w5).alloc (.cells #[.string b] 9))) (some ⟨w5.heap.size, 0, none⟩) 1 1 [b] (src_new w5 [.string b] 9 _ rfl 1 rfl) (fun _ q => by have := hel4.out; simp [blk] at q; omega) (by omega) (by have := HAB.out; omega) (by omega))
  clear he5 hk5 hsz5 HF4 HE5
  go_wp2_with fail
  refine HF5.out.mono ?_
  rintro v w6 ⟨rfl, M6, he6, -, -⟩
  have HE6 : Hid (Ems w w6 ([⟨e, L5, _, (feedM (pAt 0, EmM.new W H) (natsJ [b])).1⟩, ⟨f, M6, _, (feedM (pAt 0, EmM.new W H) (natsJ [b])).1⟩])) := Lib.hid he6
  clear he6 HF5
  obtain ⟨z, hz⟩ : ∃ z, feedM (pAt 0, EmM.new W H) (natsJ [b]) = z := ⟨_, rfl⟩
  rw [hz] at HE6 ⊢
  have HR := Lib.hid HE6.out.two
  have HK6 := Lib.hid HE6.out.k
  obtain ⟨s, hs⟩ : ∃ s, bytesN z.2 = s := ⟨_, rfl⟩
  rw [hs]
  clear hz hs HE6 HAB
  have t0 : (s.toList == s.toList) = true := by simp
  have HS6 := Lib.hid (emu_screen w6 e L5 z.1.2 HR.out.1.r)
  go_wp2_with fail
  refine HS6.out.mono ?_
  rintro v w7 ⟨g1, c1, rfl, hg1, hl1, hc1, hs1, hb7⟩
  have HR7 : Hid (EmuF w7 e L5 _ z.1 ∧ EmuF w7 f M6 _ z.1) := Lib.hid ⟨HR.out.1.below hb7, HR.out.2.below hb7⟩
  have HK7 := Lib.hid (HK6.out.trans (Keep.of_below (fun _ => False) hb7) (fun _ _ x => x))
  have HS1 := Lib.hid hs1
  have HS7 := Lib.hid (emu_screen w7 f M6 z.1.2 HR7.out.2.r)
  clear hg1 hl1 hc1 hs1 hb7 HS6 HR HK6
  go_wp2_with fail
  refine HS7.out.mono ?_
  rintro v w8 ⟨g2, c2, rfl, hg2, hl2, hc2, hs2, hb8⟩
  have HR8 : Hid (EmuF w8 e L5 _ z.1 ∧ EmuF w8 f M6 _ z.1) := Lib.hid ⟨HR7.out.1.below hb8, HR7.out.2.below hb8⟩
  have HK8 := Lib.hid (HK7.out.trans (Keep.of_below (fun _ => False) hb8) (fun _ _ x => x))
  have HSA := Lib.hid (same_scrV z.1.2 z.1.2 (Shown.refl _) (some ⟨g1, 0, none⟩) (some ⟨g2, 0, none⟩) c1 c2 w8 (HS1.out.below hb8) hs2 HR8.out.1.few)
  clear hg2 hl2 hc2 hs2 hb8 HS7 HR7 HK7 HS1
  go_wp2_with fail
  refine HSA.out.mono ?_
  rintro v w9 ⟨rfl, hb9⟩
  have HR9 : Hid (EmuF w9 e L5 _ z.1 ∧ EmuF w9 f M6 _ z.1) := Lib.hid ⟨HR8.out.1.below hb9, HR8.out.2.below hb9⟩
  have HK9 := Lib.hid (HK8.out.trans (Keep.of_below (fun _ => False) hb9) (fun _ _ x => x))
  have HT9 := Lib.hid (emu_text w9 e L5 z.1.2 HR9.out.1.r)
  clear hb9 HSA HR8 HK8
  go_wp2_with fail
  refine HT9.out.mono ?_
  rintro v w10 ⟨r1, rfl, hr1, hb10⟩
  obtain ⟨A1, d1, rfl, -⟩ := own_form hr1
  have HR10 : Hid (EmuF w10 e L5 _ z.1 ∧ EmuF w10 f M6 _ z.1) := Lib.hid ⟨HR9.out.1.below hb10, HR9.out.2.below hb10⟩
  have HK10 := Lib.hid (HK9.out.trans (Keep.of_below (fun _ => False) hb10) (fun _ _ x => x))
  have HX1 := Lib.hid (Buf.of_own hr1).src
  have HT10 := Lib.hid (emu_text w10 f M6 z.1.2 HR10.out.2.r)
  clear hr1 hb10 HT9 HR9 HK9
  go_wp2_with fail
  refine HT10.out.mono ?_
  rintro v w11 ⟨r2, rfl, hr2, hb11⟩
  obtain ⟨A2, d2, rfl, -⟩ := own_form hr2
  have HR11 : Hid (EmuF w11 e L5 _ z.1 ∧ EmuF w11 f M6 _ z.1) := Lib.hid ⟨HR10.out.1.below hb11, HR10.out.2.below hb11⟩
  have HK11 := Lib.hid (HK10.out.trans (Keep.of_below (fun _ => False) hb11) (fun _ _ x => x))
  have HST := Lib.hid (same_Texts A1 A2 z.1.2.H d1 d2 _ w11 (HX1.out.below hb11) (Buf.of_own hr2).src (by have := HR11.out.1.r.ok.h20; omega))
  clear hr2 hb11 HT10 HR10 HK10 HX1
  go_wp2_with fail
  refine HST.out.mono ?_
  rintro v w12 ⟨rfl, k, hk⟩
  have Kq : Keep (fun _ => False) w11 w12 := by rw [hk]; exact (Keep.refl _ w11).drewN k
  have HR12 : Hid (EmuF w12 e L5 _ z.1 ∧ EmuF w12 f M6 _ z.1) := Lib.hid ⟨HR11.out.1.keep Kq (fun _ x => x.elim), HR11.out.2.keep Kq (fun _ x => x.elim)⟩
  have HB12 : Hid (Below w.heap.size w w12) := Lib.hid ((HK11.out.trans Kq (fun _ _ x => x)).below (Nat.le_refl _) (fun _ _ x => x))
  have HA1 := Lib.hid (emu_alt w12 e L5 z.1.2 HR12.out.1.r)
  have HA2 := Lib.hid (emu_alt w12 f M6 z.1.2 HR12.out.2.r)
  clear hk Kq HST HR11 HK11
  obtain ⟨q, hq⟩ : ∃ q, z.1.2.alt = q := ⟨_, rfl⟩
  rw [hq] at HA1 HA2
  clear hq
  have t1 : (q == q) = true := by simp
  go_wp2_with fail
  refine HA1.out.mono ?_
  rintro v w13 ⟨rfl, rfl⟩
  go_wp2_with fail
  refine HA2.out.mono ?_
  rintro v w14 ⟨rfl, rfl⟩
  go_wp2_with fail
  go_ret
  exact ⟨rfl, HB12.out⟩

end Go.Proofs.YtmlceohmjkaadaaGreatDoor
