/- Law EmuReports: the walk. Own work. -/
import Derived.Test.YtmlceohmjkaadaaGreatDoorEmuLs
import Derived.Test.YtmlceohmjkaadaaGreatDoorEmuLaw
namespace Go.Proofs.YtmlceohmjkaadaaGreatDoor
set_option linter.unusedVariables false
set_option linter.unusedSimpArgs false
open Go.RowKit

def tellsIn : ByteArray := ⟨#[27, 91, 53, 110, 27, 91, 99, 27, 91, 48, 99, 27, 91, 49, 99]⟩

set_option maxRecDepth 100000 in
set_option maxHeartbeats 6400000 in
theorem walk_EmuReports (x : Int) (wx : (Lit.int .i64 x).wf = true) (y : Int) (wy : (Lit.int .i64 y).wf = true) (s : Int) (ws : (Lit.int .i64 s).wf = true) (t : Int) (wt : (Lit.int .i64 t).wf = true) (w : World) :
    Calls Tryz.prog 5 #[.int .i64 x, .int .i64 y, .int .i64 s, .int .i64 t] w fun e w' => e = .returned (.bool true) ∧ Below w.heap.size w w' := by
  obtain ⟨W, hW⟩ : ∃ W : Nat, min (max x 2) 40 = (W : Int) := ⟨(min (max x 2) 40).toNat, by omega⟩
  obtain ⟨H, hH⟩ : ∃ H : Nat, min (max y 1) 20 = (H : Int) := ⟨(min (max y 1) 20).toNat, by omega⟩
  obtain ⟨s0, hs0⟩ : ∃ s0 : Nat, max s 0 = (s0 : Int) := ⟨(max s 0).toNat, by omega⟩
  obtain ⟨s1, hs1⟩ : ∃ s1 : Nat, min (s0 : Int) 9999 = (s1 : Int) := ⟨min s0 9999, by omega⟩
  obtain ⟨t0, ht0⟩ : ∃ t0 : Nat, max t 0 = (t0 : Int) := ⟨(max t 0).toNat, by omega⟩
  obtain ⟨t1, ht1⟩ : ∃ t1 : Nat, min (t0 : Int) 9999 = (t1 : Int) := ⟨min t0 9999, by omega⟩
  obtain ⟨s2, hs2⟩ : ∃ s2 : Nat, max (s1 : Int) 1 = (s2 : Int) := ⟨max s1 1, by omega⟩
  obtain ⟨t2, ht2⟩ : ∃ t2 : Nat, max (t1 : Int) 1 = (t2 : Int) := ⟨max t1 1, by omega⟩
  obtain ⟨a, ha⟩ : ∃ a : Nat, min (s2 : Int) (W : Int) = (a : Int) := ⟨min s2 W, by omega⟩
  obtain ⟨b, hb⟩ : ∃ b : Nat, min (t2 : Int) (H : Int) = (b : Int) := ⟨min t2 H, by omega⟩
  have HEN := Lib.hid (ends_is x y W H hW hH)
  have HN := Lib.hid (fun V => emu_newF V x y W H hW hH)
  have HNUM : Hid (s1 ≤ 9999 ∧ t1 ≤ 9999 ∧ min (max s1 1) W = a ∧ min (max t1 1) H = b ∧ 1 ≤ a ∧ 1 ≤ b ∧ a ≤ 40 ∧ b ≤ 20) := Lib.hid (by omega)
  clear hW hH wx wy ws wt
  go_enter Tryz.func5, Tryz.ntmps5
  go_wp2_with fail
  refine (emu_alive _).mono ?_
  rintro v w1 ⟨rfl, hb1⟩
  have HE1 := Lib.hid ((Ems.start w).quiet (Keep.of_below _ hb1))
  clear hb1
  go_wp2_with fail
  refine (HN.out _).mono ?_
  rintro v w2 h2
  obtain ⟨e, L, rfl, -, he2⟩ := HE1.out.add h2
  have HE2 : Hid (Ems w w2 [⟨e, L, 0, (pAt 0, EmM.new W H)⟩]) := Lib.hid he2
  clear h2 he2 HE1 HN
  go_wp2_with fail
  refine (HEN.out _).mono ?_
  rintro v w3 ⟨rfl, rfl⟩
  have HD1 := Lib.hid (digits_any t1 (by have := HNUM.out; omega) w3)
  go_wp2_with fail
  refine HD1.out.mono ?_
  rintro v w4 ⟨rfl, hb4⟩
  have HE4 := Lib.hid (HE2.out.quiet (Keep.of_below _ hb4))
  have HD2 := Lib.hid (digits_any s1 (by have := HNUM.out; omega) w4)
  clear hb4 HD1 HE2
  go_wp2_with fail
  refine HD2.out.mono ?_
  rintro v w5 ⟨rfl, hb5⟩
  have HE5 : Hid (Ems w w5 ([] ++ ⟨e, L, 0, (pAt 0, EmM.new W H)⟩ :: [])) := Lib.hid (HE4.out.quiet (Keep.of_below _ hb5))
  have hel : Hid (e < w5.heap.size) := Lib.hid HE5.out.at_.lt
  obtain ⟨da, hda⟩ : ∃ da, da = bytesN (decN t1) := ⟨_, rfl⟩
  obtain ⟨db, hdb⟩ : ∃ db, db = bytesN (decN s1) := ⟨_, rfl⟩
  have HDS : Hid (natsJ [⟨#[27, 91]⟩, da, ⟨#[59]⟩, db, ⟨#[72, 27, 91, 54, 110]⟩] = goXY t1 s1 ++ [27, 91, 54, 110] ∧ sum [⟨#[27, 91]⟩, da, ⟨#[59]⟩, db, ⟨#[72, 27, 91, 54, 110]⟩] ≤ 100) := Lib.hid (by
    have l1 := decN_len 4 t1 (by have := HNUM.out; omega)
    have l2 := decN_len 4 s1 (by have := HNUM.out; omega)
    rw [hda, hdb]
    refine ⟨?_, ?_⟩
    · rw [natsJ_eq]
      simp only [List.flatMap_cons, List.flatMap_nil, List.append_nil]
      rw [natsOf_decN, natsOf_decN, show natsOf ⟨#[27, 91]⟩ = [27, 91] from rfl, show natsOf ⟨#[59]⟩ = [59] from rfl, show natsOf ⟨#[72, 27, 91, 54, 110]⟩ = [72, 27, 91, 54, 110] from rfl]
      unfold goXY
      simp
    · simp only [sum, List.map_cons, List.map_nil, List.foldr_cons, List.foldr_nil, List.sum_cons, List.sum_nil, bytesN_size]
      show 2 + ((decN t1).length + (1 + ((decN s1).length + (5 + 0)))) ≤ 100
      omega)
  rw [← hda, ← hdb]
  have HF5 := Lib.hid (ems_feed (l1 := []) (l2 := []) (HE5.out.quiet ((Keep.refl _ w5).alloc (.cells #[.string ⟨#[27, 91]⟩, .string da, .string ⟨#[59]⟩, .string db, .string ⟨#[72, 27, 91, 54, 110]⟩] 9))) (some ⟨w5.heap.size, 0, none⟩) 5 5 [⟨#[27, 91]⟩, da, ⟨#[59]⟩, db, ⟨#[72, 27, 91, 54, 110]⟩] (src_new w5 [.string ⟨#[27, 91]⟩, .string da, .string ⟨#[59]⟩, .string db, .string ⟨#[72, 27, 91, 54, 110]⟩] 9 _ rfl 5 rfl) (fun _ q => by have := hel.out; simp [blk] at q; omega) (by omega) (by have := HDS.out.2; omega) (by omega))
  clear hb5 HD2 HE4 HE5 hda hdb
  go_wp2_with fail
  refine HF5.out.mono ?_
  rintro v w6 ⟨rfl, L6, he6, -, -⟩
  rw [HDS.out.1] at he6 ⊢
  obtain ⟨m, hm, hmx, hmy⟩ := reports_says W H s1 t1 HNUM.out.1 HNUM.out.2.1 a b HNUM.out.2.2.1 HNUM.out.2.2.2.1 HNUM.out.2.2.2.2.1 HNUM.out.2.2.2.2.2.1
  rw [hm] at he6 ⊢
  have HE6 : Hid (Ems w w6 [⟨e, L6, _, (pAt 0, m)⟩]) := Lib.hid he6
  have HM := Lib.hid (And.intro hmx hmy)
  have HS6 := Lib.hid (emu_screen w6 e L6 m HE6.out.one.r)
  obtain ⟨S, hS⟩ : ∃ S, bytesN ([27, 91] ++ decN b ++ [59] ++ decN a ++ [82]) = S := ⟨_, rfl⟩
  dsimp only
  rw [hS]
  have HSS := Lib.hid hS
  have HSU : Hid (0 + 2 * sum [⟨#[27, 91]⟩, da, ⟨#[59]⟩, db, ⟨#[72, 27, 91, 54, 110]⟩] ≤ 100000000) := Lib.hid (by have := HDS.out.2; omega)
  clear he6 hm hmx hmy HDS HF5 hS
  go_wp2_with fail
  refine HS6.out.mono ?_
  rintro v w7 ⟨g, c, rfl, -, -, -, -, hb7⟩
  have HE7 := Lib.hid (HE6.out.quiet (Keep.of_below _ hb7))
  clear hb7 HE6 HS6
  have HM2 : Hid (((m.st.x : Int) = (a : Int) - 1) ∧ ((m.st.y : Int) = (b : Int) - 1)) := Lib.hid (by have := HM.out; have := HNUM.out; omega)
  unfold scrV
  obtain ⟨mc, hmc⟩ : ∃ mc, m.W * m.H = mc := ⟨_, rfl⟩
  rw [HM2.out.1, HM2.out.2, hmc]
  have HDD := And.intro (fun V => digits_any b (by have := HNUM.out; omega) V) (fun V => digits_any a (by have := HNUM.out; omega) V)
  obtain ⟨A, hA⟩ : ∃ A, A = bytesN (decN b) := ⟨_, rfl⟩
  obtain ⟨B, hB⟩ : ∃ B, B = bytesN (decN a) := ⟨_, rfl⟩
  have hAl : A.size ≤ 5 := by rw [hA, bytesN_size]; exact decN_len 4 b (by have := HNUM.out; omega)
  have hBl : B.size ≤ 5 := by rw [hB, bytesN_size]; exact decN_len 4 a (by have := HNUM.out; omega)
  have z1 : (⟨#[27, 91]⟩ : ByteArray).size + A.size ≤ 9223372036854775807 := by show 2 + A.size ≤ _; omega
  have z2 : ((⟨#[27, 91]⟩ : ByteArray) ++ A).size + (⟨#[59]⟩ : ByteArray).size ≤ 9223372036854775807 := by rw [ByteArray.size_append]; show 2 + A.size + 1 ≤ _; omega
  have z3 : (((⟨#[27, 91]⟩ : ByteArray) ++ A) ++ (⟨#[59]⟩ : ByteArray)).size + B.size ≤ 9223372036854775807 := by rw [ByteArray.size_append, ByteArray.size_append]; show 2 + A.size + 1 + B.size ≤ _; omega
  have z4 : ((((⟨#[27, 91]⟩ : ByteArray) ++ A) ++ (⟨#[59]⟩ : ByteArray)) ++ B).size + (⟨#[82]⟩ : ByteArray).size ≤ 9223372036854775807 := by rw [ByteArray.size_append, ByteArray.size_append, ByteArray.size_append]; show 2 + A.size + 1 + B.size + 1 ≤ _; omega
  have t1 : (S.toList == ((((((⟨#[27, 91]⟩ : ByteArray) ++ A) ++ (⟨#[59]⟩ : ByteArray)) ++ B) ++ (⟨#[82]⟩ : ByteArray))).toList) = true := by
    rw [← HSS.out, hA, hB, bytesN_add, bytesN_add, bytesN_add, bytesN_add]
    exact beq_self_eq_true _
  rw [← hA, ← hB] at HDD
  clear hA hB hAl hBl
  have HDD := Lib.hid HDD
  have x1 : (((a : Int) - 1) == ((a : Int) - 1)) = true := by simp
  have x2 : (((b : Int) - 1) == ((b : Int) - 1)) = true := by simp
  obtain ⟨W8, hW8⟩ : ∃ W8, W8 = w7.alloc (.cells #[.int .i64 (m.W : Int), .int .i64 (m.H : Int), .slice (some ⟨g, 0, none⟩) mc c, .int .i64 ((a : Int) - 1), .int .i64 ((b : Int) - 1), .bool m.hid] 29) := ⟨_, rfl⟩
  have q8 : W8.heap[w7.heap.size]? = some (.cells #[.int .i64 (m.W : Int), .int .i64 (m.H : Int), .slice (some ⟨g, 0, none⟩) mc c, .int .i64 ((a : Int) - 1), .int .i64 ((b : Int) - 1), .bool m.hid] 29 (0, 0)) := by rw [hW8]; exact heap_alloc_new w7 _
  have HQ8 := Lib.hid q8
  have HE8 : Hid (Ems w W8 [⟨e, L6, _, (pAt 0, m)⟩]) := Lib.hid (by rw [hW8]; exact HE7.out.quiet ((Keep.refl _ w7).alloc _))
  have HW8 := Lib.hid hW8
  clear hmc hW8 q8 HE7 HM2
  obtain ⟨p8, hp8⟩ : ∃ p8, p8 = w7.heap.size := ⟨_, rfl⟩
  have HP8 := Lib.hid hp8
  go_upto_region 11 with fail
  rw [← HW8.out, ← hp8]
  clear hp8
  go_wp2_with fail
  refine (HDD.out.1 _).mono ?_
  rintro v w9 ⟨rfl, hb9⟩
  have HE9 := Lib.hid (HE8.out.quiet (Keep.of_below _ hb9))
  have HK9 := Lib.hid (Keep.of_below (fun _ => False) hb9)
  clear hb9 HE8
  go_wp2_with fail
  refine (HDD.out.2 _).mono ?_
  rintro v w10 ⟨rfl, hb10⟩
  have HE10 : Hid (Ems w w10 ([] ++ ⟨e, L6, _, (pAt 0, m)⟩ :: [])) := Lib.hid (HE9.out.quiet (Keep.of_below _ hb10))
  have hl8 : p8 < W8.heap.size := by rw [HP8.out]; exact lt_heap HQ8.out
  have q10 : w10.heap[p8]? = some (.cells #[.int .i64 (m.W : Int), .int .i64 (m.H : Int), .slice (some ⟨g, 0, none⟩) mc c, .int .i64 ((a : Int) - 1), .int .i64 ((b : Int) - 1), .bool m.hid] 29 (0, 0)) := by
    have k := HK9.out.trans (Keep.of_below (fun _ => False) hb10) (fun _ _ x => x)
    rw [k.block p8 hl8 (fun x => x), HP8.out]; exact HQ8.out
  have c3 := cell_at q10 3
  have c4 := cell_at q10 4
  simp at c3 c4
  have e10 := HE10.out.at_.lt
  have HF10 := Lib.hid (ems_feed (l1 := []) (l2 := []) (HE10.out.quiet ((Keep.refl _ w10).alloc (.cells #[.string tellsIn] 9))) (some ⟨w10.heap.size, 0, none⟩) 1 1 [tellsIn] (src_new w10 [.string tellsIn] 9 _ rfl 1 rfl) (fun _ q => by simp [blk] at q; dsimp only at e10; omega) (by omega) (by decide +kernel) HSU.out)
  clear hb10 HE9 HK9 HQ8 q10 hl8 HE10 e10 HW8
  have HN10 : Hid ((feedM (pAt 0, m) (natsJ [tellsIn])).2 = [27, 91, 48, 110, 27, 91, 63, 49, 59, 50, 99, 27, 91, 63, 49, 59, 50, 99]) := Lib.hid (by
    rw [show natsJ [tellsIn] = [27, 91, 53, 110, 27, 91, 99, 27, 91, 48, 99, 27, 91, 49, 99] from by decide +kernel]
    exact feed_tells m)
  have t9 : ((bytesN [27, 91, 48, 110, 27, 91, 63, 49, 59, 50, 99, 27, 91, 63, 49, 59, 50, 99]).toList == [27, 91, 48, 110, 27, 91, 63, 49, 59, 50, 99, 27, 91, 63, 49, 59, 50, 99]) = true := by decide +kernel
  go_wp2_with fail
  refine HF10.out.mono ?_
  rintro v w11 ⟨rfl, L11, he11, -, -⟩
  have HB11 := Lib.hid he11.below
  rw [HN10.out]
  clear he11 HF10
  go_wp2_with fail
  go_ret
  exact ⟨rfl, HB11.out⟩

end Go.Proofs.YtmlceohmjkaadaaGreatDoor
