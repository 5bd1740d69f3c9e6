/- Law EmuOrigins: the walk. By program (rgn/XEmuOriginsWalk.py). Own work. -/
import Derived.Test.YtmlceohmjkaadaaGreatDoorEmuOriginsM
import Derived.Test.YtmlceohmjkaadaaGreatDoorEmuLaw2
import Derived.Test.YtmlceohmjkaadaaGreatDoorEmuRest
import Derived.Deep.QuietTactic
import Derived.BigQuiet
import Derived.IntWalk
namespace Go.Proofs.YtmlceohmjkaadaaGreatDoor
set_option linter.unusedVariables false
set_option linter.unusedSimpArgs false
open Go.RowKit

/-- A region that may be set. -/
def RegOk (H t b : Nat) : Prop := (t + 1 < b ∧ b ≤ H) ∨ (t = 0 ∧ b = H)
theorem originOn_nats (t b row : Nat) : natsJ [⟨#[27, 91]⟩, bytesN (decN (t + 1)), ⟨#[59]⟩, bytesN (decN b), ⟨#[114, 27, 91, 63, 54, 104, 27, 91]⟩, bytesN (decN row), ⟨#[59, 51, 72]⟩] = originOn t b row := by
  rw [natsJ_eq]
  simp only [List.flatMap_cons, List.flatMap_nil, List.append_nil]
  rw [natsOf_decN, natsOf_decN, natsOf_decN, show natsOf ⟨#[27, 91]⟩ = [27, 91] from rfl, show natsOf ⟨#[59]⟩ = [59] from rfl, show natsOf ⟨#[114, 27, 91, 63, 54, 104, 27, 91]⟩ = [114, 27, 91, 63, 54, 104, 27, 91] from rfl, show natsOf ⟨#[59, 51, 72]⟩ = [59, 51, 72] from rfl]
  unfold originOn regL goXY
  rw [show decN 3 = [51] from by rw [decN, if_pos (by omega)]]
  simp
theorem originOff_nats (row : Nat) : natsJ [⟨#[27, 91, 63, 54, 108, 27, 91]⟩, bytesN (decN row), ⟨#[59, 51, 72]⟩] = originOff row := by
  rw [natsJ_eq]
  simp only [List.flatMap_cons, List.flatMap_nil, List.append_nil]
  rw [natsOf_decN, show natsOf ⟨#[27, 91, 63, 54, 108, 27, 91]⟩ = [27, 91, 63, 54, 108, 27, 91] from rfl, show natsOf ⟨#[59, 51, 72]⟩ = [59, 51, 72] from rfl]
  unfold originOff goXY
  rw [show decN 3 = [51] from by rw [decN, if_pos (by omega)]]
  simp
theorem originOn_size (t b row : Nat) (ht : t + 1 < 100) (hb : b < 100) (hr : row < 100) : sum [⟨#[27, 91]⟩, bytesN (decN (t + 1)), ⟨#[59]⟩, bytesN (decN b), ⟨#[114, 27, 91, 63, 54, 104, 27, 91]⟩, bytesN (decN row), ⟨#[59, 51, 72]⟩] ≤ 100 := by
  have := two_decN ht
  have := two_decN hb
  have := two_decN hr
  simp only [sum, List.map_cons, List.map_nil, List.foldr_cons, List.foldr_nil, List.sum_cons, List.sum_nil, bytesN_size]
  show 2 + ((decN (t + 1)).length + (1 + ((decN b).length + (8 + ((decN row).length + (3 + 0)))))) ≤ 100
  omega
theorem originOff_size (row : Nat) (hr : row < 100) : sum [⟨#[27, 91, 63, 54, 108, 27, 91]⟩, bytesN (decN row), ⟨#[59, 51, 72]⟩] ≤ 100 := by
  have := two_decN hr
  simp only [sum, List.map_cons, List.map_nil, List.foldr_cons, List.foldr_nil, List.sum_cons, List.sum_nil, bytesN_size]
  show 7 + ((decN row).length + (3 + 0)) ≤ 100
  omega

set_option maxRecDepth 100000 in
set_option maxHeartbeats 1600000 in
theorem emuOrigins_early (x y s t : Int) (w : World) (h : t < 0 ∨ (¬ t < 0 ∧ t > 50)) :
    Calls Tryz.prog 9 #[.int .i64 x, .int .i64 y, .int .i64 s, .int .i64 t] w fun e w' => e = .returned (.bool true) ∧ Below w.heap.size w w' := by
  rcases h with h | ⟨h, h2⟩
  all_goals
    go_enter Tryz.func9, Tryz.ntmps9
    go_wp2_with fail
    refine (emu_alive _).mono ?_
    rintro e w1 ⟨rfl, hb⟩
    have HB := Lib.hid hb
    clear hb
    go_wp2_with fail
    go_ret
    exact ⟨rfl, HB.out⟩

set_option maxRecDepth 100000 in
set_option maxHeartbeats 6400000 in
theorem walk_EmuOrigins (x : Int) (wx : (Lit.int .i64 x).wf = true) (y : Int) (wy : (Lit.int .i64 y).wf = true) (s : Int) (ws : (Lit.int .i64 s).wf = true) (t : Int) (wt : (Lit.int .i64 t).wf = true) (w : World) :
    Calls Tryz.prog 9 #[.int .i64 x, .int .i64 y, .int .i64 s, .int .i64 t] w fun e w' => e = .returned (.bool true) ∧ Below w.heap.size w w' := by
  by_cases h1 : t < 0
  · exact emuOrigins_early x y s t w (.inl h1)
  by_cases h2 : t > 50
  · exact emuOrigins_early x y s t w (.inr ⟨h1, h2⟩)
  obtain ⟨row, rfl⟩ : ∃ row : Nat, t = (row : Int) := ⟨t.toNat, by omega⟩
  obtain ⟨H, hH⟩ : ∃ H : Nat, min (max x 1) 20 = (H : Int) := ⟨(min (max x 1) 20).toNat, by omega⟩
  have HEN := Lib.hid (ends_is 9 x 9 H rfl hH)
  have HN := Lib.hid (fun V => emu_newF V 9 x 9 H rfl hH)
  have g1 : (1 : Int) ≤ (H : Int) := by omega
  have g2 : (H : Int) ≤ 20 := by omega
  obtain ⟨tm, htm, tm1, tm2, r1, hr1, hrl1⟩ := rest_twice y H (by omega)
  obtain ⟨tq, htq, tq1, tq2, r2, hr2, hrl2⟩ := rest_twice s H (by omega)
  obtain ⟨b0, hb0⟩ : ∃ b0 : Nat, (r2 : Int) + 1 = (b0 : Int) := ⟨r2 + 1, by omega⟩
  obtain ⟨rm, hrm⟩ : ∃ rm : Nat, max (row : Int) 1 = (rm : Int) := ⟨max row 1, by omega⟩
  obtain ⟨rh, hrh⟩ : ∃ rh : Nat, min (rm : Int) (H : Int) = (rh : Int) := ⟨min rm H, by omega⟩
  have HNUM : Hid (1 ≤ H ∧ H ≤ 20 ∧ row ≤ 50 ∧ r1 < H ∧ r2 + 1 = b0 ∧ r2 < H ∧ max row 1 = rm ∧ min rm H = rh) := Lib.hid (by omega)
  have HD := Lib.hid (fun V => digits_any row (by omega) V)
  have hrl1i : (r1 : Int) < (H : Int) := by omega
  have hb0i : (b0 : Int) ≤ (H : Int) := by omega
  have hb0p : (1 : Int) ≤ (b0 : Int) := by omega
  have hrmi : (rm : Int) ≤ 50 := by omega
  have hrhi : (1 : Int) ≤ (rh : Int) := by omega
  have hrhj : (rh : Int) ≤ 20 := by omega
  clear hH wx wy ws wt hrl1 hrl2
  by_cases hge : (b0 : Int) - 1 ≤ (r1 : Int)
  · obtain ⟨k, hke⟩ : ∃ k, k = rh := ⟨rh, rfl⟩
    subst hke
    have hkk : (1 : Int) ≤ (k : Int) := by omega
    have hkl : (k : Int) ≤ 20 := by omega
    have HREG : Hid (RegOk H (0) H ∧ min (max row 1) (H - 0) = k ∧ 0 < H ∧ H ≤ H) := Lib.hid (by unfold RegOk; have := HNUM.out; omega)
    have HDT : Hid (∀ V, Calls Tryz.prog 23 #[.int .i64 1] V fun e w' => e = .returned (.string (bytesN (decN (0 + 1)))) ∧ Below V.heap.size V w') := Lib.hid (fun V => digits_any 1 (by omega) V)
    have HDB := Lib.hid (fun V => digits_any H (by have := HNUM.out; omega) V)
    go_enter Tryz.func9, Tryz.ntmps9
    go_wp2_with fail
    refine (emu_alive _).mono ?_
    rintro v w1 ⟨rfl, hb1⟩
    have HE1 := Lib.hid ((Ems.start w).quiet (Keep.of_below _ hb1))
    clear hb1
    go_wp2_with fail
    refine (HN.out _).mono ?_
    rintro v w2 h2
    obtain ⟨e, L, rfl, -, he2⟩ := HE1.out.add h2
    have HE2 : Hid (Ems w w2 [⟨e, L, 0, (pAt 0, EmM.new 9 H)⟩]) := Lib.hid he2
    clear h2 he2 HE1 HN
    go_wp2_with fail
    refine (HEN.out _).mono ?_
    rintro v w3 ⟨rfl, rfl⟩
    go_wp2_with fail
    go_quiet (fail)
    have HE3 := Lib.hid (HE2.out.quiet ((Keep.refl (fun _ => False) w3).drewN nq))
    clear HE2
    go_wp2_with fail
    refine (HDT.out _).mono ?_
    rintro v w4 ⟨rfl, hb4⟩
    have HE4 := Lib.hid (HE3.out.quiet (Keep.of_below _ hb4))
    clear hb4 HE3
    go_wp2_with fail
    refine (HDB.out _).mono ?_
    rintro v w5 ⟨rfl, hb5⟩
    have HE5 := Lib.hid (HE4.out.quiet (Keep.of_below _ hb5))
    clear hb5 HE4
    go_wp2_with fail
    refine (HD.out _).mono ?_
    rintro v w6 ⟨rfl, hb6⟩
    have HE6 := Lib.hid (HE5.out.quiet (Keep.of_below _ hb6))
    obtain ⟨m1, f1, rg1, x1, y1⟩ := origins_on H 0 H row k HNUM.out.1 HNUM.out.2.1 HREG.out.1 (by have := HNUM.out; omega) HREG.out.2.1
    have HF6 := Lib.hid (fed1 (k' := 200) HE6.out [⟨#[27, 91]⟩, bytesN (decN (0 + 1)), ⟨#[59]⟩, bytesN (decN H), ⟨#[114, 27, 91, 63, 54, 104, 27, 91]⟩, bytesN (decN row), ⟨#[59, 51, 72]⟩] 7 rfl (by omega) (Nat.le_trans (originOn_size 0 H row (by have := HREG.out.2.2; have := HNUM.out; omega) (by have := HREG.out.2.2; have := HNUM.out; omega) (by have := HNUM.out; omega)) (by omega)) (by omega) (by have := originOn_size 0 H row (by have := HREG.out.2.2; have := HNUM.out; omega) (by have := HREG.out.2.2; have := HNUM.out; omega) (by have := HNUM.out; omega); omega) ((congrArg (feedM (pAt 0, EmM.new 9 H)) (originOn_nats 0 H row)).trans f1))
    have HG1 := Lib.hid (And.intro rg1 (And.intro x1 y1))
    obtain ⟨d1, hd1⟩ : ∃ d1, bytesN (decN (0 + 1)) = d1 := ⟨_, rfl⟩
    obtain ⟨d2, hd2⟩ : ∃ d2, bytesN (decN H) = d2 := ⟨_, rfl⟩
    obtain ⟨d3, hd3⟩ : ∃ d3, bytesN (decN row) = d3 := ⟨_, rfl⟩
    rw [hd1, hd2, hd3] at HF6
    rw [hd1, hd2, hd3]
    have HD3 := Lib.hid hd3
    clear hb6 HE5 f1 rg1 x1 y1 hd1 hd2 hd3 HDT HDB HE6
    go_wp2_with fail
    refine HF6.out.mono ?_
    rintro v w7 ⟨rfl, L7, he7, -, -⟩
    have HE7 := Lib.hid he7
    have HS7 := Lib.hid (emu_screen w7 e L7 m1 he7.one.r)
    clear he7 HF6
    go_wp2_with fail
    refine HS7.out.mono ?_
    rintro v w8 ⟨g, c, rfl, -, -, -, -, hb8⟩
    have HE8 := Lib.hid (HE7.out.quiet (Keep.of_below _ hb8))
    have HX : (m1.st.x : Int) = 2 := by rw [HG1.out.2.1]; rfl
    have HY : (m1.st.y : Int) = (k : Int) - 1 := by rw [HG1.out.2.2]; omega
    obtain ⟨ob, hob⟩ : ∃ ob : Obj, ob = .cells #[.int .i64 (m1.W : Int), .int .i64 (m1.H : Int), .slice (some ⟨g, 0, none⟩) (m1.W * m1.H) c, .int .i64 2, .int .i64 ((k : Int) - 1), .bool m1.hid] 29 := ⟨_, rfl⟩
    obtain ⟨W8, hW8⟩ : ∃ W8, W8 = w8.alloc ob := ⟨_, rfl⟩
    obtain ⟨p8, hp8⟩ : ∃ p8, p8 = w8.heap.size := ⟨_, rfl⟩
    have HEa : Hid (Ems w W8 [⟨e, L7, 200, (pAt 0, m1)⟩]) := Lib.hid (by rw [hW8]; exact HE8.out.quiet ((Keep.refl _ w8).alloc _))
    have HKP : Hid (Kp W8 e L7 p8 ob) := Lib.hid (by rw [hW8, hp8]; exact Kp.new HE8.out.one ob)
    have HF8 := Lib.hid (fed1 (k' := 300) HEa.out [⟨#[27, 91, 54, 110]⟩] 1 rfl (by omega) (by decide +kernel) (by omega) (by decide +kernel) (origins_tell HG1.out.1 HG1.out.2.1 HG1.out.2.2 (by omega)))
    have HOB := Lib.hid hob
    unfold scrV
    rw [HX, HY]
    clear hb8 HS7 HE7 HX HY
    go_upto_region 12 with fail
    rw [← hp8]
    rw [← hob]
    rw [← hW8]
    clear hW8 hp8 hob HE8
    go_wp2_with fail
    refine HF8.out.mono ?_
    rintro v w9 ⟨rfl, L9, he9, kp9, -⟩
    have HE9 := Lib.hid he9
    have HKP9 := Lib.hid (kp9 _ _ HKP.out)
    obtain ⟨S, hS⟩ : ∃ S, bytesN ([27, 91] ++ decN k ++ [59, 51, 82]) = S := ⟨_, rfl⟩
    rw [hS]
    have HSS := Lib.hid hS
    clear he9 kp9 HF8 HEa HKP hS
    go_wp2_with fail
    refine (HD.out _).mono ?_
    rintro v w10 ⟨rfl, hb10⟩
    have HE10 := Lib.hid (HE9.out.quiet (Keep.of_below _ hb10))
    have HKP10 := Lib.hid (HKP9.out.quiet HE9.out.one (Keep.of_below _ hb10))
    obtain ⟨m4, f4, x4, y4⟩ := origins_off HG1.out.1 (row := row) (by have := HNUM.out; omega) HNUM.out.1
    have HF10 := Lib.hid (fed1 (k' := 600) HE10.out [⟨#[27, 91, 63, 54, 108, 27, 91]⟩, bytesN (decN row), ⟨#[59, 51, 72]⟩] 3 rfl (by omega) (Nat.le_trans (originOff_size row (by have := HNUM.out; omega)) (by omega)) (by omega) (by have := originOff_size row (by have := HNUM.out; omega); omega) ((congrArg (feedM (pAt 0, m1)) (originOff_nats row)).trans f4))
    have HXY4 : Hid ((m4.st.x : Int) = 2 ∧ (m4.st.y : Int) = (k : Int) - 1) := Lib.hid ⟨by rw [x4]; rfl, by rw [y4]; have := HNUM.out; omega⟩
    rw [HD3.out] at HF10
    rw [HD3.out]
    clear hb10 HE9 HKP9 f4 x4 y4
    go_wp2_with fail
    refine HF10.out.mono ?_
    rintro v w11 ⟨rfl, L11, he11, kp11, -⟩
    have HE11 := Lib.hid he11
    have HKP11 := Lib.hid (kp11 _ _ HKP10.out)
    have HS11 := Lib.hid (emu_screen w11 e L11 m4 he11.one.r)
    clear he11 kp11 HF10 HE10 HKP10
    go_wp2_with fail
    refine HS11.out.mono ?_
    rintro v w12 ⟨g2, d2, rfl, -, -, -, -, hb12⟩
    have HE12 := Lib.hid (HE11.out.quiet (Keep.of_below _ hb12))
    have HKP12 := Lib.hid (HKP11.out.quiet HE11.out.one (Keep.of_below _ hb12))
    obtain ⟨oc, hoc⟩ : ∃ oc : Obj, oc = .cells #[.int .i64 (m4.W : Int), .int .i64 (m4.H : Int), .slice (some ⟨g2, 0, none⟩) (m4.W * m4.H) d2, .int .i64 2, .int .i64 ((k : Int) - 1), .bool m4.hid] 29 := ⟨_, rfl⟩
    obtain ⟨W12, hW12⟩ : ∃ W12, W12 = w12.alloc oc := ⟨_, rfl⟩
    obtain ⟨p12, hp12⟩ : ∃ p12, p12 = w12.heap.size := ⟨_, rfl⟩
    have q8 : W12.heap[p8]? = some ob := by rw [hW12]; exact (((Keep.refl (fun _ => False) w12).alloc oc).block p8 (lt_heap HKP12.out.1) (fun x => x)).trans HKP12.out.1
    have q12 : W12.heap[p12]? = some oc := by rw [hW12, hp12]; exact heap_alloc_new w12 _
    rw [HOB.out] at q8
    rw [hoc] at q12
    have HQ12 := Lib.hid q12
    have c3 := cell_at q8 3; have c4 := cell_at q8 4
    simp at c3 c4
    have HEb : Hid (Below w.heap.size w W12) := Lib.hid (by rw [hW12]; exact (HE12.out.quiet ((Keep.refl _ w12).alloc _)).below)
    unfold scrV
    rw [HXY4.out.1, HXY4.out.2]
    have HDK := Lib.hid (digits_any k (by omega) W12)
    obtain ⟨A, hA⟩ : ∃ A, A = bytesN (decN k) := ⟨_, rfl⟩
    have hAl : A.size ≤ 5 := by rw [hA, bytesN_size]; exact decN_len 4 k (by omega)
    have z1 : (⟨#[27, 91]⟩ : ByteArray).size + A.size ≤ 9223372036854775807 := by show 2 + A.size ≤ _; omega
    have z2 : ((⟨#[27, 91]⟩ : ByteArray) ++ A).size + (⟨#[59, 51, 82]⟩ : ByteArray).size ≤ 9223372036854775807 := by rw [ByteArray.size_append]; show 2 + A.size + 3 ≤ _; omega
    have t1 : (S.toList == (((⟨#[27, 91]⟩ : ByteArray) ++ A) ++ (⟨#[59, 51, 82]⟩ : ByteArray)).toList) = true := by
      rw [← HSS.out, hA, bytesN_add, bytesN_add]
      exact beq_self_eq_true _
    rw [← hA] at HDK
    have e1 : (((k : Int) - 1) == ((k : Int) - 1)) = true := by simp
    have e2 : (((k : Int) - 1) == ((k : Int) - 1)) = true := by simp
    clear hA hAl q8 q12 hb12 HE11 HKP11 HS11 HOB HSS HKP12
    go_upto_region 15 with fail
    rw [← hp12]
    rw [← hoc]
    rw [← hW12]
    clear hW12 hp12 hoc HE12
    go_wp2_with fail
    refine HDK.out.mono ?_
    rintro v w13 ⟨rfl, hb13⟩
    have q13 := ((Keep.of_below (fun _ => False) hb13).block p12 (lt_heap HQ12.out) (fun x => x)).trans HQ12.out
    have c3 := cell_at q13 3; have c4 := cell_at q13 4
    simp at c3 c4
    have HB13 := Lib.hid (HEb.out.trans (hb13.mono HEb.out.size))
    clear hb13 q13 HQ12 HDK
    go_wp2_with fail
    go_ret
    exact ⟨rfl, HB13.out⟩
  · obtain ⟨k, hk⟩ : ∃ k : Nat, min (rm : Int) ((b0 : Int) - (r1 : Int)) = (k : Int) := ⟨min rm (b0 - r1), by omega⟩
    have hkk : (1 : Int) ≤ (k : Int) := by omega
    have hkl : (k : Int) ≤ 20 := by omega
    have HREG : Hid (RegOk H (r1) b0 ∧ min (max row 1) (b0 - r1) = k ∧ r1 < H ∧ b0 ≤ H) := Lib.hid (by unfold RegOk; have := HNUM.out; omega)
    have HDT : Hid (∀ V, Calls Tryz.prog 23 #[.int .i64 ((r1 : Int) + 1)] V fun e w' => e = .returned (.string (bytesN (decN (r1 + 1)))) ∧ Below V.heap.size V w') := Lib.hid (fun V => digits_any (r1 + 1) (by have := HNUM.out; omega) V)
    have HDB := Lib.hid (fun V => digits_any b0 (by have := HNUM.out; omega) V)
    go_enter Tryz.func9, Tryz.ntmps9
    go_wp2_with fail
    refine (emu_alive _).mono ?_
    rintro v w1 ⟨rfl, hb1⟩
    have HE1 := Lib.hid ((Ems.start w).quiet (Keep.of_below _ hb1))
    clear hb1
    go_wp2_with fail
    refine (HN.out _).mono ?_
    rintro v w2 h2
    obtain ⟨e, L, rfl, -, he2⟩ := HE1.out.add h2
    have HE2 : Hid (Ems w w2 [⟨e, L, 0, (pAt 0, EmM.new 9 H)⟩]) := Lib.hid he2
    clear h2 he2 HE1 HN
    go_wp2_with fail
    refine (HEN.out _).mono ?_
    rintro v w3 ⟨rfl, rfl⟩
    go_wp2_with fail
    go_quiet (fail)
    have HE3 := Lib.hid (HE2.out.quiet ((Keep.refl (fun _ => False) w3).drewN nq))
    clear HE2
    go_wp2_with fail
    refine (HDT.out _).mono ?_
    rintro v w4 ⟨rfl, hb4⟩
    have HE4 := Lib.hid (HE3.out.quiet (Keep.of_below _ hb4))
    clear hb4 HE3
    go_wp2_with fail
    refine (HDB.out _).mono ?_
    rintro v w5 ⟨rfl, hb5⟩
    have HE5 := Lib.hid (HE4.out.quiet (Keep.of_below _ hb5))
    clear hb5 HE4
    go_wp2_with fail
    refine (HD.out _).mono ?_
    rintro v w6 ⟨rfl, hb6⟩
    have HE6 := Lib.hid (HE5.out.quiet (Keep.of_below _ hb6))
    obtain ⟨m1, f1, rg1, x1, y1⟩ := origins_on H r1 b0 row k HNUM.out.1 HNUM.out.2.1 HREG.out.1 (by have := HNUM.out; omega) HREG.out.2.1
    have HF6 := Lib.hid (fed1 (k' := 200) HE6.out [⟨#[27, 91]⟩, bytesN (decN (r1 + 1)), ⟨#[59]⟩, bytesN (decN b0), ⟨#[114, 27, 91, 63, 54, 104, 27, 91]⟩, bytesN (decN row), ⟨#[59, 51, 72]⟩] 7 rfl (by omega) (Nat.le_trans (originOn_size r1 b0 row (by have := HREG.out.2.2; have := HNUM.out; omega) (by have := HREG.out.2.2; have := HNUM.out; omega) (by have := HNUM.out; omega)) (by omega)) (by omega) (by have := originOn_size r1 b0 row (by have := HREG.out.2.2; have := HNUM.out; omega) (by have := HREG.out.2.2; have := HNUM.out; omega) (by have := HNUM.out; omega); omega) ((congrArg (feedM (pAt 0, EmM.new 9 H)) (originOn_nats r1 b0 row)).trans f1))
    have HG1 := Lib.hid (And.intro rg1 (And.intro x1 y1))
    obtain ⟨d1, hd1⟩ : ∃ d1, bytesN (decN (r1 + 1)) = d1 := ⟨_, rfl⟩
    obtain ⟨d2, hd2⟩ : ∃ d2, bytesN (decN b0) = d2 := ⟨_, rfl⟩
    obtain ⟨d3, hd3⟩ : ∃ d3, bytesN (decN row) = d3 := ⟨_, rfl⟩
    rw [hd1, hd2, hd3] at HF6
    rw [hd1, hd2, hd3]
    have HD3 := Lib.hid hd3
    clear hb6 HE5 f1 rg1 x1 y1 hd1 hd2 hd3 HDT HDB HE6
    go_wp2_with fail
    refine HF6.out.mono ?_
    rintro v w7 ⟨rfl, L7, he7, -, -⟩
    have HE7 := Lib.hid he7
    have HS7 := Lib.hid (emu_screen w7 e L7 m1 he7.one.r)
    clear he7 HF6
    go_wp2_with fail
    refine HS7.out.mono ?_
    rintro v w8 ⟨g, c, rfl, -, -, -, -, hb8⟩
    have HE8 := Lib.hid (HE7.out.quiet (Keep.of_below _ hb8))
    have HX : (m1.st.x : Int) = 2 := by rw [HG1.out.2.1]; rfl
    have HY : (m1.st.y : Int) = (r1 : Int) + (k : Int) - 1 := by rw [HG1.out.2.2]; omega
    obtain ⟨ob, hob⟩ : ∃ ob : Obj, ob = .cells #[.int .i64 (m1.W : Int), .int .i64 (m1.H : Int), .slice (some ⟨g, 0, none⟩) (m1.W * m1.H) c, .int .i64 2, .int .i64 ((r1 : Int) + (k : Int) - 1), .bool m1.hid] 29 := ⟨_, rfl⟩
    obtain ⟨W8, hW8⟩ : ∃ W8, W8 = w8.alloc ob := ⟨_, rfl⟩
    obtain ⟨p8, hp8⟩ : ∃ p8, p8 = w8.heap.size := ⟨_, rfl⟩
    have HEa : Hid (Ems w W8 [⟨e, L7, 200, (pAt 0, m1)⟩]) := Lib.hid (by rw [hW8]; exact HE8.out.quiet ((Keep.refl _ w8).alloc _))
    have HKP : Hid (Kp W8 e L7 p8 ob) := Lib.hid (by rw [hW8, hp8]; exact Kp.new HE8.out.one ob)
    have HF8 := Lib.hid (fed1 (k' := 300) HEa.out [⟨#[27, 91, 54, 110]⟩] 1 rfl (by omega) (by decide +kernel) (by omega) (by decide +kernel) (origins_tell HG1.out.1 HG1.out.2.1 HG1.out.2.2 (by omega)))
    have HOB := Lib.hid hob
    unfold scrV
    rw [HX, HY]
    clear hb8 HS7 HE7 HX HY
    go_upto_region 12 with fail
    rw [← hp8]
    rw [← hob]
    rw [← hW8]
    clear hW8 hp8 hob HE8
    go_wp2_with fail
    refine HF8.out.mono ?_
    rintro v w9 ⟨rfl, L9, he9, kp9, -⟩
    have HE9 := Lib.hid he9
    have HKP9 := Lib.hid (kp9 _ _ HKP.out)
    obtain ⟨S, hS⟩ : ∃ S, bytesN ([27, 91] ++ decN k ++ [59, 51, 82]) = S := ⟨_, rfl⟩
    rw [hS]
    have HSS := Lib.hid hS
    clear he9 kp9 HF8 HEa HKP hS
    go_wp2_with fail
    refine (HD.out _).mono ?_
    rintro v w10 ⟨rfl, hb10⟩
    have HE10 := Lib.hid (HE9.out.quiet (Keep.of_below _ hb10))
    have HKP10 := Lib.hid (HKP9.out.quiet HE9.out.one (Keep.of_below _ hb10))
    obtain ⟨m4, f4, x4, y4⟩ := origins_off HG1.out.1 (row := row) (by have := HNUM.out; omega) HNUM.out.1
    have HF10 := Lib.hid (fed1 (k' := 600) HE10.out [⟨#[27, 91, 63, 54, 108, 27, 91]⟩, bytesN (decN row), ⟨#[59, 51, 72]⟩] 3 rfl (by omega) (Nat.le_trans (originOff_size row (by have := HNUM.out; omega)) (by omega)) (by omega) (by have := originOff_size row (by have := HNUM.out; omega); omega) ((congrArg (feedM (pAt 0, m1)) (originOff_nats row)).trans f4))
    have HXY4 : Hid ((m4.st.x : Int) = 2 ∧ (m4.st.y : Int) = (rh : Int) - 1) := Lib.hid ⟨by rw [x4]; rfl, by rw [y4]; have := HNUM.out; omega⟩
    rw [HD3.out] at HF10
    rw [HD3.out]
    clear hb10 HE9 HKP9 f4 x4 y4
    go_wp2_with fail
    refine HF10.out.mono ?_
    rintro v w11 ⟨rfl, L11, he11, kp11, -⟩
    have HE11 := Lib.hid he11
    have HKP11 := Lib.hid (kp11 _ _ HKP10.out)
    have HS11 := Lib.hid (emu_screen w11 e L11 m4 he11.one.r)
    clear he11 kp11 HF10 HE10 HKP10
    go_wp2_with fail
    refine HS11.out.mono ?_
    rintro v w12 ⟨g2, d2, rfl, -, -, -, -, hb12⟩
    have HE12 := Lib.hid (HE11.out.quiet (Keep.of_below _ hb12))
    have HKP12 := Lib.hid (HKP11.out.quiet HE11.out.one (Keep.of_below _ hb12))
    obtain ⟨oc, hoc⟩ : ∃ oc : Obj, oc = .cells #[.int .i64 (m4.W : Int), .int .i64 (m4.H : Int), .slice (some ⟨g2, 0, none⟩) (m4.W * m4.H) d2, .int .i64 2, .int .i64 ((rh : Int) - 1), .bool m4.hid] 29 := ⟨_, rfl⟩
    obtain ⟨W12, hW12⟩ : ∃ W12, W12 = w12.alloc oc := ⟨_, rfl⟩
    obtain ⟨p12, hp12⟩ : ∃ p12, p12 = w12.heap.size := ⟨_, rfl⟩
    have q8 : W12.heap[p8]? = some ob := by rw [hW12]; exact (((Keep.refl (fun _ => False) w12).alloc oc).block p8 (lt_heap HKP12.out.1) (fun x => x)).trans HKP12.out.1
    have q12 : W12.heap[p12]? = some oc := by rw [hW12, hp12]; exact heap_alloc_new w12 _
    rw [HOB.out] at q8
    rw [hoc] at q12
    have HQ12 := Lib.hid q12
    have c3 := cell_at q8 3; have c4 := cell_at q8 4
    simp at c3 c4
    have HEb : Hid (Below w.heap.size w W12) := Lib.hid (by rw [hW12]; exact (HE12.out.quiet ((Keep.refl _ w12).alloc _)).below)
    unfold scrV
    rw [HXY4.out.1, HXY4.out.2]
    have HDK := Lib.hid (digits_any k (by omega) W12)
    obtain ⟨A, hA⟩ : ∃ A, A = bytesN (decN k) := ⟨_, rfl⟩
    have hAl : A.size ≤ 5 := by rw [hA, bytesN_size]; exact decN_len 4 k (by omega)
    have z1 : (⟨#[27, 91]⟩ : ByteArray).size + A.size ≤ 9223372036854775807 := by show 2 + A.size ≤ _; omega
    have z2 : ((⟨#[27, 91]⟩ : ByteArray) ++ A).size + (⟨#[59, 51, 82]⟩ : ByteArray).size ≤ 9223372036854775807 := by rw [ByteArray.size_append]; show 2 + A.size + 3 ≤ _; omega
    have t1 : (S.toList == (((⟨#[27, 91]⟩ : ByteArray) ++ A) ++ (⟨#[59, 51, 82]⟩ : ByteArray)).toList) = true := by
      rw [← HSS.out, hA, bytesN_add, bytesN_add]
      exact beq_self_eq_true _
    rw [← hA] at HDK
    have e1 : (((r1 : Int) + (k : Int) - 1) == ((r1 : Int) + (k : Int) - 1)) = true := by simp
    have e2 : (((rh : Int) - 1) == ((rh : Int) - 1)) = true := by simp
    clear hA hAl q8 q12 hb12 HE11 HKP11 HS11 HOB HSS HKP12
    go_upto_region 15 with fail
    rw [← hp12]
    rw [← hoc]
    rw [← hW12]
    clear hW12 hp12 hoc HE12
    go_wp2_with fail
    refine HDK.out.mono ?_
    rintro v w13 ⟨rfl, hb13⟩
    have q13 := ((Keep.of_below (fun _ => False) hb13).block p12 (lt_heap HQ12.out) (fun x => x)).trans HQ12.out
    have c3 := cell_at q13 3; have c4 := cell_at q13 4
    simp at c3 c4
    have HB13 := Lib.hid (HEb.out.trans (hb13.mono HEb.out.size))
    clear hb13 q13 HQ12 HDK
    go_wp2_with fail
    go_ret
    exact ⟨rfl, HB13.out⟩

end Go.Proofs.YtmlceohmjkaadaaGreatDoor
