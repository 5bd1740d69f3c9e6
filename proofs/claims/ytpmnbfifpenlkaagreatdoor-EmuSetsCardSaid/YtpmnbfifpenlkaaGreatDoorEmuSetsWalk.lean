/- Law EmuSets: the walk. Own work. -/
import Derived.Test.YtpmnbfifpenlkaaGreatDoorEmuSetsM
import Derived.Test.YtpmnbfifpenlkaaGreatDoorEmuPrintsWalk
import Derived.Test.YtpmnbfifpenlkaaGreatDoorEmuLine
import Derived.Test.YtpmnbfifpenlkaaGreatDoorEmuRest
import Derived.Test.YtpmnbfifpenlkaaGreatDoorEmuLaw2
import Derived.Deep.QuietTactic
import Derived.BigQuiet
import Derived.IntWalk
namespace Go.Proofs.YtpmnbfifpenlkaaGreatDoor
set_option linter.unusedVariables false
set_option linter.unusedSimpArgs false
open Go.RowKit

def setOf (r : Nat) : Nat := if r = 0 then 66 else if r = 1 then 48 else 65
theorem setOf_in (r : Nat) : setOf r = 66 ∨ setOf r = 48 ∨ setOf r = 65 := by unfold setOf; split; exact .inl rfl; split; exact .inr (.inl rfl); exact .inr (.inr rfl)
theorem set_at (r : Nat) (hr : r < 3) (h : r < (⟨#[66, 48, 65]⟩ : ByteArray).size) : ((⟨#[66, 48, 65]⟩ : ByteArray)[r]).toNat = setOf r := by
  rcases (show r = 0 ∨ r = 1 ∨ r = 2 by omega) with rfl | rfl | rfl <;> rfl

set_option maxRecDepth 100000 in
set_option maxHeartbeats 1600000 in
theorem emuSets_early (s : ByteArray) (x y : Int) (w : World) (h : (s.size : Int) > 30) :
    Calls Tryz.prog 5 #[.string s, .int .i64 x, .int .i64 y] w fun e w' => e = .returned (.bool true) ∧ Below w.heap.size w w' := by
  go_enter Tryz.func5, Tryz.ntmps5
  go_wp2_with fail
  refine (emu_alive _).mono ?_
  rintro e w1 ⟨rfl, hb⟩
  have HB := Lib.hid hb
  clear hb
  go_wp2_with fail
  go_ret
  exact ⟨rfl, HB.out⟩

set_option maxRecDepth 100000 in
set_option maxHeartbeats 12800000 in
theorem walk_EmuSets (s : ByteArray) (ws : s.size ≤ maxLen) (x : Int) (wx : (Lit.int .i64 x).wf = true) (y : Int) (wy : (Lit.int .i64 y).wf = true) (w : World) :
    Calls Tryz.prog 5 #[.string s, .int .i64 x, .int .i64 y] w fun e w' => e = .returned (.bool true) ∧ Below w.heap.size w w' := by
  by_cases hs : (s.size : Int) > 30
  · exact emuSets_early s x y w hs
  have HN := Lib.hid (fun V => emu_newF V 40 3 40 3 rfl rfl)
  obtain ⟨tp, htp, tp1, tp2, p, hp, hpl⟩ : ∃ tm : Int, x.tmod 3 = tm ∧ -3 < tm ∧ tm < 3 ∧ ∃ r : Nat, (tm + 3) % 3 = (r : Int) ∧ r < 3 := rest_twice x 3 (by omega)
  obtain ⟨tq, htq, tq1, tq2, q, hq, hql⟩ : ∃ tm : Int, y.tmod 3 = tm ∧ -3 < tm ∧ tm < 3 ∧ ∃ r : Nat, (tm + 3) % 3 = (r : Int) ∧ r < 3 := rest_twice y 3 (by omega)
  obtain ⟨a, ha⟩ : ∃ a, setOf p = a := ⟨_, rfl⟩
  obtain ⟨b, hb⟩ : ∃ b, setOf q = b := ⟨_, rfl⟩
  have HAB : Hid ((a = 66 ∨ a = 48 ∨ a = 65) ∧ (b = 66 ∨ b = 48 ∨ b = 65)) := Lib.hid (by rw [← ha, ← hb]; exact ⟨setOf_in p, setOf_in q⟩)
  have hp3 : (p : Int) < 3 := by omega
  have hq3 : (q : Int) < 3 := by omega
  have hpn : p < (⟨#[66, 48, 65]⟩ : ByteArray).size := hpl
  have hqn : q < (⟨#[66, 48, 65]⟩ : ByteArray).size := hql
  have ia : ((⟨#[66, 48, 65]⟩ : ByteArray)[p]).toNat = a := (set_at p hpl hpn).trans ha
  have ib : ((⟨#[66, 48, 65]⟩ : ByteArray)[q]).toNat = b := (set_at q hql hqn).trans hb
  have HSZ : Hid (s.size ≤ 30) := Lib.hid (by omega)
  clear wx wy ws ha hb
  go_enter Tryz.func5, Tryz.ntmps5
  go_wp2_with fail
  refine (emu_alive _).mono ?_
  rintro v w1 ⟨rfl, hb1⟩
  have HE1 := Lib.hid ((Ems.start w).quiet (Keep.of_below _ hb1))
  clear hb1
  go_wp2_with fail
  go_quiet (fail)
  have HE2 := Lib.hid (HE1.out.quiet ((Keep.refl (fun _ => False) w1).drewN nq))
  clear HE1
  go_wp2_with fail
  refine (HN.out _).mono ?_
  rintro v w2 h2
  obtain ⟨e, L, rfl, -, he2⟩ := HE2.out.add h2
  have HE3 : Hid (Ems w w2 [⟨e, L, 0, (pAt 0, EmM.new 40 3)⟩]) := Lib.hid he2
  clear h2 he2 HE2 HN
  have ha256 : a < 256 := by have := HAB.out; omega
  have hb256 : b < 256 := by have := HAB.out; omega
  have hcv1 := letter_str a ha256 w2
  have hcv2 := letter_str b hb256 (w2.alloc (.cells #[.int .u8 (a : Int)] 5))
  rw [show (w2.alloc (.cells #[.int .u8 (a : Int)] 5)).heap.size = w2.heap.size + 1 from by simp] at hcv2
  have HF := fed1 (k' := 100) (m' := seM (fun _ => blankC) 0 0 a b 0) (o := []) (HE3.out.quiet (((Keep.refl (fun _ => False) w2).alloc (.cells #[.int .u8 (a : Int)] 5)).alloc (.cells #[.int .u8 (b : Int)] 5))) [⟨#[27, 40]⟩, bytesN [a], ⟨#[27, 41]⟩, bytesN [b]] 4 rfl (by omega) (by simp only [sum, List.map_cons, List.map_nil, List.foldr_cons, List.foldr_nil, bytesN_size]; show 2 + (1 + (2 + (1 + 0))) ≤ _; omega) (by omega) (by simp only [sum, List.map_cons, List.map_nil, List.foldr_cons, List.foldr_nil, bytesN_size]; show 0 + 2 * (2 + (1 + (2 + (1 + 0)))) ≤ _; omega) (by
    have en : natsJ [⟨#[27, 40]⟩, bytesN [a], ⟨#[27, 41]⟩, bytesN [b]] = [27, 40, a] ++ [27, 41, b] := by
      rw [natsJ_eq]
      simp only [List.flatMap_cons, List.flatMap_nil, List.append_nil]
      rw [natsOf_bytesN [a] (by intro d hd; simp at hd; omega), natsOf_bytesN [b] (by intro d hd; simp at hd; omega)]
      rfl
    rw [en]
    exact sets_new HAB.out.1 HAB.out.2)
  rw [show ((w2.alloc (.cells #[.int .u8 (a : Int)] 5)).alloc (.cells #[.int .u8 (b : Int)] 5)).heap.size = w2.heap.size + 1 + 1 from by simp] at HF
  have HF2 := Lib.hid HF
  clear HF HE3
  go_wp2_with fail
  refine HF2.out.mono ?_
  rintro v w4 ⟨rfl, L4, he4, -, -⟩
  have HE4 := Lib.hid he4
  obtain ⟨ga, hga⟩ : ∃ ga : Nat → Int, ga = fun k => mapM a (charN s k) := ⟨_, rfl⟩
  obtain ⟨gb, hgb⟩ : ∃ gb : Nat → Int, gb = fun k => mapM b (charN s k) := ⟨_, rfl⟩
  have HGA := Lib.hid (And.intro hga hgb)
  clear he4 HF2 hcv1 hcv2 hga hgb ia ib
  go_wp2_with fail
  go_loopw [10, 11, 12] (fun v1 v2 vi wr => ∃ i : Nat, v1 = .string (setT ga i) ∧ v2 = .string (setT gb i) ∧ vi = .int .i64 (i : Int) ∧ i ≤ s.size ∧ Hid (Ems w wr [⟨e, L4, 100, (pAt 0, seM (fun _ => blankC) 0 0 a b 0)⟩]) ∧ Hid (∀ k, k < i → 32 ≤ charN s k ∧ charN s k ≤ 126)) (fun _ _ vi _ => s.size - (intOf vi).toNat)
  case atStart => exact ⟨0, rfl, rfl, rfl, by omega, HE4.out, fun k hk => by omega⟩
  case round =>
    obtain ⟨i, rfl, rfl, rfl, hi, HE5, HP⟩ := hrel
    by_cases hlt : i < s.size
    · have hki : (i : Int) < (s.size : Int) := by omega
      have hk0 : (0 : Int) ≤ (i : Int) := by omega
      have HI := Lib.hid hlt
      obtain ⟨A, hA⟩ : ∃ A, setT ga i = A := ⟨_, rfl⟩
      obtain ⟨B, hB⟩ : ∃ B, setT gb i = B := ⟨_, rfl⟩
      have hAs : A.size ≤ 200 := by rw [← hA]; have := setT_size ga i; have := HSZ.out; omega
      have hBs : B.size ≤ 200 := by rw [← hB]; have := setT_size gb i; have := HSZ.out; omega
      rw [hA, hB]
      have HA := Lib.hid (And.intro hA hB)
      clear hA hB
      by_cases h1 : s[i].toNat < 32
      · have t1 : ((s[i].toNat : Int) < 32) := by omega
        have HB := Lib.hid HE5.out.below
        go_wp2_with fail
        go_ret
        exact ⟨rfl, HB.out⟩
      · have t1 : ¬ ((s[i].toNat : Int) < 32) := by omega
        by_cases h2 : 126 < s[i].toNat
        · have t2 : ((s[i].toNat : Int) > 126) := by omega
          have HB := Lib.hid HE5.out.below
          go_wp2_with fail
          go_ret
          exact ⟨rfl, HB.out⟩
        · have t2 : ¬ ((s[i].toNat : Int) > 126) := by omega
          have ec : charN s i = s[i].toNat := by
            unfold charN natsOf
            rw [List.getD_eq_getElem?_getD, List.getElem?_map, List.getElem?_eq_getElem (by rw [← Lib.size_eq]; exact hlt)]
            rfl
          have HG : Hid (∀ k, k < i + 1 → 32 ≤ charN s k ∧ charN s k ≤ 126) := Lib.hid (fun k hk => by
            by_cases e : k = i
            · subst e; rw [ec]; exact ⟨by omega, by omega⟩
            · exact HP.out k (by omega))
          have hw : IntKind.i32.wrap (s[i].toNat : Int) = (s[i].toNat : Int) := i32_nat s[i].toNat (by omega)
          obtain ⟨r1, hr1⟩ : ∃ r1 : Int, mapM a (s[i].toNat : Int) = r1 := ⟨_, rfl⟩
          obtain ⟨r2, hr2⟩ : ∃ r2 : Int, mapM b (s[i].toNat : Int) = r2 := ⟨_, rfl⟩
          have HM1 := Lib.hid (fun V => ref_map V a (s[i].toNat : Int) (by omega))
          have HM2 := Lib.hid (fun V => ref_map V b (s[i].toNat : Int) (by omega))
          rw [hr1] at HM1
          rw [hr2] at HM2
          have HT1 := Lib.hid (fun V => refText r1 V)
          have HT2 := Lib.hid (fun V => refText r2 V)
          obtain ⟨X, hX⟩ : ∃ X, Utf8.encode r1 = X := ⟨_, rfl⟩
          obtain ⟨Y, hY⟩ : ∃ Y, Utf8.encode r2 = Y := ⟨_, rfl⟩
          rw [hX] at HT1
          rw [hY] at HT2
          have hz1 : A.size + X.size ≤ 9223372036854775807 := by have := encode_size_le r1; rw [hX] at this; omega
          have hz2 : B.size + Y.size ≤ 9223372036854775807 := by have := encode_size_le r2; rw [hY] at this; omega
          have HN1 : Hid (A ++ X = setT ga (i + 1) ∧ B ++ Y = setT gb (i + 1)) := Lib.hid (by
            rw [setT_next, setT_next, HA.out.1, HA.out.2, HGA.out.1, HGA.out.2, ← hX, ← hY, ← hr1, ← hr2]
            dsimp only
            rw [ec]
            exact ⟨rfl, rfl⟩)
          clear hX hY hr1 hr2 ec HP hlt hi h1 h2 hAs hBs
          go_wp2_with fail
          refine (HM1.out _).mono ?_
          rintro v w5 ⟨rfl, hb5⟩
          have HE6 := Lib.hid (HE5.out.quiet (Keep.of_below _ hb5))
          clear hb5 HE5
          go_wp2_with fail
          refine (HT1.out _).mono ?_
          rintro v w6 ⟨rfl, hb6⟩
          have HE7 := Lib.hid (HE6.out.quiet (Keep.of_below _ hb6))
          clear hb6 HE6
          go_wp2_with fail
          refine (HM2.out _).mono ?_
          rintro v w7 ⟨rfl, hb7⟩
          have HE8 := Lib.hid (HE7.out.quiet (Keep.of_below _ hb7))
          clear hb7 HE7
          go_wp2_with fail
          refine (HT2.out _).mono ?_
          rintro v w8 ⟨rfl, hb8⟩
          have HE9 := Lib.hid (HE8.out.quiet (Keep.of_below _ hb8))
          clear hb8 HE8
          go_wp2_with fail
          go_roundw
          case rel => exact ⟨i + 1, by rw [HN1.out.1], by rw [HN1.out.2], by go_num, HI.out, HE9.out, HG.out⟩
          case measure => have := HI.out; simp [intOf]; omega
    · have hii : i = s.size := by omega
      subst hii
      have hki : ¬ (s.size : Int) < (s.size : Int) := by omega
      have HF9 := Lib.hid (fed1 (k' := 400) (m' := seM (setsF s.size ga gb) s.size 2 a b 0) (o := []) HE5.out [s, ⟨#[13, 10, 14]⟩, s, ⟨#[13, 10, 15]⟩, s] 5 rfl (by omega) (by have := HSZ.out; simp only [sum, List.map_cons, List.map_nil, List.foldr_cons, List.foldr_nil]; have h1 : (⟨#[13, 10, 14]⟩ : ByteArray).size = 3 := rfl; have h2 : (⟨#[13, 10, 15]⟩ : ByteArray).size = 3 := rfl; omega) (by omega) (by have := HSZ.out; simp only [sum, List.map_cons, List.map_nil, List.foldr_cons, List.foldr_nil]; have h1 : (⟨#[13, 10, 14]⟩ : ByteArray).size = 3 := rfl; have h2 : (⟨#[13, 10, 15]⟩ : ByteArray).size = 3 := rfl; omega) (by
        have en : natsJ [s, ⟨#[13, 10, 14]⟩, s, ⟨#[13, 10, 15]⟩, s] = natsOf s ++ ([13, 10, 14] ++ (natsOf s ++ ([13, 10, 15] ++ natsOf s))) := by
          rw [natsJ_eq]
          simp only [List.flatMap_cons, List.flatMap_nil, List.append_nil]
          rfl
        rw [en, char_tab, HGA.out.1, HGA.out.2]
        exact sets_all (charN s) s.size HSZ.out (fun i hi => HP.out i hi)))
      clear hlt hi HE5 HP
      go_wp2_with fail
      refine HF9.out.mono ?_
      rintro v w5 ⟨rfl, L5, he5, -, -⟩
      have HE6 := Lib.hid he5
      have HT := Lib.hid (emu_text w5 e L5 _ he5.one.r)
      clear he5 HF9
      go_wp2_with fail
      refine HT.out.mono ?_
      rintro v w6 ⟨r, rfl, hr, hb6⟩
      obtain ⟨g, c6, rfl, hgl, hg⟩ := text_cells (W := 40) (H := 3) (F := setsF s.size ga gb) (by omega) hr
      obtain ⟨kk, hkk⟩ : ∃ kk : Nat, (40 : Int) - (s.size : Int) = (kk : Int) := ⟨40 - s.size, by have := HSZ.out; omega⟩
      have hke : 40 - s.size = kk := by omega
      have hr0 := fun j hj => sets_rows HSZ.out ga gb j hj
      rw [hke] at hr0
      obtain ⟨S, hS⟩ : ∃ S, bytesN (List.replicate kk 32) = S := ⟨_, rfl⟩
      have hSs : S.size ≤ 40 := by rw [← hS, bytesN_size]; simp; omega
      have HLN := Lib.hid (fun V => line_is kk 32 (by omega) (by omega) V)
      rw [hS] at HLN hr0
      obtain ⟨A, hA⟩ : ∃ A, setT ga s.size = A := ⟨_, rfl⟩
      obtain ⟨B, hB⟩ : ∃ B, setT gb s.size = B := ⟨_, rfl⟩
      have hAs : A.size ≤ 200 := by rw [← hA]; have := setT_size ga s.size; have := HSZ.out; omega
      have hBs : B.size ≤ 200 := by rw [← hB]; have := setT_size gb s.size; have := HSZ.out; omega
      have q0 := (hg 0 (by omega)).trans (congrArg (fun z => some (Value.string z)) (hr0 0 (by omega)))
      have q1 := (hg 1 (by omega)).trans (congrArg (fun z => some (Value.string z)) (hr0 1 (by omega)))
      have q2 := (hg 2 (by omega)).trans (congrArg (fun z => some (Value.string z)) (hr0 2 (by omega)))
      rw [if_neg (by omega), hA] at q0
      rw [if_pos rfl, hB] at q1
      rw [if_neg (by omega), hA] at q2
      have HQ := Lib.hid (And.intro q0 (And.intro q1 q2))
      have HGL := Lib.hid hgl
      have HK6 := Lib.hid (HE6.out.quiet (Keep.of_below _ hb6)).k
      have hz1 : A.size + S.size ≤ 9223372036854775807 := by omega
      have hz2 : B.size + S.size ≤ 9223372036854775807 := by omega
      have t1 : ((A ++ S).toList == (A ++ S).toList) = true := by simp
      have t2 : ((B ++ S).toList == (B ++ S).toList) = true := by simp
      rw [hA, hB]
      clear hr hb6 hgl hg hke hr0 hS hSs hA hB hAs hBs q0 q1 q2 HT HE6
      go_wp2_with fail
      refine (HLN.out _).mono ?_
      rintro v w7 ⟨rfl, hb7⟩
      have K7 := Keep.of_below (fun _ => False) hb7
      have g0 : w7.cell? ⟨g, 0, none⟩ = some (.string (A ++ S)) := (K7.cell (p := ⟨g, 0, none⟩) HGL.out (fun x => x)).trans HQ.out.1
      have g1 : w7.cell? ⟨g, 1, none⟩ = some (.string (B ++ S)) := (K7.cell (p := ⟨g, 1, none⟩) HGL.out (fun x => x)).trans HQ.out.2.1
      have g2 : w7.cell? ⟨g, 2, none⟩ = some (.string (A ++ S)) := (K7.cell (p := ⟨g, 2, none⟩) HGL.out (fun x => x)).trans HQ.out.2.2
      have HB7 : Hid (Below w.heap.size w w7) := Lib.hid ((HK6.out.trans K7 (fun _ _ x => x)).below (Nat.le_refl _) (fun _ _ x => x))
      clear hb7 K7 HLN HQ
      go_wp2_with fail
      go_ret
      exact ⟨rfl, HB7.out⟩

end Go.Proofs.YtpmnbfifpenlkaaGreatDoor
