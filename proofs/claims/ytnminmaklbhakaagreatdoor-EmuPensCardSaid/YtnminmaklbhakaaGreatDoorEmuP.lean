/- emu: print. Own work. -/
import Derived.Test.YtnminmaklbhakaaGreatDoorEmuS
import Derived.Deep.CutRange
import Derived.Deep.CutBlock
namespace Go.Proofs.YtnminmaklbhakaaGreatDoor
set_option linter.unusedVariables false
set_option linter.unusedSimpArgs false
open Go.RowKit

theorem EmR.lateTo {w : World} {e : Nat} {L : Loc} {m : EmM} (h : EmR w e L m) (b : Bool) : EmR (w.setCell ⟨e, 46, none⟩ (.bool b)) e L { m with late := b } ∧ Mv e L L w (w.setCell ⟨e, 46, none⟩ (.bool b)) :=
  ⟨⟨h.g.set 46 (by omega) _, h.cs.set 24 (by rw [m.cs_len]; omega) _ rfl, h.ok.late b⟩, (Mv.refl e L w).set 46 (by omega) _⟩
theorem EmR.x0 {w : World} {e : Nat} {L : Loc} {m : EmM} (h : EmR w e L m) : EmR (w.setCell ⟨e, 24, none⟩ (.int .i64 0)) e L m.setX0 ∧ Mv e L L w (w.setCell ⟨e, 24, none⟩ (.int .i64 0)) :=
  ⟨⟨h.g.set 24 (by omega) _, h.cs.set 2 (by rw [m.cs_len]; omega) _ rfl, h.ok.setX0⟩, (Mv.refl e L w).set 24 (by omega) _⟩
theorem mapped_ok {m : EmM} (h : m.Ok) (r : Nat) (hr : r ≤ 1114111) : -2147483648 ≤ m.mapped r ∧ m.mapped r ≤ 2147483647 := by
  unfold EmM.mapped
  split
  · unfold mapM lineM
    repeat' split
    all_goals try omega
    rename_i h1
    have : ∀ k, k < 32 → 0 ≤ linesT.getD k 0 ∧ linesT.getD k 0 ≤ 70000 := by decide
    have := this ((r : Int) - 95).toNat (by omega)
    omega
  · omega

def oneCs (r : Int) (a : At) : Array Value := #[.int .i32 r, .int .i64 a.fg, .int .i64 a.bg, .bool a.b, .bool a.u, .bool a.i]
/-- Set of one cell that was just laid. -/
theorem EmR.setOneK {w : World} {e : Nat} {L : Loc} {m : EmM} (h : EmR w e L m) (r : Int) (V : World) (K : Keep (fun _ => False) (w.alloc (.cells (oneCs r m.st.pen) 46)) V) :
    Calls Tryz.prog 34 #[.pointer (some ⟨L.sh.1, 0, none⟩), .int .i64 (m.st.x : Int), .int .i64 (m.st.y : Int), .slice (some ⟨w.heap.size, 0, none⟩) 1 1] V fun v w' => v = .returned (.int .i64 1) ∧ EmR w' e L (m.setOne r) ∧ Mv e L L w w' := by
  have K2 := ((Keep.refl (fun _ => False) w).alloc (.cells (oneCs r m.st.pen) 46)).trans K (fun _ _ x => x)
  have hs := (h.quiet K2).shown
  have hN : min 1 (restN m.W m.H m.st.x m.st.y) = 1 := by
    have h1 := h.ok.x; have h2 := h.ok.y
    unfold restN
    rw [if_pos (by omega)]
    omega
  have hsrc : Src V (some ⟨w.heap.size, 0, none⟩) (1 * 6) (flatF (fun _ => ⟨r, m.st.pen⟩) 1) :=
    (src_new w (flatF (fun _ => ⟨r, m.st.pen⟩) 1) 46 _ rfl _ (flatF_len _ 1)).keep K
  have := grid_setR _ _ _ _ _ _ _ _ m.st.x m.st.y (some ⟨w.heap.size, 0, none⟩) 1 1 (fun _ => ⟨r, m.st.pen⟩) hs hsrc (by omega) 1 hN.symm
  refine this.mono ?_
  rintro v w' ⟨rfl, q⟩
  exact ⟨rfl, h.with K2 q.keep (hs.set1 m.st.x m.st.y 1 _ ⟨r, m.st.pen⟩ h.ok.x h.ok.y hN.symm rfl q)⟩

set_option maxRecDepth 100000 in
set_option maxHeartbeats 3200000 in
theorem emu_print (w : World) (e : Nat) (L : Loc) (m : EmM) (r : Nat) (hr : r ≤ 1114111) (h : EmR w e L m) :
    Calls Tryz.prog 51 #[.pointer (some ⟨e, 0, none⟩), .int .i32 (r : Int)] w fun v w' => v = .returned (.tuple #[]) ∧ EmR w' e L (m.print r) ∧ Mv e L L w w' := by
  have HE := Lib.hid h
  have c46 := (h.cell 24 46 rfl _ rfl).1
  have c48 := (h.cell 26 48 rfl _ rfl).1
  have c24 := (h.cell 2 24 rfl _ rfl).1
  have f24 := (h.cell 2 24 rfl _ rfl).2
  clear h
  go_enter Tryz.func51, Tryz.ntmps51
  go_upto_region 0 with fail
  go_cut [15] from 6 to 15 (fun bv wx => bv = .bool (m.late && m.wrap) ∧ wx = w)
  case first =>
    cases hl : m.late
    · rw [hl] at c46
      go_wp2_with fail
      go_meet
      exact ⟨by rw [hl]; rfl, rfl⟩
    · rw [hl] at c46
      go_wp2_with fail
      go_meet
      exact ⟨by rw [hl]; rfl, rfl⟩
  case rest =>
    obtain ⟨rfl, hwc⟩ := hcut
    rw [hwc]
    clear hwc
    have HB : Hid ((m.late && m.wrap) = true ↔ (m.late = true ∧ m.wrap = true)) := Lib.hid (by simp)
    generalize (m.late && m.wrap) = B at *
    go_upto_if 15 with fail
    go_cut [] from 15 to 21 (fun wx => Hid (EmR wx e L m.wrapOne ∧ Mv e L L w wx))
    case first =>
      cases hB : B
      · have e1 : m.wrapOne = m := if_neg (fun x => by have := HB.out.2 x; rw [hB] at this; cases this)
        go_wp2_with fail
        go_meet
        show EmR w e L m.wrapOne ∧ _
        rw [e1]
        exact ⟨HE.out, Mv.refl _ _ _⟩
      · have e1 : m.wrapOne = m.setX0.index := if_pos (HB.out.1 hB)
        have HX := Lib.hid HE.out.x0
        go_wp2_with fail
        refine (emu_index _ e L m.setX0 HX.out.1).mono ?_
        rintro v w1 ⟨rfl, he, hm⟩
        have HE1 := Lib.hid he
        have HM1 := Lib.hid (HX.out.2.trans hm)
        clear he hm
        go_wp2_with fail
        go_meet
        show EmR w1 e L m.wrapOne ∧ _
        rw [e1]
        exact ⟨HE1.out, HM1.out⟩
    case rest =>
      have HE1 := Lib.hid hcut.out.1
      have HM1 := Lib.hid hcut.out.2
      have HPR : Hid (m.print r = (m.wrapOne.insOne.setOne (m.wrapOne.mapped r)).after) := rfl
      clear hcut HE c46 c48 c24 f24 HB
      generalize m.wrapOne = m1 at *
      obtain ⟨w1, hw1⟩ : ∃ w1, w1 = wc := ⟨_, rfl⟩
      rw [← hw1] at HE1 HM1 ⊢
      clear hw1
      have hok := HE1.out.ok
      have c34 := (HE1.out.cell 12 34 rfl _ rfl).1
      have c32 := (HE1.out.cell 10 32 rfl _ rfl).1
      have c33 := (HE1.out.cell 11 33 rfl _ rfl).1
      have hu := hok.u
      have HMO := Lib.hid (mapped_ok hok r hr)
      go_upto_if 23 with fail
      go_cut [1] from 22 to 36 (fun rv wx => rv = .int .i32 (m1.mapped r) ∧ Hid (Keep (fun _ => False) w1 wx))
      case first =>
        by_cases hlt : r < 128
        · have e1 : m1.mapped r = mapM m1.charset r := if_pos hlt
          have t0 : decide ((r : Int) < 128) = true := by simp; omega
          have t1 : decide (r < 128) = true := decide_eq_true hlt
          have HMP : Hid (∀ V, Calls Tryz.prog 66 #[.int .u8 (m1.charset : Int), .int .i32 (r : Int)] V fun v w' => v = .returned (.int .i32 (m1.mapped r)) ∧ Below V.heap.size V w') := Lib.hid (fun V => by rw [e1]; exact chart_map V _ _ (by omega))
          generalize m1.mapped r = R at *
          rcases Nat.eq_zero_or_pos m1.st.use with hz | hz
          · have e2 : m1.charset = m1.st.s0 := if_pos hz
            rw [e2] at HMP
            rw [hz] at c34
            have c34 : w1.cell? ⟨e, 34, none⟩ = some (.int .i64 0) := c34
            clear e1 e2 hz hok
            go_wp2_with fail
            go_region_law (first | (go_simp; go_at_call 66; refine (HMP.out _).mono ?_; rintro v w2 ⟨rfl, hb⟩; have HK2 : Hid (Keep (fun _ => False) w1 w2) := Lib.hid (Keep.trans (by first | exact Keep.refl _ _ | exact (Keep.refl _ _).drew | exact (Keep.refl _ _).drewN _) (Keep.of_below (fun _ => False) hb) (fun _ _ x => x)); clear hb) | fail)
            all_goals
              go_wp2_with fail
              go_meet
              exact ⟨rfl, HK2⟩
          · have e2 : m1.charset = m1.st.s1 := if_neg (by omega)
            rw [e2] at HMP
            have hz1 : m1.st.use = 1 := by omega
            rw [hz1] at c34
            have c34 : w1.cell? ⟨e, 34, none⟩ = some (.int .i64 1) := c34
            clear e1 e2 hz hz1 hok
            go_wp2_with fail
            go_region_law (first | (go_simp; go_at_call 66; refine (HMP.out _).mono ?_; rintro v w2 ⟨rfl, hb⟩; have HK2 : Hid (Keep (fun _ => False) w1 w2) := Lib.hid (Keep.trans (by first | exact Keep.refl _ _ | exact (Keep.refl _ _).drew | exact (Keep.refl _ _).drewN _) (Keep.of_below (fun _ => False) hb) (fun _ _ x => x)); clear hb) | fail)
            all_goals
              go_wp2_with fail
              go_meet
              exact ⟨rfl, HK2⟩
        · have e1 : m1.mapped r = (r : Int) := if_neg hlt
          have t0 : decide ((r : Int) < 128) = false := by simp; omega
          have t1 : decide (r < 128) = false := decide_eq_false hlt
          go_wp2_with fail
          go_meet
          exact ⟨by rw [e1], Keep.refl _ _⟩
      case rest =>
        obtain ⟨rfl, hk⟩ := hcut
        have HE2 := Lib.hid (HE1.out.quiet hk.out)
        have HM2 := Lib.hid (HM1.out.quiet HE1.out.elt hk.out)
        clear hk HE1 HM1 c34 c32 c33 hu hok
        obtain ⟨w2, hw2⟩ : ∃ w2, w2 = wc := ⟨_, rfl⟩
        rw [← hw2] at HE2 HM2 ⊢
        clear hw2
        generalize m1.mapped r = R at *
        have c47 := (HE2.out.cell 25 47 rfl _ rfl).1
        have c24 := (HE2.out.cell 2 24 rfl _ rfl).1
        have c25 := (HE2.out.cell 3 25 rfl _ rfl).1
        have HS := Lib.hid HE2.out.shownK
        go_upto_if 42 with ((refine (HS.out _ (Keep.refl _ _)).mono ?_; rintro v w3 ⟨rfl, hw3⟩; rw [hw3]; clear hw3))
        go_cut [] from 42 to 56 (fun wx => Hid (EmR wx e L m1.insOne ∧ Mv e L L w wx))
        case first =>
          cases hI : m1.ins
          · have e1 : m1.insOne = m1 := if_neg (fun x => by rw [hI] at x; cases x)
            go_wp2_with fail
            go_meet
            show EmR _ e L m1.insOne ∧ _
            rw [e1]
            exact ⟨HE2.out, HM2.out⟩
          · have e1 : m1.insOne = m1.put (rightF m1.W m1.st.x m1.st.y 1 m1.blank m1.shown) := if_pos hI
            have HB := Lib.hid HE2.out.blankK
            have HR := Lib.hid (HE2.out.right 1)
            go_wp2_with fail
            go_region_law (first | (go_simp; go_at_call 68; refine (HB.out _ (by first | exact Keep.refl _ _ | exact (Keep.refl _ _).drew | exact (Keep.refl _ _).drewN _)).mono ?_; rintro v w4 ⟨rfl, hb⟩; have HK4 : Hid (Keep (fun _ => False) w2 w4) := Lib.hid (Keep.trans (by first | exact Keep.refl _ _ | exact (Keep.refl _ _).drew | exact (Keep.refl _ _).drewN _) hb (fun _ _ x => x)); have d24 := ((HE2.out.quiet HK4.out).cell 2 24 rfl _ rfl).1; have d25 := ((HE2.out.quiet HK4.out).cell 3 25 rfl _ rfl).1; clear hb) | (go_simp; go_at_call 67; refine (HR.out _ HK4.out).mono ?_; rintro v w5 ⟨rfl, he, hm⟩; have HE5 := Lib.hid he; have HM5 := Lib.hid (HM2.out.trans hm); clear he hm) | fail)
            all_goals
              go_wp2_with fail
              go_meet
              show EmR _ e L m1.insOne ∧ _
              rw [e1]
              exact ⟨HE5.out, HM5.out⟩
        case rest =>
          have HE3 := Lib.hid hcut.out.1
          have HM3 := Lib.hid hcut.out.2
          clear hcut HE2 HM2 c47 c24 c25 HS
          generalize m1.insOne = m2 at *
          obtain ⟨w3, hw3⟩ : ∃ w3, w3 = wc := ⟨_, rfl⟩
          rw [← hw3] at HE3 HM3 ⊢
          clear hw3
          have c24 := (HE3.out.cell 2 24 rfl _ rfl).1
          have c25 := (HE3.out.cell 3 25 rfl _ rfl).1
          have c26 := (HE3.out.cell 4 26 rfl _ rfl).1
          have c27 := (HE3.out.cell 5 27 rfl _ rfl).1
          have c28 := (HE3.out.cell 6 28 rfl _ rfl).1
          have c29 := (HE3.out.cell 7 29 rfl _ rfl).1
          have c30 := (HE3.out.cell 8 30 rfl _ rfl).1
          have HT := Lib.hid (HE3.out.setOneK R)
          have helt := HE3.out.elt
          go_upto_region 8 with fail
          go_cut [] from 57 to 76 (fun wx => Hid (EmR wx e L (m2.setOne R) ∧ Mv e L L w wx))
          case first =>
            go_region_law (first | (go_simp; go_at_call 34; refine (HT.out _ (by first | exact Keep.refl _ _ | exact (Keep.refl _ _).drew | exact (Keep.refl _ _).drewN _)).mono ?_; rintro v w4 ⟨rfl, he, hm⟩; have HE4 := Lib.hid he; have HM4 := Lib.hid (HM3.out.trans hm); clear he hm) | fail)
            all_goals
              go_wp2_with fail
              go_meet
              exact ⟨HE4.out, HM4.out⟩
          case rest =>
            have HE4 := Lib.hid hcut.out.1
            have HM4 := Lib.hid hcut.out.2
            clear hcut HE3 HM3 c24 c25 c26 c27 c28 c29 c30 HT helt
            generalize m2.setOne R = m3 at *
            obtain ⟨w4, hw4⟩ : ∃ w4, w4 = wc := ⟨_, rfl⟩
            rw [← hw4] at HE4 HM4 ⊢
            clear hw4
            have hok := HE4.out.ok
            have hx := hok.x
            have w40 := hok.w40
            have c24 := (HE4.out.cell 2 24 rfl _ rfl).1
            have c25 := (HE4.out.cell 3 25 rfl _ rfl).1
            have HW : Hid (∀ k, Calls Tryz.prog 24 #[.pointer (some ⟨L.sh.1, 0, none⟩)] (w4.drewN k) fun v w' => v = .returned (.int .i64 (m3.W : Int)) ∧ w' = w4.drewN k) := Lib.hid (fun k => grid_W _ _ _ _ _ _ _ _ (HE4.out.drewN k).shown)
            have hwx : IntKind.i64.wrap ((m3.st.x : Int) + 1) = (m3.st.x : Int) + 1 := IntWalk.i64_in _ (by omega)
            have HX : Hid (((m3.st.x : Int) == (m3.W : Int) - 1) = decide (m3.st.x + 1 = m3.W)) := Lib.hid (by
              rw [Bool.eq_iff_iff]; simp; omega)
            have HGO : Hid (∀ V, Keep (fun _ => False) w4 V → Calls Tryz.prog 25 #[.pointer (some ⟨e, 0, none⟩), .int .i64 ((m3.st.x : Int) + 1), .int .i64 (m3.st.y : Int)] V fun v w' => v = .returned (.tuple #[]) ∧ EmR w' e L (m3.goTo ((m3.st.x : Int) + 1) m3.st.y) ∧ Mv e L L w w') := Lib.hid (fun V k => (emu_goTo V e L m3 _ _ (HE4.out.quiet k)).mono fun v w' ⟨a, b, c⟩ => ⟨a, b, (HM4.out.quiet HE4.out.elt k).trans c⟩)
            clear hok
            go_upto_region 9 with fail
            go_cut [5] from 77 to 85 (fun v wx => v = .bool (decide (m3.st.x + 1 = m3.W)) ∧ ∃ k, wx = w4.drewN k)
            case first =>
              go_quiet ((go_at_call 24; exact Calls.quiet_of_same (HW.out _)))
              go_wp2_with fail
              go_meet
              exact ⟨congrArg Value.bool HX.out, _, rfl⟩
            case rest =>
              obtain ⟨rfl, k, hk⟩ := hcut
              rw [hk]
              clear hk
              generalize hIL : decide (m3.st.x + 1 = m3.W) = IL at *
              have HIL := Lib.hid hIL
              clear hIL HX
              go_upto_region 10 with fail
              go_region_law (first | (go_simp; go_at_call 25; refine (HGO.out _ (by first | exact (Keep.refl _ _).drewN _ | exact ((Keep.refl _ _).drewN _).drew | exact ((Keep.refl _ _).drewN _).drewN _)).mono ?_; rintro v w5 ⟨rfl, he, hm⟩; have HE5 := Lib.hid he; have HM5 := Lib.hid hm; clear he hm) | fail)
              all_goals
                have d48 := (HE5.out.cell 26 48 rfl _ rfl).1
                have d46 := (HE5.out.cell 24 46 rfl _ rfl).1
                have f46 := (HE5.out.cell 24 46 rfl _ rfl).2
                have e9 : (m3.goTo ((m3.st.x : Int) + 1) m3.st.y).wrap = m3.wrap := rfl
                have HF := Lib.hid (fun b => HE5.out.lateTo b)
                cases hb : IL
                · have hfin : m3.after = { m3.goTo ((m3.st.x : Int) + 1) m3.st.y with late := false } := by unfold EmM.after; rw [HIL.out, hb]; rfl
                  go_wp2_with fail
                  go_end0
                  refine ⟨rfl, ?_, ?_⟩
                  · rw [HPR.out, hfin]; exact (HF.out _).1
                  · exact HM5.out.trans (HF.out _).2
                · have hfin : m3.after = { m3.goTo ((m3.st.x : Int) + 1) m3.st.y with late := m3.wrap } := by unfold EmM.after; rw [HIL.out, hb]; rfl
                  go_wp2_with fail
                  go_end0
                  refine ⟨rfl, ?_, ?_⟩
                  · rw [HPR.out, hfin]; exact (HF.out _).1
                  · exact HM5.out.trans (HF.out _).2

end Go.Proofs.YtnminmaklbhakaaGreatDoor
