/- emu: control, choose. By program (rgn/XEmuD.py). Own work. -/
import Derived.Test.YtnminmaklbhakaaGreatDoorEmuP
namespace Go.Proofs.YtnminmaklbhakaaGreatDoor
set_option linter.unusedVariables false
set_option linter.unusedSimpArgs false
open Go.RowKit

theorem EmR.use {w : World} {e : Nat} {L : Loc} {m : EmM} (h : EmR w e L m) (u : Nat) (hu : u < 2) : EmR (w.setCell ⟨e, 34, none⟩ (.int .i64 (u : Int))) e L { m with st := { m.st with use := u } } ∧ Mv e L L w (w.setCell ⟨e, 34, none⟩ (.int .i64 (u : Int))) :=
  ⟨⟨h.g.set 34 (by omega) _, h.cs.set 12 (by rw [m.cs_len]; omega) _ rfl, h.ok.inUse u hu⟩, (Mv.refl e L w).set 34 (by omega) _⟩
theorem nextL_le (l : List Bool) (x : Int) (hl : l.length ≤ 40) : 0 ≤ nextL l x ∧ nextL l x ≤ 40 := by
  have : ∀ (r : List Bool) (n : Int) (k : Nat), 0 ≤ n → n ≤ 40 → k + r.length ≤ 40 → 0 ≤ nextR x n k r ∧ nextR x n k r ≤ 40 := by
    intro r
    induction r with
    | nil => intro n k h1 h2 h3; simp only [nextR]; omega
    | cons b r ih =>
      intro n k h1 h2 h3
      simp only [List.length_cons] at h3
      unfold nextR
      split
      · omega
      · exact ih n (k + 1) h1 h2 (by omega)
  exact this l l.length 0 (by omega) (by omega) (by omega)

set_option maxRecDepth 100000 in
set_option maxHeartbeats 3200000 in
theorem emu_control (w : World) (e : Nat) (L : Loc) (m : EmM) (b : Nat) (hb : b < 256) (h : EmR w e L m) :
    Calls Tryz.prog 52 #[.pointer (some ⟨e, 0, none⟩), .int .i64 (b : Int)] w fun v w' => v = .returned (.tuple #[]) ∧ EmR w' e L (m.control b) ∧ Mv e L L w w' := by
  have HE := Lib.hid h
  have hok := h.ok
  have hx := hok.x; have hy := hok.y; have w40 := hok.w40; have h20 := hok.h20
  have c21 := h.g.ct.1
  have c24 := (h.cell 2 24 rfl _ rfl).1
  have c25 := (h.cell 3 25 rfl _ rfl).1
  have c34 := (h.cell 12 34 rfl _ rfl).1
  have f34 := (h.cell 12 34 rfl _ rfl).2
  have hw1 : IntKind.i64.wrap ((m.st.x : Int) - 1) = (m.st.x : Int) - 1 := IntWalk.i64_in _ (by omega)
  by_cases h8 : b = 8
  · subst h8
    have e1 : m.control 8 = m.goTo ((m.st.x : Int) - 1) (m.st.y : Int) := rfl
    rw [e1]
    clear h hok hb e1
    show Calls _ _ #[_, .int .i64 8] _ _
    have HG : Hid (∀ V, Keep (fun _ => False) w V → Calls Tryz.prog 25 #[.pointer (some ⟨e, 0, none⟩), .int .i64 ((m.st.x : Int) - 1), .int .i64 ((m.st.y : Int))] V fun v w' => v = .returned (.tuple #[]) ∧ EmR w' e L (m.goTo ((m.st.x : Int) - 1) ((m.st.y : Int))) ∧ Mv e L L w w') := Lib.hid (fun V k => (emu_goTo V e L m _ _ (HE.out.quiet k)).mono fun v w' ⟨a, b, c⟩ => ⟨a, b, ((Mv.refl e L w).quiet HE.out.elt k).trans c⟩)
    go_enter Tryz.func52, Tryz.ntmps52
    go_wp2_with fail
    go_region_law (first | (go_simp; go_at_call 25; refine (HG.out _ (by first | exact Keep.refl _ _ | exact (Keep.refl _ _).drew | exact (Keep.refl _ _).drewN _)).mono ?_; rintro v w5 ⟨rfl, he, hm⟩; have HE5 := Lib.hid he; have HM5 := Lib.hid hm; clear he hm) | fail)
    all_goals
      go_wp2_with fail
      go_end0
      exact ⟨rfl, HE5.out, HM5.out⟩
  by_cases h9 : b = 9
  · subst h9
    have e1 : m.control 9 = m.goTo (nextL m.stops (m.st.x : Int)) (m.st.y : Int) := rfl
    rw [e1]
    clear h hok hb e1
    show Calls _ _ #[_, .int .i64 9] _ _
    have HG : Hid (∀ V, Keep (fun _ => False) w V → Calls Tryz.prog 25 #[.pointer (some ⟨e, 0, none⟩), .int .i64 (nextL m.stops (m.st.x : Int)), .int .i64 ((m.st.y : Int))] V fun v w' => v = .returned (.tuple #[]) ∧ EmR w' e L (m.goTo (nextL m.stops (m.st.x : Int)) ((m.st.y : Int))) ∧ Mv e L L w w') := Lib.hid (fun V k => (emu_goTo V e L m _ _ (HE.out.quiet k)).mono fun v w' ⟨a, b, c⟩ => ⟨a, b, ((Mv.refl e L w).quiet HE.out.elt k).trans c⟩)
    have HN : Hid (∀ V, Keep (fun _ => False) w V → Calls Tryz.prog 69 #[.pointer (some ⟨L.sp, 0, none⟩), .int .i64 (m.st.x : Int)] V fun v w' => v = .returned (.int .i64 (nextL m.stops m.st.x)) ∧ w' = V) := Lib.hid (fun V k => chart_next V _ _ _ _ _ _ (HE.out.quiet k).g.sp)
    generalize nextL m.stops (m.st.x : Int) = NX at *
    go_enter Tryz.func52, Tryz.ntmps52
    go_wp2_with fail
    go_region_law (first | (go_simp; go_at_call 69; refine (HN.out _ (by first | exact Keep.refl _ _ | exact (Keep.refl _ _).drew | exact (Keep.refl _ _).drewN _)).mono ?_; rintro v w4 ⟨rfl, hw4⟩; rw [hw4]; clear hw4) | (go_simp; go_at_call 25; refine (HG.out _ (by first | exact Keep.refl _ _ | exact (Keep.refl _ _).drew | exact (Keep.refl _ _).drewN _)).mono ?_; rintro v w5 ⟨rfl, he, hm⟩; have HE5 := Lib.hid he; have HM5 := Lib.hid hm; clear he hm) | fail)
    all_goals
      go_wp2_with fail
      go_end0
      exact ⟨rfl, HE5.out, HM5.out⟩
  by_cases h10 : b = 10
  · subst h10
    have e1 : m.control 10 = m.index := rfl
    rw [e1]
    clear h hok hb e1
    show Calls _ _ #[_, .int .i64 10] _ _
    go_enter Tryz.func52, Tryz.ntmps52
    go_wp2_with fail
    refine (emu_index _ e L m HE.out).mono ?_
    rintro v w5 ⟨rfl, he, hm⟩
    have HE5 := Lib.hid he
    have HM5 := Lib.hid hm
    clear he hm
    go_wp2_with fail
    go_end0
    exact ⟨rfl, HE5.out, HM5.out⟩
  by_cases h11 : b = 11
  · subst h11
    have e1 : m.control 11 = m.index := rfl
    rw [e1]
    clear h hok hb e1
    show Calls _ _ #[_, .int .i64 11] _ _
    go_enter Tryz.func52, Tryz.ntmps52
    go_wp2_with fail
    refine (emu_index _ e L m HE.out).mono ?_
    rintro v w5 ⟨rfl, he, hm⟩
    have HE5 := Lib.hid he
    have HM5 := Lib.hid hm
    clear he hm
    go_wp2_with fail
    go_end0
    exact ⟨rfl, HE5.out, HM5.out⟩
  by_cases h12 : b = 12
  · subst h12
    have e1 : m.control 12 = m.index := rfl
    rw [e1]
    clear h hok hb e1
    show Calls _ _ #[_, .int .i64 12] _ _
    go_enter Tryz.func52, Tryz.ntmps52
    go_wp2_with fail
    refine (emu_index _ e L m HE.out).mono ?_
    rintro v w5 ⟨rfl, he, hm⟩
    have HE5 := Lib.hid he
    have HM5 := Lib.hid hm
    clear he hm
    go_wp2_with fail
    go_end0
    exact ⟨rfl, HE5.out, HM5.out⟩
  by_cases h13 : b = 13
  · subst h13
    have e1 : m.control 13 = m.goTo 0 m.st.y := rfl
    rw [e1]
    clear h hok hb e1
    show Calls _ _ #[_, .int .i64 13] _ _
    go_enter Tryz.func52, Tryz.ntmps52
    go_wp2_with fail
    refine (emu_goTo _ e L m _ _ HE.out).mono ?_
    rintro v w5 ⟨rfl, he, hm⟩
    have HE5 := Lib.hid he
    have HM5 := Lib.hid hm
    clear he hm
    go_wp2_with fail
    go_end0
    exact ⟨rfl, HE5.out, HM5.out⟩
  by_cases h14 : b = 14
  · subst h14
    have e1 : m.control 14 = { m with st := { m.st with use := 1 } } := rfl
    rw [e1]
    clear h hok hb e1
    show Calls _ _ #[_, .int .i64 14] _ _
    have HF := Lib.hid (HE.out.use 1 (by omega))
    go_enter Tryz.func52, Tryz.ntmps52
    go_wp2_with fail
    go_end0
    exact ⟨rfl, HF.out.1, HF.out.2⟩
  by_cases h15 : b = 15
  · subst h15
    have e1 : m.control 15 = { m with st := { m.st with use := 0 } } := rfl
    rw [e1]
    clear h hok hb e1
    show Calls _ _ #[_, .int .i64 15] _ _
    have HF := Lib.hid (HE.out.use 0 (by omega))
    go_enter Tryz.func52, Tryz.ntmps52
    go_wp2_with fail
    go_end0
    exact ⟨rfl, HF.out.1, HF.out.2⟩
  have e1 : m.control b = m := by unfold EmM.control; rw [if_neg h8, if_neg h9, if_neg (by omega), if_neg h13, if_neg h14, if_neg h15]
  rw [e1]
  have t8 : ((b : Int) == 8) = false := by simp; omega
  have t9 : ((b : Int) == 9) = false := by simp; omega
  have t10 : ((b : Int) == 10) = false := by simp; omega
  have t11 : ((b : Int) == 11) = false := by simp; omega
  have t12 : ((b : Int) == 12) = false := by simp; omega
  have t13 : ((b : Int) == 13) = false := by simp; omega
  have t14 : ((b : Int) == 14) = false := by simp; omega
  have t15 : ((b : Int) == 15) = false := by simp; omega
  clear h hok e1
  go_enter Tryz.func52, Tryz.ntmps52
  go_wp2_with fail
  go_end0
  exact ⟨rfl, HE.out, Mv.refl _ _ _⟩

theorem EmR.g0 {w : World} {e : Nat} {L : Loc} {m : EmM} (h : EmR w e L m) (b : Nat) (ok : (m.choose 0 b).Ok) (hk : knownM b = true ∧ b < 256) : EmR (w.setCell ⟨e, 32, none⟩ (.int .u8 (b : Int))) e L (m.choose 0 b) ∧ Mv e L L w (w.setCell ⟨e, 32, none⟩ (.int .u8 (b : Int))) := by
  have e1 : m.choose 0 b = { m with st := { m.st with s0 := b } } := by unfold EmM.choose; rw [if_pos hk]; rfl
  rw [e1] at ok ⊢
  exact ⟨⟨h.g.set 32 (by omega) _, h.cs.set 10 (by rw [m.cs_len]; omega) _ rfl, ok⟩, (Mv.refl e L w).set 32 (by omega) _⟩
theorem EmR.g1 {w : World} {e : Nat} {L : Loc} {m : EmM} (h : EmR w e L m) (b : Nat) (ok : (m.choose 1 b).Ok) (hk : knownM b = true ∧ b < 256) : EmR (w.setCell ⟨e, 33, none⟩ (.int .u8 (b : Int))) e L (m.choose 1 b) ∧ Mv e L L w (w.setCell ⟨e, 33, none⟩ (.int .u8 (b : Int))) := by
  have e1 : m.choose 1 b = { m with st := { m.st with s1 := b } } := by unfold EmM.choose; rw [if_pos hk]; rfl
  rw [e1] at ok ⊢
  exact ⟨⟨h.g.set 33 (by omega) _, h.cs.set 11 (by rw [m.cs_len]; omega) _ rfl, ok⟩, (Mv.refl e L w).set 33 (by omega) _⟩

set_option maxHeartbeats 1600000 in
theorem emu_choose0 (w : World) (e : Nat) (L : Loc) (m : EmM) (b : Nat) (hb : b < 256) (h : EmR w e L m) :
    Calls Tryz.prog 71 #[.pointer (some ⟨e, 0, none⟩), .int .i64 0, .int .i64 (b : Int)] w fun v w' => v = .returned (.tuple #[]) ∧ EmR w' e L (m.choose 0 b) ∧ Mv e L L w w' := by
  have HE := Lib.hid h
  have c32 := (h.cell 10 32 rfl _ rfl).1
  have f32 := (h.cell 10 32 rfl _ rfl).2
  have hwb : IntKind.u8.wrap (b : Int) = (b : Int) := by rw [IntKind.wrap_u8']; omega
  have hwi : IntKind.i64.wrap (b : Int) = (b : Int) := IntWalk.i64_in _ (by omega)
  have HKN := Lib.hid (fun V => chart_known V (b : Int))
  by_cases hk : knownM (b : Int) = true
  · have HF := Lib.hid (h.g0 b (h.ok.choose 0 b) ⟨hk, hb⟩)
    rw [hk] at HKN
    generalize m.choose 0 b = m2 at *
    clear h hk
    go_enter Tryz.func71, Tryz.ntmps71
    go_wp2_with ((refine (HKN.out _).mono ?_; rintro v w1 ⟨rfl, hw1⟩; rw [hw1]; clear hw1))
    go_end0
    exact ⟨rfl, HF.out⟩
  · have e1 : m.choose 0 b = m := by unfold EmM.choose; rw [if_neg (fun x => hk x.1)]
    rw [e1]
    rw [Bool.not_eq_true] at hk
    rw [hk] at HKN
    clear h hk e1
    go_enter Tryz.func71, Tryz.ntmps71
    go_wp2_with ((refine (HKN.out _).mono ?_; rintro v w1 ⟨rfl, hw1⟩; rw [hw1]; clear hw1))
    go_end0
    exact ⟨rfl, HE.out, Mv.refl _ _ _⟩

set_option maxHeartbeats 1600000 in
theorem emu_choose1 (w : World) (e : Nat) (L : Loc) (m : EmM) (b : Nat) (hb : b < 256) (h : EmR w e L m) :
    Calls Tryz.prog 71 #[.pointer (some ⟨e, 0, none⟩), .int .i64 1, .int .i64 (b : Int)] w fun v w' => v = .returned (.tuple #[]) ∧ EmR w' e L (m.choose 1 b) ∧ Mv e L L w w' := by
  have HE := Lib.hid h
  have c32 := (h.cell 11 33 rfl _ rfl).1
  have f32 := (h.cell 11 33 rfl _ rfl).2
  have hwb : IntKind.u8.wrap (b : Int) = (b : Int) := by rw [IntKind.wrap_u8']; omega
  have hwi : IntKind.i64.wrap (b : Int) = (b : Int) := IntWalk.i64_in _ (by omega)
  have HKN := Lib.hid (fun V => chart_known V (b : Int))
  by_cases hk : knownM (b : Int) = true
  · have HF := Lib.hid (h.g1 b (h.ok.choose 1 b) ⟨hk, hb⟩)
    rw [hk] at HKN
    generalize m.choose 1 b = m2 at *
    clear h hk
    go_enter Tryz.func71, Tryz.ntmps71
    go_wp2_with ((refine (HKN.out _).mono ?_; rintro v w1 ⟨rfl, hw1⟩; rw [hw1]; clear hw1))
    go_end0
    exact ⟨rfl, HF.out⟩
  · have e1 : m.choose 1 b = m := by unfold EmM.choose; rw [if_neg (fun x => hk x.1)]
    rw [e1]
    rw [Bool.not_eq_true] at hk
    rw [hk] at HKN
    clear h hk e1
    go_enter Tryz.func71, Tryz.ntmps71
    go_wp2_with ((refine (HKN.out _).mono ?_; rintro v w1 ⟨rfl, hw1⟩; rw [hw1]; clear hw1))
    go_end0
    exact ⟨rfl, HE.out, Mv.refl _ _ _⟩

end Go.Proofs.YtnminmaklbhakaaGreatDoor
