/- emu: move. By program (rgn/XEmuD.py). Own work. -/
import Derived.Test.YtnminmaklbhakaaGreatDoorEmuP
namespace Go.Proofs.YtnminmaklbhakaaGreatDoor
set_option linter.unusedVariables false
set_option linter.unusedSimpArgs false
open Go.RowKit

set_option maxRecDepth 100000 in
set_option maxHeartbeats 3200000 in
theorem emu_move (w : World) (e : Nat) (L : Loc) (m : EmM) (b n k : Nat) (hb : b = 65 ∨ b = 66 ∨ b = 67 ∨ b = 68 ∨ b = 69 ∨ b = 70 ∨ b = 71 ∨ b = 72 ∨ b = 100 ∨ b = 102) (hn : n ≤ 9999) (hk : k ≤ 9999) (h : EmR w e L m) :
    Calls Tryz.prog 96 #[.pointer (some ⟨e, 0, none⟩), .int .i64 (b : Int), .int .i64 (n : Int), .int .i64 (k : Int)] w fun v w' => v = .returned (.tuple #[]) ∧ EmR w' e L (m.move b n k) ∧ Mv e L L w w' := by
  have HE := Lib.hid h
  have hok := h.ok
  have hx := hok.x; have hy := hok.y; have w40 := hok.w40; have h20 := hok.h20
  have c24 := (h.cell 2 24 rfl _ rfl).1
  have c25 := (h.cell 3 25 rfl _ rfl).1
  have hw1 : IntKind.i64.wrap ((m.st.x : Int) + (n : Int)) = (m.st.x : Int) + (n : Int) := IntWalk.i64_in _ (by omega)
  have hw2 : IntKind.i64.wrap ((m.st.x : Int) - (n : Int)) = (m.st.x : Int) - (n : Int) := IntWalk.i64_in _ (by omega)
  have hw3 : IntKind.i64.wrap ((n : Int) - 1) = (n : Int) - 1 := IntWalk.i64_in _ (by omega)
  have hw4 : IntKind.i64.wrap ((k : Int) - 1) = (k : Int) - 1 := IntWalk.i64_in _ (by omega)
  have HA : Hid (∀ V, Keep (fun _ => False) w V → Calls Tryz.prog 121 #[.pointer (some ⟨e, 0, none⟩), .int .i64 (n : Int)] V fun v w' => v = .returned (.int .i64 (m.above n)) ∧ ∃ k, w' = V.drewN k) := Lib.hid (fun V k => emu_above V e L m n hn (HE.out.quiet k))
  have HB : Hid (∀ V, Keep (fun _ => False) w V → Calls Tryz.prog 122 #[.pointer (some ⟨e, 0, none⟩), .int .i64 (n : Int)] V fun v w' => v = .returned (.int .i64 (m.below n)) ∧ ∃ k, w' = V.drewN k) := Lib.hid (fun V k => emu_below V e L m n hn (HE.out.quiet k))
  have HR : Hid (∀ V, Keep (fun _ => False) w V → Calls Tryz.prog 123 #[.pointer (some ⟨e, 0, none⟩), .int .i64 (n : Int)] V fun v w' => v = .returned (.int .i64 (m.row n)) ∧ ∃ k, w' = V.drewN k) := Lib.hid (fun V k => emu_row V e L m n hn (HE.out.quiet k))
  rcases hb with rfl | rfl | rfl | rfl | rfl | rfl | rfl | rfl | rfl | rfl
  · have e1 : m.move 65 n k = m.goTo ((m.st.x : Int)) (m.above n) := rfl
    rw [e1]
    clear h hok e1
    show Calls _ _ #[_, .int .i64 65, _, _] _ _
    have HG : Hid (∀ V, Keep (fun _ => False) w V → Calls Tryz.prog 25 #[.pointer (some ⟨e, 0, none⟩), .int .i64 ((m.st.x : Int)), .int .i64 (m.above n)] V fun v w' => v = .returned (.tuple #[]) ∧ EmR w' e L (m.goTo ((m.st.x : Int)) (m.above n)) ∧ Mv e L L w w') := Lib.hid (fun V k => (emu_goTo V e L m _ _ (HE.out.quiet k)).mono fun v w' ⟨a, b, c⟩ => ⟨a, b, ((Mv.refl e L w).quiet HE.out.elt k).trans c⟩)
    generalize m.above n = Y at *
    go_enter Tryz.func96, Tryz.ntmps96
    go_wp2_with (fail)
    go_region_law (first | (go_simp; go_at_call 121; refine (HA.out _ (by first | exact Keep.refl _ _ | exact (Keep.refl _ _).drew | exact (Keep.refl _ _).drewN _ | exact ((Keep.refl _ _).drew).drewN _ | exact ((Keep.refl _ _).drewN _).drewN _ | exact ((Keep.refl _ _).drewN _).drew)).mono ?_; rintro v w4 ⟨rfl, kk, hw4⟩; rw [hw4]; clear hw4) | (go_simp; go_at_call 25; refine (HG.out _ (by first | exact Keep.refl _ _ | exact (Keep.refl _ _).drew | exact (Keep.refl _ _).drewN _ | exact ((Keep.refl _ _).drew).drewN _ | exact ((Keep.refl _ _).drewN _).drewN _ | exact ((Keep.refl _ _).drewN _).drew)).mono ?_; rintro v w5 ⟨rfl, he, hm⟩; have HE5 := Lib.hid he; have HM5 := Lib.hid hm; clear he hm) | fail)
    all_goals
      go_wp2_with fail
      go_end0
      exact ⟨rfl, HE5.out, HM5.out⟩
  · have e1 : m.move 66 n k = m.goTo ((m.st.x : Int)) (m.below n) := rfl
    rw [e1]
    clear h hok e1
    show Calls _ _ #[_, .int .i64 66, _, _] _ _
    have HG : Hid (∀ V, Keep (fun _ => False) w V → Calls Tryz.prog 25 #[.pointer (some ⟨e, 0, none⟩), .int .i64 ((m.st.x : Int)), .int .i64 (m.below n)] V fun v w' => v = .returned (.tuple #[]) ∧ EmR w' e L (m.goTo ((m.st.x : Int)) (m.below n)) ∧ Mv e L L w w') := Lib.hid (fun V k => (emu_goTo V e L m _ _ (HE.out.quiet k)).mono fun v w' ⟨a, b, c⟩ => ⟨a, b, ((Mv.refl e L w).quiet HE.out.elt k).trans c⟩)
    generalize m.below n = Y at *
    go_enter Tryz.func96, Tryz.ntmps96
    go_wp2_with (fail)
    go_region_law (first | (go_simp; go_at_call 122; refine (HB.out _ (by first | exact Keep.refl _ _ | exact (Keep.refl _ _).drew | exact (Keep.refl _ _).drewN _ | exact ((Keep.refl _ _).drew).drewN _ | exact ((Keep.refl _ _).drewN _).drewN _ | exact ((Keep.refl _ _).drewN _).drew)).mono ?_; rintro v w4 ⟨rfl, kk, hw4⟩; rw [hw4]; clear hw4) | (go_simp; go_at_call 25; refine (HG.out _ (by first | exact Keep.refl _ _ | exact (Keep.refl _ _).drew | exact (Keep.refl _ _).drewN _ | exact ((Keep.refl _ _).drew).drewN _ | exact ((Keep.refl _ _).drewN _).drewN _ | exact ((Keep.refl _ _).drewN _).drew)).mono ?_; rintro v w5 ⟨rfl, he, hm⟩; have HE5 := Lib.hid he; have HM5 := Lib.hid hm; clear he hm) | fail)
    all_goals
      go_wp2_with fail
      go_end0
      exact ⟨rfl, HE5.out, HM5.out⟩
  · have e1 : m.move 67 n k = m.goTo ((m.st.x : Int) + (n : Int)) ((m.st.y : Int)) := rfl
    rw [e1]
    clear h hok e1
    show Calls _ _ #[_, .int .i64 67, _, _] _ _
    have HG : Hid (∀ V, Keep (fun _ => False) w V → Calls Tryz.prog 25 #[.pointer (some ⟨e, 0, none⟩), .int .i64 ((m.st.x : Int) + (n : Int)), .int .i64 ((m.st.y : Int))] V fun v w' => v = .returned (.tuple #[]) ∧ EmR w' e L (m.goTo ((m.st.x : Int) + (n : Int)) ((m.st.y : Int))) ∧ Mv e L L w w') := Lib.hid (fun V k => (emu_goTo V e L m _ _ (HE.out.quiet k)).mono fun v w' ⟨a, b, c⟩ => ⟨a, b, ((Mv.refl e L w).quiet HE.out.elt k).trans c⟩)
    go_enter Tryz.func96, Tryz.ntmps96
    go_wp2_with (fail)
    go_region_law (first | (go_simp; go_at_call 25; refine (HG.out _ (by first | exact Keep.refl _ _ | exact (Keep.refl _ _).drew | exact (Keep.refl _ _).drewN _ | exact ((Keep.refl _ _).drew).drewN _ | exact ((Keep.refl _ _).drewN _).drewN _ | exact ((Keep.refl _ _).drewN _).drew)).mono ?_; rintro v w5 ⟨rfl, he, hm⟩; have HE5 := Lib.hid he; have HM5 := Lib.hid hm; clear he hm) | fail)
    all_goals
      go_wp2_with fail
      go_end0
      exact ⟨rfl, HE5.out, HM5.out⟩
  · have e1 : m.move 68 n k = m.goTo ((m.st.x : Int) - (n : Int)) ((m.st.y : Int)) := rfl
    rw [e1]
    clear h hok e1
    show Calls _ _ #[_, .int .i64 68, _, _] _ _
    have HG : Hid (∀ V, Keep (fun _ => False) w V → Calls Tryz.prog 25 #[.pointer (some ⟨e, 0, none⟩), .int .i64 ((m.st.x : Int) - (n : Int)), .int .i64 ((m.st.y : Int))] V fun v w' => v = .returned (.tuple #[]) ∧ EmR w' e L (m.goTo ((m.st.x : Int) - (n : Int)) ((m.st.y : Int))) ∧ Mv e L L w w') := Lib.hid (fun V k => (emu_goTo V e L m _ _ (HE.out.quiet k)).mono fun v w' ⟨a, b, c⟩ => ⟨a, b, ((Mv.refl e L w).quiet HE.out.elt k).trans c⟩)
    go_enter Tryz.func96, Tryz.ntmps96
    go_wp2_with (fail)
    go_region_law (first | (go_simp; go_at_call 25; refine (HG.out _ (by first | exact Keep.refl _ _ | exact (Keep.refl _ _).drew | exact (Keep.refl _ _).drewN _ | exact ((Keep.refl _ _).drew).drewN _ | exact ((Keep.refl _ _).drewN _).drewN _ | exact ((Keep.refl _ _).drewN _).drew)).mono ?_; rintro v w5 ⟨rfl, he, hm⟩; have HE5 := Lib.hid he; have HM5 := Lib.hid hm; clear he hm) | fail)
    all_goals
      go_wp2_with fail
      go_end0
      exact ⟨rfl, HE5.out, HM5.out⟩
  · have e1 : m.move 69 n k = m.goTo (0) (m.below n) := rfl
    rw [e1]
    clear h hok e1
    show Calls _ _ #[_, .int .i64 69, _, _] _ _
    have HG : Hid (∀ V, Keep (fun _ => False) w V → Calls Tryz.prog 25 #[.pointer (some ⟨e, 0, none⟩), .int .i64 (0), .int .i64 (m.below n)] V fun v w' => v = .returned (.tuple #[]) ∧ EmR w' e L (m.goTo (0) (m.below n)) ∧ Mv e L L w w') := Lib.hid (fun V k => (emu_goTo V e L m _ _ (HE.out.quiet k)).mono fun v w' ⟨a, b, c⟩ => ⟨a, b, ((Mv.refl e L w).quiet HE.out.elt k).trans c⟩)
    generalize m.below n = Y at *
    go_enter Tryz.func96, Tryz.ntmps96
    go_wp2_with (fail)
    refine (HB.out _ (Keep.refl _ _)).mono ?_
    rintro v w4 ⟨rfl, kk, hw4⟩
    rw [hw4]
    clear hw4
    go_wp2_with fail
    refine (HG.out _ ((Keep.refl _ w).drewN kk)).mono ?_
    rintro v w5 ⟨rfl, he, hm⟩
    have HE5 := Lib.hid he
    have HM5 := Lib.hid hm
    clear he hm
    go_wp2_with fail
    go_end0
    exact ⟨rfl, HE5.out, HM5.out⟩
  · have e1 : m.move 70 n k = m.goTo (0) (m.above n) := rfl
    rw [e1]
    clear h hok e1
    show Calls _ _ #[_, .int .i64 70, _, _] _ _
    have HG : Hid (∀ V, Keep (fun _ => False) w V → Calls Tryz.prog 25 #[.pointer (some ⟨e, 0, none⟩), .int .i64 (0), .int .i64 (m.above n)] V fun v w' => v = .returned (.tuple #[]) ∧ EmR w' e L (m.goTo (0) (m.above n)) ∧ Mv e L L w w') := Lib.hid (fun V k => (emu_goTo V e L m _ _ (HE.out.quiet k)).mono fun v w' ⟨a, b, c⟩ => ⟨a, b, ((Mv.refl e L w).quiet HE.out.elt k).trans c⟩)
    generalize m.above n = Y at *
    go_enter Tryz.func96, Tryz.ntmps96
    go_wp2_with (fail)
    refine (HA.out _ (Keep.refl _ _)).mono ?_
    rintro v w4 ⟨rfl, kk, hw4⟩
    rw [hw4]
    clear hw4
    go_wp2_with fail
    refine (HG.out _ ((Keep.refl _ w).drewN kk)).mono ?_
    rintro v w5 ⟨rfl, he, hm⟩
    have HE5 := Lib.hid he
    have HM5 := Lib.hid hm
    clear he hm
    go_wp2_with fail
    go_end0
    exact ⟨rfl, HE5.out, HM5.out⟩
  · have e1 : m.move 71 n k = m.goTo ((n : Int) - 1) ((m.st.y : Int)) := rfl
    rw [e1]
    clear h hok e1
    show Calls _ _ #[_, .int .i64 71, _, _] _ _
    have HG : Hid (∀ V, Keep (fun _ => False) w V → Calls Tryz.prog 25 #[.pointer (some ⟨e, 0, none⟩), .int .i64 ((n : Int) - 1), .int .i64 ((m.st.y : Int))] V fun v w' => v = .returned (.tuple #[]) ∧ EmR w' e L (m.goTo ((n : Int) - 1) ((m.st.y : Int))) ∧ Mv e L L w w') := Lib.hid (fun V k => (emu_goTo V e L m _ _ (HE.out.quiet k)).mono fun v w' ⟨a, b, c⟩ => ⟨a, b, ((Mv.refl e L w).quiet HE.out.elt k).trans c⟩)
    go_enter Tryz.func96, Tryz.ntmps96
    go_wp2_with (fail)
    refine (HG.out _ (Keep.refl _ _)).mono ?_
    rintro v w5 ⟨rfl, he, hm⟩
    have HE5 := Lib.hid he
    have HM5 := Lib.hid hm
    clear he hm
    go_wp2_with fail
    go_end0
    exact ⟨rfl, HE5.out, HM5.out⟩
  · have e1 : m.move 72 n k = m.goTo ((k : Int) - 1) (m.row n) := rfl
    rw [e1]
    clear h hok e1
    show Calls _ _ #[_, .int .i64 72, _, _] _ _
    have HG : Hid (∀ V, Keep (fun _ => False) w V → Calls Tryz.prog 25 #[.pointer (some ⟨e, 0, none⟩), .int .i64 ((k : Int) - 1), .int .i64 (m.row n)] V fun v w' => v = .returned (.tuple #[]) ∧ EmR w' e L (m.goTo ((k : Int) - 1) (m.row n)) ∧ Mv e L L w w') := Lib.hid (fun V k => (emu_goTo V e L m _ _ (HE.out.quiet k)).mono fun v w' ⟨a, b, c⟩ => ⟨a, b, ((Mv.refl e L w).quiet HE.out.elt k).trans c⟩)
    generalize m.row n = Y at *
    go_enter Tryz.func96, Tryz.ntmps96
    go_wp2_with (fail)
    refine (HR.out _ (Keep.refl _ _)).mono ?_
    rintro v w4 ⟨rfl, kk, hw4⟩
    rw [hw4]
    clear hw4
    go_wp2_with fail
    refine (HG.out _ ((Keep.refl _ w).drewN kk)).mono ?_
    rintro v w5 ⟨rfl, he, hm⟩
    have HE5 := Lib.hid he
    have HM5 := Lib.hid hm
    clear he hm
    go_wp2_with fail
    go_end0
    exact ⟨rfl, HE5.out, HM5.out⟩
  · have e1 : m.move 100 n k = m.goTo ((m.st.x : Int)) (m.row n) := rfl
    rw [e1]
    clear h hok e1
    show Calls _ _ #[_, .int .i64 100, _, _] _ _
    have HG : Hid (∀ V, Keep (fun _ => False) w V → Calls Tryz.prog 25 #[.pointer (some ⟨e, 0, none⟩), .int .i64 ((m.st.x : Int)), .int .i64 (m.row n)] V fun v w' => v = .returned (.tuple #[]) ∧ EmR w' e L (m.goTo ((m.st.x : Int)) (m.row n)) ∧ Mv e L L w w') := Lib.hid (fun V k => (emu_goTo V e L m _ _ (HE.out.quiet k)).mono fun v w' ⟨a, b, c⟩ => ⟨a, b, ((Mv.refl e L w).quiet HE.out.elt k).trans c⟩)
    generalize m.row n = Y at *
    go_enter Tryz.func96, Tryz.ntmps96
    go_wp2_with (fail)
    go_region_law (first | (go_simp; go_at_call 123; refine (HR.out _ (by first | exact Keep.refl _ _ | exact (Keep.refl _ _).drew | exact (Keep.refl _ _).drewN _ | exact ((Keep.refl _ _).drew).drewN _ | exact ((Keep.refl _ _).drewN _).drewN _ | exact ((Keep.refl _ _).drewN _).drew)).mono ?_; rintro v w4 ⟨rfl, kk, hw4⟩; rw [hw4]; clear hw4) | (go_simp; go_at_call 25; refine (HG.out _ (by first | exact Keep.refl _ _ | exact (Keep.refl _ _).drew | exact (Keep.refl _ _).drewN _ | exact ((Keep.refl _ _).drew).drewN _ | exact ((Keep.refl _ _).drewN _).drewN _ | exact ((Keep.refl _ _).drewN _).drew)).mono ?_; rintro v w5 ⟨rfl, he, hm⟩; have HE5 := Lib.hid he; have HM5 := Lib.hid hm; clear he hm) | fail)
    all_goals
      go_wp2_with fail
      go_end0
      exact ⟨rfl, HE5.out, HM5.out⟩
  · have e1 : m.move 102 n k = m.goTo ((k : Int) - 1) (m.row n) := rfl
    rw [e1]
    clear h hok e1
    show Calls _ _ #[_, .int .i64 102, _, _] _ _
    have HG : Hid (∀ V, Keep (fun _ => False) w V → Calls Tryz.prog 25 #[.pointer (some ⟨e, 0, none⟩), .int .i64 ((k : Int) - 1), .int .i64 (m.row n)] V fun v w' => v = .returned (.tuple #[]) ∧ EmR w' e L (m.goTo ((k : Int) - 1) (m.row n)) ∧ Mv e L L w w') := Lib.hid (fun V k => (emu_goTo V e L m _ _ (HE.out.quiet k)).mono fun v w' ⟨a, b, c⟩ => ⟨a, b, ((Mv.refl e L w).quiet HE.out.elt k).trans c⟩)
    generalize m.row n = Y at *
    go_enter Tryz.func96, Tryz.ntmps96
    go_wp2_with (fail)
    refine (HR.out _ (Keep.refl _ _)).mono ?_
    rintro v w4 ⟨rfl, kk, hw4⟩
    rw [hw4]
    clear hw4
    go_wp2_with fail
    refine (HG.out _ ((Keep.refl _ w).drewN kk)).mono ?_
    rintro v w5 ⟨rfl, he, hm⟩
    have HE5 := Lib.hid he
    have HM5 := Lib.hid hm
    clear he hm
    go_wp2_with fail
    go_end0
    exact ⟨rfl, HE5.out, HM5.out⟩

end Go.Proofs.YtnminmaklbhakaaGreatDoor
