/- emu: unmarked. By program (rgn/XEmuU.py). Own work. -/
import Derived.Test.YtnminmaklbhakaaGreatDoorEmuKs
import Derived.Test.YtnminmaklbhakaaGreatDoorEmuE
import Derived.Test.YtnminmaklbhakaaGreatDoorEmuF
import Derived.Test.YtnminmaklbhakaaGreatDoorEmuI
import Derived.Test.YtnminmaklbhakaaGreatDoorEmuHs
import Derived.Test.YtnminmaklbhakaaGreatDoorCellSs
namespace Go.Proofs.YtnminmaklbhakaaGreatDoor
set_option linter.unusedVariables false
set_option linter.unusedSimpArgs false
open Go.RowKit

theorem EmR.penTo {w : World} {e : Nat} {L : Loc} {m : EmM} (h : EmR w e L m) (a : At) (ha : a.ok) :
    EmR (((((w.setCell ⟨e, 26, none⟩ (.int .i64 a.fg)).setCell ⟨e, 27, none⟩ (.int .i64 a.bg)).setCell ⟨e, 28, none⟩ (.bool a.b)).setCell ⟨e, 29, none⟩ (.bool a.u)).setCell ⟨e, 30, none⟩ (.bool a.i)) e L { m with st := { m.st with pen := a } } ∧ Mv e L L w (((((w.setCell ⟨e, 26, none⟩ (.int .i64 a.fg)).setCell ⟨e, 27, none⟩ (.int .i64 a.bg)).setCell ⟨e, 28, none⟩ (.bool a.b)).setCell ⟨e, 29, none⟩ (.bool a.u)).setCell ⟨e, 30, none⟩ (.bool a.i)) :=
  ⟨⟨((((h.g.set 26 (by omega) _).set 27 (by omega) _).set 28 (by omega) _).set 29 (by omega) _).set 30 (by omega) _,
    ((((h.cs.set 4 (by rw [m.cs_len]; omega) _ rfl).set 5 (by rw [List.length_set, m.cs_len]; omega) _ rfl).set 6 (by rw [List.length_set, List.length_set, m.cs_len]; omega) _ rfl).set 7 (by rw [List.length_set, List.length_set, List.length_set, m.cs_len]; omega) _ rfl).set 8 (by rw [List.length_set, List.length_set, List.length_set, List.length_set, m.cs_len]; omega) _ rfl,
    ⟨h.ok.w2, h.ok.w40, h.ok.h1, h.ok.h20, h.ok.sl, h.ok.tb, h.ok.bh, h.ok.x, h.ok.y, h.ok.sx, h.ok.sy, h.ok.a0, h.ok.a1, h.ok.b0, h.ok.b1, h.ok.u, h.ok.v, ha, h.ok.r⟩⟩,
   (((((Mv.refl e L w).set 26 (by omega) _).set 27 (by omega) _).set 28 (by omega) _).set 29 (by omega) _).set 30 (by omega) _⟩

/-- Numbers that are handed over. -/
structure NumsIn (w : World) (e : Nat) (L : Loc) (A : Option Addr) (n c : Nat) (xs : List Int) : Prop where
  src : Src w A n (xs.map (Value.int .i64))
  far : 0 < n → ∀ b, blk A = some b → ¬ L.T e b ∧ b < w.heap.size
  le : n ≤ 100000
  cap : n ≤ c
  bd : ∀ x ∈ xs, -1 ≤ x ∧ x ≤ 9999

def UnTo (e : Nat) (L : Loc) (w : World) (x : EmM × List Nat) (v : Ending) (w' : World) : Prop := v = .returned (.string (bytesN x.2)) ∧ ∃ L', EmR w' e L' x.1 ∧ Mv e L L' w w'

set_option maxRecDepth 100000 in
set_option maxHeartbeats 3200000 in
theorem unmarked_1 (w : World) (e : Nat) (L : Loc) (m : EmM) (b : Nat) (A : Option Addr) (n c : Nat) (xs : List Int) (hb : b = 65 ∨ b = 66 ∨ b = 67 ∨ b = 68 ∨ b = 69 ∨ b = 70 ∨ b = 71 ∨ b = 72 ∨ b = 100 ∨ b = 102) (h : EmR w e L m) (hn : NumsIn w e L A n c xs) :
    Calls Tryz.prog 72 #[.pointer (some ⟨e, 0, none⟩), .int .i64 (b : Int), .slice A n c] w (UnTo e L w (m.unmarked b xs)) := by
  have HE := Lib.hid h
  have HA0 := Lib.hid (emu_at A n c xs 0 w hn.src (by have := hn.le; omega) (by omega))
  have HA1 := Lib.hid (emu_at A n c xs 1 w hn.src (by have := hn.le; omega) (by omega))
  have HC0 := Lib.hid (emu_count A n c xs 0 w hn.src (by have := hn.le; omega) (by omega))
  have HC1 := Lib.hid (emu_count A n c xs 1 w hn.src (by have := hn.le; omega) (by omega))
  have hc0 := count_le xs 0
  have hc1 := count_le xs 1
  have ha0 := numAt_le xs 0
  have ha1 := numAt_le xs 1
  have HN := Lib.hid hn
  clear hn
  rcases hb with rfl | rfl | rfl | rfl | rfl | rfl | rfl | rfl | rfl | rfl
  · have E1 : Hid (m.unmarked 65 xs = (m.move 65 (EmM.count xs 0) (EmM.count xs 1), [])) := Lib.hid rfl
    clear h
    show Calls _ _ #[_, .int .i64 65, _] _ _
    generalize EmM.count xs 0 = C0 at *
    generalize EmM.count xs 1 = C1 at *
    generalize EmM.numAt xs 0 = N0 at *
    generalize EmM.numAt xs 1 = N1 at *
    go_enter Tryz.func72, Tryz.ntmps72
    go_wp2_with fail
    refine HC0.out.mono ?_
    rintro v w4 ⟨rfl, hw4⟩
    rw [hw4]
    clear hw4
    go_wp2_with fail
    refine HC1.out.mono ?_
    rintro v w4 ⟨rfl, hw4⟩
    rw [hw4]
    clear hw4
    go_wp2_with fail
    refine (emu_move _ e L m 65 C0 C1 (by simp) (by omega) (by omega) HE.out).mono ?_
    rintro v w5 ⟨rfl, he, hm⟩
    have HE5 := Lib.hid he
    have HM5 := Lib.hid hm
    clear he hm
    go_wp2_with fail
    go_ret
    exact ⟨by rw [E1.out]; rfl, L, by rw [E1.out]; exact HE5.out, HM5.out⟩
  · have E1 : Hid (m.unmarked 66 xs = (m.move 66 (EmM.count xs 0) (EmM.count xs 1), [])) := Lib.hid rfl
    clear h
    show Calls _ _ #[_, .int .i64 66, _] _ _
    generalize EmM.count xs 0 = C0 at *
    generalize EmM.count xs 1 = C1 at *
    generalize EmM.numAt xs 0 = N0 at *
    generalize EmM.numAt xs 1 = N1 at *
    go_enter Tryz.func72, Tryz.ntmps72
    go_wp2_with fail
    refine HC0.out.mono ?_
    rintro v w4 ⟨rfl, hw4⟩
    rw [hw4]
    clear hw4
    go_wp2_with fail
    refine HC1.out.mono ?_
    rintro v w4 ⟨rfl, hw4⟩
    rw [hw4]
    clear hw4
    go_wp2_with fail
    refine (emu_move _ e L m 66 C0 C1 (by simp) (by omega) (by omega) HE.out).mono ?_
    rintro v w5 ⟨rfl, he, hm⟩
    have HE5 := Lib.hid he
    have HM5 := Lib.hid hm
    clear he hm
    go_wp2_with fail
    go_ret
    exact ⟨by rw [E1.out]; rfl, L, by rw [E1.out]; exact HE5.out, HM5.out⟩
  · have E1 : Hid (m.unmarked 67 xs = (m.move 67 (EmM.count xs 0) (EmM.count xs 1), [])) := Lib.hid rfl
    clear h
    show Calls _ _ #[_, .int .i64 67, _] _ _
    generalize EmM.count xs 0 = C0 at *
    generalize EmM.count xs 1 = C1 at *
    generalize EmM.numAt xs 0 = N0 at *
    generalize EmM.numAt xs 1 = N1 at *
    go_enter Tryz.func72, Tryz.ntmps72
    go_wp2_with fail
    refine HC0.out.mono ?_
    rintro v w4 ⟨rfl, hw4⟩
    rw [hw4]
    clear hw4
    go_wp2_with fail
    refine HC1.out.mono ?_
    rintro v w4 ⟨rfl, hw4⟩
    rw [hw4]
    clear hw4
    go_wp2_with fail
    refine (emu_move _ e L m 67 C0 C1 (by simp) (by omega) (by omega) HE.out).mono ?_
    rintro v w5 ⟨rfl, he, hm⟩
    have HE5 := Lib.hid he
    have HM5 := Lib.hid hm
    clear he hm
    go_wp2_with fail
    go_ret
    exact ⟨by rw [E1.out]; rfl, L, by rw [E1.out]; exact HE5.out, HM5.out⟩
  · have E1 : Hid (m.unmarked 68 xs = (m.move 68 (EmM.count xs 0) (EmM.count xs 1), [])) := Lib.hid rfl
    clear h
    show Calls _ _ #[_, .int .i64 68, _] _ _
    generalize EmM.count xs 0 = C0 at *
    generalize EmM.count xs 1 = C1 at *
    generalize EmM.numAt xs 0 = N0 at *
    generalize EmM.numAt xs 1 = N1 at *
    go_enter Tryz.func72, Tryz.ntmps72
    go_wp2_with fail
    refine HC0.out.mono ?_
    rintro v w4 ⟨rfl, hw4⟩
    rw [hw4]
    clear hw4
    go_wp2_with fail
    refine HC1.out.mono ?_
    rintro v w4 ⟨rfl, hw4⟩
    rw [hw4]
    clear hw4
    go_wp2_with fail
    refine (emu_move _ e L m 68 C0 C1 (by simp) (by omega) (by omega) HE.out).mono ?_
    rintro v w5 ⟨rfl, he, hm⟩
    have HE5 := Lib.hid he
    have HM5 := Lib.hid hm
    clear he hm
    go_wp2_with fail
    go_ret
    exact ⟨by rw [E1.out]; rfl, L, by rw [E1.out]; exact HE5.out, HM5.out⟩
  · have E1 : Hid (m.unmarked 69 xs = (m.move 69 (EmM.count xs 0) (EmM.count xs 1), [])) := Lib.hid rfl
    clear h
    show Calls _ _ #[_, .int .i64 69, _] _ _
    generalize EmM.count xs 0 = C0 at *
    generalize EmM.count xs 1 = C1 at *
    generalize EmM.numAt xs 0 = N0 at *
    generalize EmM.numAt xs 1 = N1 at *
    go_enter Tryz.func72, Tryz.ntmps72
    go_wp2_with fail
    refine HC0.out.mono ?_
    rintro v w4 ⟨rfl, hw4⟩
    rw [hw4]
    clear hw4
    go_wp2_with fail
    refine HC1.out.mono ?_
    rintro v w4 ⟨rfl, hw4⟩
    rw [hw4]
    clear hw4
    go_wp2_with fail
    refine (emu_move _ e L m 69 C0 C1 (by simp) (by omega) (by omega) HE.out).mono ?_
    rintro v w5 ⟨rfl, he, hm⟩
    have HE5 := Lib.hid he
    have HM5 := Lib.hid hm
    clear he hm
    go_wp2_with fail
    go_ret
    exact ⟨by rw [E1.out]; rfl, L, by rw [E1.out]; exact HE5.out, HM5.out⟩
  · have E1 : Hid (m.unmarked 70 xs = (m.move 70 (EmM.count xs 0) (EmM.count xs 1), [])) := Lib.hid rfl
    clear h
    show Calls _ _ #[_, .int .i64 70, _] _ _
    generalize EmM.count xs 0 = C0 at *
    generalize EmM.count xs 1 = C1 at *
    generalize EmM.numAt xs 0 = N0 at *
    generalize EmM.numAt xs 1 = N1 at *
    go_enter Tryz.func72, Tryz.ntmps72
    go_wp2_with fail
    refine HC0.out.mono ?_
    rintro v w4 ⟨rfl, hw4⟩
    rw [hw4]
    clear hw4
    go_wp2_with fail
    refine HC1.out.mono ?_
    rintro v w4 ⟨rfl, hw4⟩
    rw [hw4]
    clear hw4
    go_wp2_with fail
    refine (emu_move _ e L m 70 C0 C1 (by simp) (by omega) (by omega) HE.out).mono ?_
    rintro v w5 ⟨rfl, he, hm⟩
    have HE5 := Lib.hid he
    have HM5 := Lib.hid hm
    clear he hm
    go_wp2_with fail
    go_ret
    exact ⟨by rw [E1.out]; rfl, L, by rw [E1.out]; exact HE5.out, HM5.out⟩
  · have E1 : Hid (m.unmarked 71 xs = (m.move 71 (EmM.count xs 0) (EmM.count xs 1), [])) := Lib.hid rfl
    clear h
    show Calls _ _ #[_, .int .i64 71, _] _ _
    generalize EmM.count xs 0 = C0 at *
    generalize EmM.count xs 1 = C1 at *
    generalize EmM.numAt xs 0 = N0 at *
    generalize EmM.numAt xs 1 = N1 at *
    go_enter Tryz.func72, Tryz.ntmps72
    go_wp2_with fail
    refine HC0.out.mono ?_
    rintro v w4 ⟨rfl, hw4⟩
    rw [hw4]
    clear hw4
    go_wp2_with fail
    refine HC1.out.mono ?_
    rintro v w4 ⟨rfl, hw4⟩
    rw [hw4]
    clear hw4
    go_wp2_with fail
    refine (emu_move _ e L m 71 C0 C1 (by simp) (by omega) (by omega) HE.out).mono ?_
    rintro v w5 ⟨rfl, he, hm⟩
    have HE5 := Lib.hid he
    have HM5 := Lib.hid hm
    clear he hm
    go_wp2_with fail
    go_ret
    exact ⟨by rw [E1.out]; rfl, L, by rw [E1.out]; exact HE5.out, HM5.out⟩
  · have E1 : Hid (m.unmarked 72 xs = (m.move 72 (EmM.count xs 0) (EmM.count xs 1), [])) := Lib.hid rfl
    clear h
    show Calls _ _ #[_, .int .i64 72, _] _ _
    generalize EmM.count xs 0 = C0 at *
    generalize EmM.count xs 1 = C1 at *
    generalize EmM.numAt xs 0 = N0 at *
    generalize EmM.numAt xs 1 = N1 at *
    go_enter Tryz.func72, Tryz.ntmps72
    go_wp2_with fail
    refine HC0.out.mono ?_
    rintro v w4 ⟨rfl, hw4⟩
    rw [hw4]
    clear hw4
    go_wp2_with fail
    refine HC1.out.mono ?_
    rintro v w4 ⟨rfl, hw4⟩
    rw [hw4]
    clear hw4
    go_wp2_with fail
    refine (emu_move _ e L m 72 C0 C1 (by simp) (by omega) (by omega) HE.out).mono ?_
    rintro v w5 ⟨rfl, he, hm⟩
    have HE5 := Lib.hid he
    have HM5 := Lib.hid hm
    clear he hm
    go_wp2_with fail
    go_ret
    exact ⟨by rw [E1.out]; rfl, L, by rw [E1.out]; exact HE5.out, HM5.out⟩
  · have E1 : Hid (m.unmarked 100 xs = (m.move 100 (EmM.count xs 0) (EmM.count xs 1), [])) := Lib.hid rfl
    clear h
    show Calls _ _ #[_, .int .i64 100, _] _ _
    generalize EmM.count xs 0 = C0 at *
    generalize EmM.count xs 1 = C1 at *
    generalize EmM.numAt xs 0 = N0 at *
    generalize EmM.numAt xs 1 = N1 at *
    go_enter Tryz.func72, Tryz.ntmps72
    go_wp2_with fail
    refine HC0.out.mono ?_
    rintro v w4 ⟨rfl, hw4⟩
    rw [hw4]
    clear hw4
    go_wp2_with fail
    refine HC1.out.mono ?_
    rintro v w4 ⟨rfl, hw4⟩
    rw [hw4]
    clear hw4
    go_wp2_with fail
    refine (emu_move _ e L m 100 C0 C1 (by simp) (by omega) (by omega) HE.out).mono ?_
    rintro v w5 ⟨rfl, he, hm⟩
    have HE5 := Lib.hid he
    have HM5 := Lib.hid hm
    clear he hm
    go_wp2_with fail
    go_ret
    exact ⟨by rw [E1.out]; rfl, L, by rw [E1.out]; exact HE5.out, HM5.out⟩
  · have E1 : Hid (m.unmarked 102 xs = (m.move 102 (EmM.count xs 0) (EmM.count xs 1), [])) := Lib.hid rfl
    clear h
    show Calls _ _ #[_, .int .i64 102, _] _ _
    generalize EmM.count xs 0 = C0 at *
    generalize EmM.count xs 1 = C1 at *
    generalize EmM.numAt xs 0 = N0 at *
    generalize EmM.numAt xs 1 = N1 at *
    go_enter Tryz.func72, Tryz.ntmps72
    go_wp2_with fail
    refine HC0.out.mono ?_
    rintro v w4 ⟨rfl, hw4⟩
    rw [hw4]
    clear hw4
    go_wp2_with fail
    refine HC1.out.mono ?_
    rintro v w4 ⟨rfl, hw4⟩
    rw [hw4]
    clear hw4
    go_wp2_with fail
    refine (emu_move _ e L m 102 C0 C1 (by simp) (by omega) (by omega) HE.out).mono ?_
    rintro v w5 ⟨rfl, he, hm⟩
    have HE5 := Lib.hid he
    have HM5 := Lib.hid hm
    clear he hm
    go_wp2_with fail
    go_ret
    exact ⟨by rw [E1.out]; rfl, L, by rw [E1.out]; exact HE5.out, HM5.out⟩

set_option maxRecDepth 100000 in
set_option maxHeartbeats 3200000 in
theorem unmarked_2 (w : World) (e : Nat) (L : Loc) (m : EmM) (b : Nat) (A : Option Addr) (n c : Nat) (xs : List Int) (hb : b = 74 ∨ b = 75) (h : EmR w e L m) (hn : NumsIn w e L A n c xs) :
    Calls Tryz.prog 72 #[.pointer (some ⟨e, 0, none⟩), .int .i64 (b : Int), .slice A n c] w (UnTo e L w (m.unmarked b xs)) := by
  have HE := Lib.hid h
  have HA0 := Lib.hid (emu_at A n c xs 0 w hn.src (by have := hn.le; omega) (by omega))
  have HA1 := Lib.hid (emu_at A n c xs 1 w hn.src (by have := hn.le; omega) (by omega))
  have HC0 := Lib.hid (emu_count A n c xs 0 w hn.src (by have := hn.le; omega) (by omega))
  have HC1 := Lib.hid (emu_count A n c xs 1 w hn.src (by have := hn.le; omega) (by omega))
  have hc0 := count_le xs 0
  have hc1 := count_le xs 1
  have ha0 := numAt_le xs 0
  have ha1 := numAt_le xs 1
  have HN := Lib.hid hn
  clear hn
  rcases hb with rfl | rfl
  · have E1 : Hid (m.unmarked 74 xs = (m.erase 74 (EmM.numAt xs 0), [])) := Lib.hid rfl
    clear h
    show Calls _ _ #[_, .int .i64 74, _] _ _
    generalize EmM.count xs 0 = C0 at *
    generalize EmM.count xs 1 = C1 at *
    generalize EmM.numAt xs 0 = N0 at *
    generalize EmM.numAt xs 1 = N1 at *
    go_enter Tryz.func72, Tryz.ntmps72
    go_wp2_with fail
    refine HA0.out.mono ?_
    rintro v w4 ⟨rfl, hw4⟩
    rw [hw4]
    clear hw4
    go_wp2_with fail
    refine (emu_erase _ e L m 74 N0 (by simp) (by omega) HE.out).mono ?_
    rintro v w5 ⟨rfl, he, hm⟩
    have HE5 := Lib.hid he
    have HM5 := Lib.hid hm
    clear he hm
    go_wp2_with fail
    go_ret
    exact ⟨by rw [E1.out]; rfl, L, by rw [E1.out]; exact HE5.out, HM5.out⟩
  · have E1 : Hid (m.unmarked 75 xs = (m.erase 75 (EmM.numAt xs 0), [])) := Lib.hid rfl
    clear h
    show Calls _ _ #[_, .int .i64 75, _] _ _
    generalize EmM.count xs 0 = C0 at *
    generalize EmM.count xs 1 = C1 at *
    generalize EmM.numAt xs 0 = N0 at *
    generalize EmM.numAt xs 1 = N1 at *
    go_enter Tryz.func72, Tryz.ntmps72
    go_wp2_with fail
    refine HA0.out.mono ?_
    rintro v w4 ⟨rfl, hw4⟩
    rw [hw4]
    clear hw4
    go_wp2_with fail
    refine (emu_erase _ e L m 75 N0 (by simp) (by omega) HE.out).mono ?_
    rintro v w5 ⟨rfl, he, hm⟩
    have HE5 := Lib.hid he
    have HM5 := Lib.hid hm
    clear he hm
    go_wp2_with fail
    go_ret
    exact ⟨by rw [E1.out]; rfl, L, by rw [E1.out]; exact HE5.out, HM5.out⟩

set_option maxRecDepth 100000 in
set_option maxHeartbeats 3200000 in
theorem unmarked_3 (w : World) (e : Nat) (L : Loc) (m : EmM) (b : Nat) (A : Option Addr) (n c : Nat) (xs : List Int) (hb : b = 88 ∨ b = 64 ∨ b = 80 ∨ b = 83 ∨ b = 84) (h : EmR w e L m) (hn : NumsIn w e L A n c xs) :
    Calls Tryz.prog 72 #[.pointer (some ⟨e, 0, none⟩), .int .i64 (b : Int), .slice A n c] w (UnTo e L w (m.unmarked b xs)) := by
  have HE := Lib.hid h
  have HA0 := Lib.hid (emu_at A n c xs 0 w hn.src (by have := hn.le; omega) (by omega))
  have HA1 := Lib.hid (emu_at A n c xs 1 w hn.src (by have := hn.le; omega) (by omega))
  have HC0 := Lib.hid (emu_count A n c xs 0 w hn.src (by have := hn.le; omega) (by omega))
  have HC1 := Lib.hid (emu_count A n c xs 1 w hn.src (by have := hn.le; omega) (by omega))
  have hc0 := count_le xs 0
  have hc1 := count_le xs 1
  have ha0 := numAt_le xs 0
  have ha1 := numAt_le xs 1
  have HN := Lib.hid hn
  clear hn
  rcases hb with rfl | rfl | rfl | rfl | rfl
  · have E1 : Hid (m.unmarked 88 xs = (m.edit 88 (EmM.count xs 0), [])) := Lib.hid rfl
    clear h
    show Calls _ _ #[_, .int .i64 88, _] _ _
    generalize EmM.count xs 0 = C0 at *
    generalize EmM.count xs 1 = C1 at *
    generalize EmM.numAt xs 0 = N0 at *
    generalize EmM.numAt xs 1 = N1 at *
    go_enter Tryz.func72, Tryz.ntmps72
    go_wp2_with fail
    refine HC0.out.mono ?_
    rintro v w4 ⟨rfl, hw4⟩
    rw [hw4]
    clear hw4
    go_wp2_with fail
    refine (emu_edit _ e L m 88 C0 (by simp) (by omega) HE.out).mono ?_
    rintro v w5 ⟨rfl, he, hm⟩
    have HE5 := Lib.hid he
    have HM5 := Lib.hid hm
    clear he hm
    go_wp2_with fail
    go_ret
    exact ⟨by rw [E1.out]; rfl, L, by rw [E1.out]; exact HE5.out, HM5.out⟩
  · have E1 : Hid (m.unmarked 64 xs = (m.edit 64 (EmM.count xs 0), [])) := Lib.hid rfl
    clear h
    show Calls _ _ #[_, .int .i64 64, _] _ _
    generalize EmM.count xs 0 = C0 at *
    generalize EmM.count xs 1 = C1 at *
    generalize EmM.numAt xs 0 = N0 at *
    generalize EmM.numAt xs 1 = N1 at *
    go_enter Tryz.func72, Tryz.ntmps72
    go_wp2_with fail
    refine HC0.out.mono ?_
    rintro v w4 ⟨rfl, hw4⟩
    rw [hw4]
    clear hw4
    go_wp2_with fail
    refine (emu_edit _ e L m 64 C0 (by simp) (by omega) HE.out).mono ?_
    rintro v w5 ⟨rfl, he, hm⟩
    have HE5 := Lib.hid he
    have HM5 := Lib.hid hm
    clear he hm
    go_wp2_with fail
    go_ret
    exact ⟨by rw [E1.out]; rfl, L, by rw [E1.out]; exact HE5.out, HM5.out⟩
  · have E1 : Hid (m.unmarked 80 xs = (m.edit 80 (EmM.count xs 0), [])) := Lib.hid rfl
    clear h
    show Calls _ _ #[_, .int .i64 80, _] _ _
    generalize EmM.count xs 0 = C0 at *
    generalize EmM.count xs 1 = C1 at *
    generalize EmM.numAt xs 0 = N0 at *
    generalize EmM.numAt xs 1 = N1 at *
    go_enter Tryz.func72, Tryz.ntmps72
    go_wp2_with fail
    refine HC0.out.mono ?_
    rintro v w4 ⟨rfl, hw4⟩
    rw [hw4]
    clear hw4
    go_wp2_with fail
    refine (emu_edit _ e L m 80 C0 (by simp) (by omega) HE.out).mono ?_
    rintro v w5 ⟨rfl, he, hm⟩
    have HE5 := Lib.hid he
    have HM5 := Lib.hid hm
    clear he hm
    go_wp2_with fail
    go_ret
    exact ⟨by rw [E1.out]; rfl, L, by rw [E1.out]; exact HE5.out, HM5.out⟩
  · have E1 : Hid (m.unmarked 83 xs = (m.edit 83 (EmM.count xs 0), [])) := Lib.hid rfl
    clear h
    show Calls _ _ #[_, .int .i64 83, _] _ _
    generalize EmM.count xs 0 = C0 at *
    generalize EmM.count xs 1 = C1 at *
    generalize EmM.numAt xs 0 = N0 at *
    generalize EmM.numAt xs 1 = N1 at *
    go_enter Tryz.func72, Tryz.ntmps72
    go_wp2_with fail
    refine HC0.out.mono ?_
    rintro v w4 ⟨rfl, hw4⟩
    rw [hw4]
    clear hw4
    go_wp2_with fail
    refine (emu_edit _ e L m 83 C0 (by simp) (by omega) HE.out).mono ?_
    rintro v w5 ⟨rfl, he, hm⟩
    have HE5 := Lib.hid he
    have HM5 := Lib.hid hm
    clear he hm
    go_wp2_with fail
    go_ret
    exact ⟨by rw [E1.out]; rfl, L, by rw [E1.out]; exact HE5.out, HM5.out⟩
  · have E1 : Hid (m.unmarked 84 xs = (m.edit 84 (EmM.count xs 0), [])) := Lib.hid rfl
    clear h
    show Calls _ _ #[_, .int .i64 84, _] _ _
    generalize EmM.count xs 0 = C0 at *
    generalize EmM.count xs 1 = C1 at *
    generalize EmM.numAt xs 0 = N0 at *
    generalize EmM.numAt xs 1 = N1 at *
    go_enter Tryz.func72, Tryz.ntmps72
    go_wp2_with fail
    refine HC0.out.mono ?_
    rintro v w4 ⟨rfl, hw4⟩
    rw [hw4]
    clear hw4
    go_wp2_with fail
    refine (emu_edit _ e L m 84 C0 (by simp) (by omega) HE.out).mono ?_
    rintro v w5 ⟨rfl, he, hm⟩
    have HE5 := Lib.hid he
    have HM5 := Lib.hid hm
    clear he hm
    go_wp2_with fail
    go_ret
    exact ⟨by rw [E1.out]; rfl, L, by rw [E1.out]; exact HE5.out, HM5.out⟩

set_option maxRecDepth 100000 in
set_option maxHeartbeats 3200000 in
theorem unmarked_4 (w : World) (e : Nat) (L : Loc) (m : EmM) (b : Nat) (A : Option Addr) (n c : Nat) (xs : List Int) (hb : b = 76 ∨ b = 77) (h : EmR w e L m) (hn : NumsIn w e L A n c xs) :
    Calls Tryz.prog 72 #[.pointer (some ⟨e, 0, none⟩), .int .i64 (b : Int), .slice A n c] w (UnTo e L w (m.unmarked b xs)) := by
  have HE := Lib.hid h
  have HA0 := Lib.hid (emu_at A n c xs 0 w hn.src (by have := hn.le; omega) (by omega))
  have HA1 := Lib.hid (emu_at A n c xs 1 w hn.src (by have := hn.le; omega) (by omega))
  have HC0 := Lib.hid (emu_count A n c xs 0 w hn.src (by have := hn.le; omega) (by omega))
  have HC1 := Lib.hid (emu_count A n c xs 1 w hn.src (by have := hn.le; omega) (by omega))
  have hc0 := count_le xs 0
  have hc1 := count_le xs 1
  have ha0 := numAt_le xs 0
  have ha1 := numAt_le xs 1
  have HN := Lib.hid hn
  clear hn
  rcases hb with rfl | rfl
  · have E1 : Hid (m.unmarked 76 xs = (m.moveRows 76 (EmM.count xs 0), [])) := Lib.hid rfl
    clear h
    show Calls _ _ #[_, .int .i64 76, _] _ _
    generalize EmM.count xs 0 = C0 at *
    generalize EmM.count xs 1 = C1 at *
    generalize EmM.numAt xs 0 = N0 at *
    generalize EmM.numAt xs 1 = N1 at *
    go_enter Tryz.func72, Tryz.ntmps72
    go_wp2_with fail
    refine HC0.out.mono ?_
    rintro v w4 ⟨rfl, hw4⟩
    rw [hw4]
    clear hw4
    go_wp2_with fail
    refine (emu_moveRows _ e L m 76 C0 (by simp) (by omega) HE.out).mono ?_
    rintro v w5 ⟨rfl, he, hm⟩
    have HE5 := Lib.hid he
    have HM5 := Lib.hid hm
    clear he hm
    go_wp2_with fail
    go_ret
    exact ⟨by rw [E1.out]; rfl, L, by rw [E1.out]; exact HE5.out, HM5.out⟩
  · have E1 : Hid (m.unmarked 77 xs = (m.moveRows 77 (EmM.count xs 0), [])) := Lib.hid rfl
    clear h
    show Calls _ _ #[_, .int .i64 77, _] _ _
    generalize EmM.count xs 0 = C0 at *
    generalize EmM.count xs 1 = C1 at *
    generalize EmM.numAt xs 0 = N0 at *
    generalize EmM.numAt xs 1 = N1 at *
    go_enter Tryz.func72, Tryz.ntmps72
    go_wp2_with fail
    refine HC0.out.mono ?_
    rintro v w4 ⟨rfl, hw4⟩
    rw [hw4]
    clear hw4
    go_wp2_with fail
    refine (emu_moveRows _ e L m 77 C0 (by simp) (by omega) HE.out).mono ?_
    rintro v w5 ⟨rfl, he, hm⟩
    have HE5 := Lib.hid he
    have HM5 := Lib.hid hm
    clear he hm
    go_wp2_with fail
    go_ret
    exact ⟨by rw [E1.out]; rfl, L, by rw [E1.out]; exact HE5.out, HM5.out⟩

set_option maxRecDepth 100000 in
set_option maxHeartbeats 3200000 in
theorem unmarked_5 (w : World) (e : Nat) (L : Loc) (m : EmM) (b : Nat) (A : Option Addr) (n c : Nat) (xs : List Int) (hb : b = 103) (h : EmR w e L m) (hn : NumsIn w e L A n c xs) :
    Calls Tryz.prog 72 #[.pointer (some ⟨e, 0, none⟩), .int .i64 (b : Int), .slice A n c] w (UnTo e L w (m.unmarked b xs)) := by
  have HE := Lib.hid h
  have HA0 := Lib.hid (emu_at A n c xs 0 w hn.src (by have := hn.le; omega) (by omega))
  have HA1 := Lib.hid (emu_at A n c xs 1 w hn.src (by have := hn.le; omega) (by omega))
  have HC0 := Lib.hid (emu_count A n c xs 0 w hn.src (by have := hn.le; omega) (by omega))
  have HC1 := Lib.hid (emu_count A n c xs 1 w hn.src (by have := hn.le; omega) (by omega))
  have hc0 := count_le xs 0
  have hc1 := count_le xs 1
  have ha0 := numAt_le xs 0
  have ha1 := numAt_le xs 1
  have HN := Lib.hid hn
  clear hn
  subst hb
  · have E1 : Hid (m.unmarked 103 xs = (m.clearStops (EmM.numAt xs 0), [])) := Lib.hid rfl
    clear h
    show Calls _ _ #[_, .int .i64 103, _] _ _
    generalize EmM.count xs 0 = C0 at *
    generalize EmM.count xs 1 = C1 at *
    generalize EmM.numAt xs 0 = N0 at *
    generalize EmM.numAt xs 1 = N1 at *
    go_enter Tryz.func72, Tryz.ntmps72
    go_wp2_with fail
    refine HA0.out.mono ?_
    rintro v w4 ⟨rfl, hw4⟩
    rw [hw4]
    clear hw4
    go_wp2_with fail
    refine (emu_clearStops _ e L m N0 (by omega) HE.out).mono ?_
    rintro v w5 ⟨rfl, he, hm⟩
    have HE5 := Lib.hid he
    have HM5 := Lib.hid hm
    clear he hm
    go_wp2_with fail
    go_ret
    exact ⟨by rw [E1.out]; rfl, L, by rw [E1.out]; exact HE5.out, HM5.out⟩

set_option maxRecDepth 100000 in
set_option maxHeartbeats 3200000 in
theorem unmarked_6 (w : World) (e : Nat) (L : Loc) (m : EmM) (b : Nat) (A : Option Addr) (n c : Nat) (xs : List Int) (hb : b = 114) (h : EmR w e L m) (hn : NumsIn w e L A n c xs) :
    Calls Tryz.prog 72 #[.pointer (some ⟨e, 0, none⟩), .int .i64 (b : Int), .slice A n c] w (UnTo e L w (m.unmarked b xs)) := by
  have HE := Lib.hid h
  have HA0 := Lib.hid (emu_at A n c xs 0 w hn.src (by have := hn.le; omega) (by omega))
  have HA1 := Lib.hid (emu_at A n c xs 1 w hn.src (by have := hn.le; omega) (by omega))
  have HC0 := Lib.hid (emu_count A n c xs 0 w hn.src (by have := hn.le; omega) (by omega))
  have HC1 := Lib.hid (emu_count A n c xs 1 w hn.src (by have := hn.le; omega) (by omega))
  have hc0 := count_le xs 0
  have hc1 := count_le xs 1
  have ha0 := numAt_le xs 0
  have ha1 := numAt_le xs 1
  have HN := Lib.hid hn
  clear hn
  subst hb
  · have E1 : Hid (m.unmarked 114 xs = (m.limit (EmM.count xs 0 - 1) (EmM.numAt xs 1), [])) := Lib.hid rfl
    clear h
    show Calls _ _ #[_, .int .i64 114, _] _ _
    have hsub : ((EmM.count xs 0 - 1 : Nat) : Int) = ((EmM.count xs 0 : Nat) : Int) - 1 := by omega
    have HLM := Lib.hid (fun V h => emu_limit V e L m (EmM.count xs 0 - 1) (EmM.numAt xs 1) (by omega) (by omega) h)
    rw [hsub] at HLM
    generalize (EmM.count xs 0 - 1) = D0 at *
    generalize EmM.count xs 0 = C0 at *
    generalize EmM.count xs 1 = C1 at *
    generalize EmM.numAt xs 0 = N0 at *
    generalize EmM.numAt xs 1 = N1 at *
    go_enter Tryz.func72, Tryz.ntmps72
    go_wp2_with fail
    refine HC0.out.mono ?_
    rintro v w4 ⟨rfl, hw4⟩
    rw [hw4]
    clear hw4
    go_wp2_with fail
    refine HA1.out.mono ?_
    rintro v w4 ⟨rfl, hw4⟩
    rw [hw4]
    clear hw4
    go_wp2_with fail
    refine (HLM.out _ HE.out).mono ?_
    rintro v w5 ⟨rfl, he, hm⟩
    have HE5 := Lib.hid he
    have HM5 := Lib.hid hm
    clear he hm
    go_wp2_with fail
    go_ret
    exact ⟨by rw [E1.out]; rfl, L, by rw [E1.out]; exact HE5.out, HM5.out⟩

set_option maxRecDepth 100000 in
set_option maxHeartbeats 3200000 in
theorem unmarked_7 (w : World) (e : Nat) (L : Loc) (m : EmM) (b : Nat) (A : Option Addr) (n c : Nat) (xs : List Int) (hb : b = 115 ∨ b = 117) (h : EmR w e L m) (hn : NumsIn w e L A n c xs) :
    Calls Tryz.prog 72 #[.pointer (some ⟨e, 0, none⟩), .int .i64 (b : Int), .slice A n c] w (UnTo e L w (m.unmarked b xs)) := by
  have HE := Lib.hid h
  have HA0 := Lib.hid (emu_at A n c xs 0 w hn.src (by have := hn.le; omega) (by omega))
  have HA1 := Lib.hid (emu_at A n c xs 1 w hn.src (by have := hn.le; omega) (by omega))
  have HC0 := Lib.hid (emu_count A n c xs 0 w hn.src (by have := hn.le; omega) (by omega))
  have HC1 := Lib.hid (emu_count A n c xs 1 w hn.src (by have := hn.le; omega) (by omega))
  have hc0 := count_le xs 0
  have hc1 := count_le xs 1
  have ha0 := numAt_le xs 0
  have ha1 := numAt_le xs 1
  have HN := Lib.hid hn
  clear hn
  rcases hb with rfl | rfl
  · have E1 : Hid (m.unmarked 115 xs = (m.save, [])) := Lib.hid rfl
    clear h
    show Calls _ _ #[_, .int .i64 115, _] _ _
    go_enter Tryz.func72, Tryz.ntmps72
    go_wp2_with fail
    refine (emu_save _ e L m HE.out).mono ?_
    rintro v w5 ⟨rfl, he, hm⟩
    have HE5 := Lib.hid he
    have HM5 := Lib.hid hm
    clear he hm
    go_wp2_with fail
    go_ret
    exact ⟨by rw [E1.out]; rfl, L, by rw [E1.out]; exact HE5.out, HM5.out⟩
  · have E1 : Hid (m.unmarked 117 xs = (m.restore, [])) := Lib.hid rfl
    clear h
    show Calls _ _ #[_, .int .i64 117, _] _ _
    go_enter Tryz.func72, Tryz.ntmps72
    go_wp2_with fail
    refine (emu_restore _ e L m HE.out).mono ?_
    rintro v w5 ⟨rfl, he, hm⟩
    have HE5 := Lib.hid he
    have HM5 := Lib.hid hm
    clear he hm
    go_wp2_with fail
    go_ret
    exact ⟨by rw [E1.out]; rfl, L, by rw [E1.out]; exact HE5.out, HM5.out⟩

set_option maxRecDepth 100000 in
set_option maxHeartbeats 3200000 in
theorem unmarked_8 (w : World) (e : Nat) (L : Loc) (m : EmM) (b : Nat) (A : Option Addr) (n c : Nat) (xs : List Int) (hb : b = 104 ∨ b = 108) (h : EmR w e L m) (hn : NumsIn w e L A n c xs) :
    Calls Tryz.prog 72 #[.pointer (some ⟨e, 0, none⟩), .int .i64 (b : Int), .slice A n c] w (UnTo e L w (m.unmarked b xs)) := by
  have HE := Lib.hid h
  have HA0 := Lib.hid (emu_at A n c xs 0 w hn.src (by have := hn.le; omega) (by omega))
  have HA1 := Lib.hid (emu_at A n c xs 1 w hn.src (by have := hn.le; omega) (by omega))
  have HC0 := Lib.hid (emu_count A n c xs 0 w hn.src (by have := hn.le; omega) (by omega))
  have HC1 := Lib.hid (emu_count A n c xs 1 w hn.src (by have := hn.le; omega) (by omega))
  have hc0 := count_le xs 0
  have hc1 := count_le xs 1
  have ha0 := numAt_le xs 0
  have ha1 := numAt_le xs 1
  have HN := Lib.hid hn
  clear hn
  rcases hb with rfl | rfl
  · have E1 : Hid (m.unmarked 104 xs = (xs.foldl (EmM.turnU true) m, [])) := Lib.hid rfl
    clear h
    show Calls _ _ #[_, .int .i64 104, _] _ _
    go_enter Tryz.func72, Tryz.ntmps72
    go_wp2_with fail
    refine (emu_turnU _ e L m true A n c xs HE.out HN.out.src (fun h b hb => (HN.out.far h b hb).1) HN.out.le HN.out.bd).mono ?_
    rintro v w5 ⟨rfl, he, hm⟩
    have HE5 := Lib.hid he
    have HM5 := Lib.hid hm
    clear he hm
    go_wp2_with fail
    go_ret
    exact ⟨by rw [E1.out]; rfl, L, by rw [E1.out]; exact HE5.out, HM5.out⟩
  · have E1 : Hid (m.unmarked 108 xs = (xs.foldl (EmM.turnU false) m, [])) := Lib.hid rfl
    clear h
    show Calls _ _ #[_, .int .i64 108, _] _ _
    go_enter Tryz.func72, Tryz.ntmps72
    go_wp2_with fail
    refine (emu_turnU _ e L m false A n c xs HE.out HN.out.src (fun h b hb => (HN.out.far h b hb).1) HN.out.le HN.out.bd).mono ?_
    rintro v w5 ⟨rfl, he, hm⟩
    have HE5 := Lib.hid he
    have HM5 := Lib.hid hm
    clear he hm
    go_wp2_with fail
    go_ret
    exact ⟨by rw [E1.out]; rfl, L, by rw [E1.out]; exact HE5.out, HM5.out⟩

set_option maxRecDepth 100000 in
set_option maxHeartbeats 3200000 in
theorem unmarked_9 (w : World) (e : Nat) (L : Loc) (m : EmM) (b : Nat) (A : Option Addr) (n c : Nat) (xs : List Int) (hb : b = 110 ∨ b = 99) (h : EmR w e L m) (hn : NumsIn w e L A n c xs) :
    Calls Tryz.prog 72 #[.pointer (some ⟨e, 0, none⟩), .int .i64 (b : Int), .slice A n c] w (UnTo e L w (m.unmarked b xs)) := by
  have HE := Lib.hid h
  have HA0 := Lib.hid (emu_at A n c xs 0 w hn.src (by have := hn.le; omega) (by omega))
  have HA1 := Lib.hid (emu_at A n c xs 1 w hn.src (by have := hn.le; omega) (by omega))
  have HC0 := Lib.hid (emu_count A n c xs 0 w hn.src (by have := hn.le; omega) (by omega))
  have HC1 := Lib.hid (emu_count A n c xs 1 w hn.src (by have := hn.le; omega) (by omega))
  have hc0 := count_le xs 0
  have hc1 := count_le xs 1
  have ha0 := numAt_le xs 0
  have ha1 := numAt_le xs 1
  have HN := Lib.hid hn
  clear hn
  rcases hb with rfl | rfl
  · have E1 : Hid (m.unmarked 110 xs = (m, m.reply 110 (EmM.numAt xs 0))) := Lib.hid rfl
    clear h
    show Calls _ _ #[_, .int .i64 110, _] _ _
    have HRP := Lib.hid (emu_reply w e L m 110 (EmM.numAt xs 0) (by simp) ha0 HE.out)
    go_enter Tryz.func72, Tryz.ntmps72
    go_wp2_with fail
    refine HA0.out.mono ?_
    rintro v w4 ⟨rfl, hw4⟩
    rw [hw4]
    clear hw4
    go_wp2_with fail
    refine HRP.out.mono ?_
    rintro v w5 ⟨rfl, k, hw5⟩
    rw [hw5]
    clear hw5
    go_wp2_with fail
    go_ret
    exact ⟨by rw [E1.out]; rfl, L, by rw [E1.out]; exact HE.out.drewN _, (Mv.refl _ _ _).drewN _⟩
  · have E1 : Hid (m.unmarked 99 xs = (m, m.reply 99 (EmM.numAt xs 0))) := Lib.hid rfl
    clear h
    show Calls _ _ #[_, .int .i64 99, _] _ _
    have HRP := Lib.hid (emu_reply w e L m 99 (EmM.numAt xs 0) (by simp) ha0 HE.out)
    go_enter Tryz.func72, Tryz.ntmps72
    go_wp2_with fail
    refine HA0.out.mono ?_
    rintro v w4 ⟨rfl, hw4⟩
    rw [hw4]
    clear hw4
    go_wp2_with fail
    refine HRP.out.mono ?_
    rintro v w5 ⟨rfl, k, hw5⟩
    rw [hw5]
    clear hw5
    go_wp2_with fail
    go_ret
    exact ⟨by rw [E1.out]; rfl, L, by rw [E1.out]; exact HE.out.drewN _, (Mv.refl _ _ _).drewN _⟩

set_option maxRecDepth 100000 in
set_option maxHeartbeats 3200000 in
theorem unmarked_10 (w : World) (e : Nat) (L : Loc) (m : EmM) (b : Nat) (A : Option Addr) (n c : Nat) (xs : List Int) (hb : b = 109) (h : EmR w e L m) (hn : NumsIn w e L A n c xs) :
    Calls Tryz.prog 72 #[.pointer (some ⟨e, 0, none⟩), .int .i64 (b : Int), .slice A n c] w (UnTo e L w (m.unmarked b xs)) := by
  have HE := Lib.hid h
  have HA0 := Lib.hid (emu_at A n c xs 0 w hn.src (by have := hn.le; omega) (by omega))
  have HA1 := Lib.hid (emu_at A n c xs 1 w hn.src (by have := hn.le; omega) (by omega))
  have HC0 := Lib.hid (emu_count A n c xs 0 w hn.src (by have := hn.le; omega) (by omega))
  have HC1 := Lib.hid (emu_count A n c xs 1 w hn.src (by have := hn.le; omega) (by omega))
  have hc0 := count_le xs 0
  have hc1 := count_le xs 1
  have ha0 := numAt_le xs 0
  have ha1 := numAt_le xs 1
  have HN := Lib.hid hn
  clear hn
  subst hb
  · have E1 : Hid (m.unmarked 109 xs = (m.pen xs, [])) := Lib.hid rfl
    clear h
    show Calls _ _ #[_, .int .i64 109, _] _ _
    have hok := HE.out.ok
    have c26 := (HE.out.cell 4 26 rfl _ rfl).1; have c27 := (HE.out.cell 5 27 rfl _ rfl).1; have c28 := (HE.out.cell 6 28 rfl _ rfl).1; have c29 := (HE.out.cell 7 29 rfl _ rfl).1; have c30 := (HE.out.cell 8 30 rfl _ rfl).1
    have HS : Hid (Calls Tryz.prog 104 #[.agg #[.int .i64 m.st.pen.fg, .int .i64 m.st.pen.bg, .bool m.st.pen.b, .bool m.st.pen.u, .bool m.st.pen.i], .slice A n c] w fun v w' => v = .returned (.agg #[.int .i64 (sgrL m.st.pen xs).fg, .int .i64 (sgrL m.st.pen xs).bg, .bool (sgrL m.st.pen xs).b, .bool (sgrL m.st.pen xs).u, .bool (sgrL m.st.pen xs).i]) ∧ Below w.heap.size w w') := Lib.hid (cell_sgr m.st.pen A n c xs w HN.out.src HN.out.cap (by have := HN.out.le; omega) (fun x hx => by have := HN.out.bd x hx; omega))
    have HO := Lib.hid (sgrL_ok m.st.pen xs hok.p)
    generalize hg : sgrL m.st.pen xs = P at *
    have E2 : Hid ((m.pen xs, ([] : List Nat)) = ({ m with st := { m.st with pen := P } }, [])) := Lib.hid (by unfold EmM.pen; rw [hg])
    clear hok hg
    go_enter Tryz.func72, Tryz.ntmps72
    go_wp2_with fail
    refine HS.out.mono ?_
    rintro v w5 ⟨rfl, hb⟩
    have K5 := Lib.hid (Keep.of_below (fun _ => False) hb)
    have HE5 := Lib.hid (HE.out.quiet K5.out)
    have d26 := (HE5.out.cell 4 26 rfl _ rfl).1; have f26 := (HE5.out.cell 4 26 rfl _ rfl).2
    have d27 := (HE5.out.cell 5 27 rfl _ rfl).1; have f27 := (HE5.out.cell 5 27 rfl _ rfl).2
    have d28 := (HE5.out.cell 6 28 rfl _ rfl).1; have f28 := (HE5.out.cell 6 28 rfl _ rfl).2
    have d29 := (HE5.out.cell 7 29 rfl _ rfl).1; have f29 := (HE5.out.cell 7 29 rfl _ rfl).2
    have d30 := (HE5.out.cell 8 30 rfl _ rfl).1; have f30 := (HE5.out.cell 8 30 rfl _ rfl).2
    have HP := Lib.hid (HE5.out.penTo P HO.out)
    clear hb
    go_wp2_with fail
    go_ret
    exact ⟨by rw [E1.out]; rfl, L, by rw [E1.out, E2.out]; exact HP.out.1, ((Mv.refl _ _ _).quiet HE.out.elt K5.out).trans HP.out.2⟩

set_option maxRecDepth 100000 in
set_option maxHeartbeats 3200000 in
theorem unmarked_none (w : World) (e : Nat) (L : Loc) (m : EmM) (b : Nat) (A : Option Addr) (n c : Nat) (xs : List Int) (h : EmR w e L m) (h65 : b ≠ 65) (h66 : b ≠ 66) (h67 : b ≠ 67) (h68 : b ≠ 68) (h69 : b ≠ 69) (h70 : b ≠ 70) (h71 : b ≠ 71) (h72 : b ≠ 72) (h100 : b ≠ 100) (h102 : b ≠ 102) (h74 : b ≠ 74) (h75 : b ≠ 75) (h88 : b ≠ 88) (h64 : b ≠ 64) (h80 : b ≠ 80) (h83 : b ≠ 83) (h84 : b ≠ 84) (h76 : b ≠ 76) (h77 : b ≠ 77) (h103 : b ≠ 103) (h114 : b ≠ 114) (h115 : b ≠ 115) (h117 : b ≠ 117) (h104 : b ≠ 104) (h108 : b ≠ 108) (h110 : b ≠ 110) (h99 : b ≠ 99) (h109 : b ≠ 109) :
    Calls Tryz.prog 72 #[.pointer (some ⟨e, 0, none⟩), .int .i64 (b : Int), .slice A n c] w (UnTo e L w (m.unmarked b xs)) := by
  have HE := Lib.hid h
  have E1 : Hid (m.unmarked b xs = (m, [])) := Lib.hid (by unfold EmM.unmarked; simp [h65, h66, h67, h68, h69, h70, h71, h72, h100, h102, h74, h75, h88, h64, h80, h83, h84, h76, h77, h103, h114, h115, h117, h104, h108, h110, h99, h109])
  have t65 : ((b : Int) == 65) = false := by simp; omega
  have t66 : ((b : Int) == 66) = false := by simp; omega
  have t67 : ((b : Int) == 67) = false := by simp; omega
  have t68 : ((b : Int) == 68) = false := by simp; omega
  have t69 : ((b : Int) == 69) = false := by simp; omega
  have t70 : ((b : Int) == 70) = false := by simp; omega
  have t71 : ((b : Int) == 71) = false := by simp; omega
  have t72 : ((b : Int) == 72) = false := by simp; omega
  have t100 : ((b : Int) == 100) = false := by simp; omega
  have t102 : ((b : Int) == 102) = false := by simp; omega
  have t74 : ((b : Int) == 74) = false := by simp; omega
  have t75 : ((b : Int) == 75) = false := by simp; omega
  have t88 : ((b : Int) == 88) = false := by simp; omega
  have t64 : ((b : Int) == 64) = false := by simp; omega
  have t80 : ((b : Int) == 80) = false := by simp; omega
  have t83 : ((b : Int) == 83) = false := by simp; omega
  have t84 : ((b : Int) == 84) = false := by simp; omega
  have t76 : ((b : Int) == 76) = false := by simp; omega
  have t77 : ((b : Int) == 77) = false := by simp; omega
  have t103 : ((b : Int) == 103) = false := by simp; omega
  have t114 : ((b : Int) == 114) = false := by simp; omega
  have t115 : ((b : Int) == 115) = false := by simp; omega
  have t117 : ((b : Int) == 117) = false := by simp; omega
  have t104 : ((b : Int) == 104) = false := by simp; omega
  have t108 : ((b : Int) == 108) = false := by simp; omega
  have t110 : ((b : Int) == 110) = false := by simp; omega
  have t99 : ((b : Int) == 99) = false := by simp; omega
  have t109 : ((b : Int) == 109) = false := by simp; omega
  clear h h65 h66 h67 h68 h69 h70 h71 h72 h100 h102 h74 h75 h88 h64 h80 h83 h84 h76 h77 h103 h114 h115 h117 h104 h108 h110 h99 h109
  go_enter Tryz.func72, Tryz.ntmps72
  go_wp2_with fail
  go_ret
  exact ⟨by rw [E1.out]; rfl, L, by rw [E1.out]; exact HE.out, Mv.refl _ _ _⟩

theorem emu_unmarked (w : World) (e : Nat) (L : Loc) (m : EmM) (b : Nat) (A : Option Addr) (n c : Nat) (xs : List Int) (h : EmR w e L m) (hn : NumsIn w e L A n c xs) :
    Calls Tryz.prog 72 #[.pointer (some ⟨e, 0, none⟩), .int .i64 (b : Int), .slice A n c] w (UnTo e L w (m.unmarked b xs)) := by
  by_cases g1 : b = 65 ∨ b = 66 ∨ b = 67 ∨ b = 68 ∨ b = 69 ∨ b = 70 ∨ b = 71 ∨ b = 72 ∨ b = 100 ∨ b = 102
  · exact unmarked_1 w e L m b A n c xs g1 h hn
  by_cases g2 : b = 74 ∨ b = 75
  · exact unmarked_2 w e L m b A n c xs g2 h hn
  by_cases g3 : b = 88 ∨ b = 64 ∨ b = 80 ∨ b = 83 ∨ b = 84
  · exact unmarked_3 w e L m b A n c xs g3 h hn
  by_cases g4 : b = 76 ∨ b = 77
  · exact unmarked_4 w e L m b A n c xs g4 h hn
  by_cases g5 : b = 103
  · exact unmarked_5 w e L m b A n c xs g5 h hn
  by_cases g6 : b = 114
  · exact unmarked_6 w e L m b A n c xs g6 h hn
  by_cases g7 : b = 115 ∨ b = 117
  · exact unmarked_7 w e L m b A n c xs g7 h hn
  by_cases g8 : b = 104 ∨ b = 108
  · exact unmarked_8 w e L m b A n c xs g8 h hn
  by_cases g9 : b = 110 ∨ b = 99
  · exact unmarked_9 w e L m b A n c xs g9 h hn
  by_cases g10 : b = 109
  · exact unmarked_10 w e L m b A n c xs g10 h hn
  exact unmarked_none w e L m b A n c xs h (by omega) (by omega) (by omega) (by omega) (by omega) (by omega) (by omega) (by omega) (by omega) (by omega) (by omega) (by omega) (by omega) (by omega) (by omega) (by omega) (by omega) (by omega) (by omega) (by omega) (by omega) (by omega) (by omega) (by omega) (by omega) (by omega) (by omega) (by omega)

end Go.Proofs.YtnminmaklbhakaaGreatDoor
