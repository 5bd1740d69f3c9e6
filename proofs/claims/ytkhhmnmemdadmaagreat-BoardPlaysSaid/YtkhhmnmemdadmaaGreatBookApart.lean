/- pontoonbook.Book: Apart, of a book that keeps lists of texts alone. By program (bookapart.gen.py). Own work. -/
import Derived.Test.YtkhhmnmemdadmaaGreatBookGrow
namespace Go.Proofs.YtkhhmnmemdadmaaGreat
set_option linter.unusedVariables false
open Go.RowKit

set_option maxRecDepth 100000 in
set_option maxHeartbeats 6400000 in
theorem book_apart (w : World) (q : Nat) (own : Nat → Prop) (n : Nat) (h : Book w q own n) (hn : n ≤ 250) :
    Calls Tryz.prog 10 #[.pointer (some ⟨q, 0, none⟩)] w fun e w' => e = .returned (.bool true) ∧ Keep own w w' := by
  obtain ⟨tA, tc, wA, wc, its, ws, hb, rfl⟩ := h
  have HB := Lib.hid hb
  have HC := Lib.hid (bookT_still w q own tA wA tc wc its ws hb hn)
  clear hb
  go_enter Tryz.func10, Tryz.ntmps10
  go_wp2_with fail
  refine HC.out.mono ?_
  rintro e w1 ⟨rfl, kk, hw⟩
  have B1 : Hid (BookT w1 q own tA tc wA wc its ws) := by
    show BookT _ _ _ _ _ _ _ _ _
    rw [hw]; exact HB.out.drewN kk
  have K1 : Hid (Keep own w w1) := by
    show Keep _ _ _
    rw [hw]; exact (Keep.refl _ _).drewN kk
  clear hw
  have c2 : w1.cell? ⟨q, 2, none⟩ = some (.slice none 0 0) := cell_at B1.out.bk 2
  have c4 : w1.cell? ⟨q, 4, none⟩ = some (.slice none 0 0) := cell_at B1.out.bk 4
  have c6 : w1.cell? ⟨q, 6, none⟩ = some (.slice none 0 0) := cell_at B1.out.bk 6
  have c8 : w1.cell? ⟨q, 8, none⟩ = some (.slice none 0 0) := cell_at B1.out.bk 8
  have c10 : w1.cell? ⟨q, 10, none⟩ = some (.slice none 0 0) := cell_at B1.out.bk 10
  have c12 : w1.cell? ⟨q, 12, none⟩ = some (.slice none 0 0) := cell_at B1.out.bk 12
  have c14 : w1.cell? ⟨q, 14, none⟩ = some (.slice none 0 0) := cell_at B1.out.bk 14
  go_wp2_with fail
  refine (stillInts_none q _ c2).mono ?_
  rintro e w' ⟨rfl, rfl⟩
  go_wp2_with fail
  refine (stillRunes_none q _ c4).mono ?_
  rintro e w' ⟨rfl, rfl⟩
  go_wp2_with fail
  refine (stillTokens_none q _ c6).mono ?_
  rintro e w' ⟨rfl, rfl⟩
  go_wp2_with fail
  refine (stillActs_none q _ c8).mono ?_
  rintro e w' ⟨rfl, rfl⟩
  go_wp2_with fail
  refine (stillCells_none q _ c10).mono ?_
  rintro e w' ⟨rfl, rfl⟩
  go_wp2_with fail
  refine (stillEvents_none q _ c12).mono ?_
  rintro e w' ⟨rfl, rfl⟩
  go_wp2_with fail
  refine (stillSteps_none q _ c14).mono ?_
  rintro e w' ⟨rfl, rfl⟩
  go_wp2_with fail
  refine (putSteps_none q _ c14).mono ?_
  rintro e w' ⟨rfl, rfl⟩
  go_wp2_with fail
  refine (putActs_none q _ c8).mono ?_
  rintro e w' ⟨rfl, rfl⟩
  go_wp2_with fail
  refine (texts_puts w1 q (fun z => own z ∧ z ≠ q) tA tc its _ B1.out.texts hn).mono ?_
  rintro e w2 ⟨rfl, f', t2, k2, m2⟩
  have T2 := Lib.hid t2
  have K2 := Lib.hid k2
  have M2 := Lib.hid m2
  clear t2 k2 m2
  have d2 : w2.cell? ⟨q, 2, none⟩ = some (.slice none 0 0) := cell_at (K2.out.heap B1.out.bk (fun x => x.2 rfl)) 2
  have d4 : w2.cell? ⟨q, 4, none⟩ = some (.slice none 0 0) := cell_at (K2.out.heap B1.out.bk (fun x => x.2 rfl)) 4
  have d6 : w2.cell? ⟨q, 6, none⟩ = some (.slice none 0 0) := cell_at (K2.out.heap B1.out.bk (fun x => x.2 rfl)) 6
  have d8 : w2.cell? ⟨q, 8, none⟩ = some (.slice none 0 0) := cell_at (K2.out.heap B1.out.bk (fun x => x.2 rfl)) 8
  have d10 : w2.cell? ⟨q, 10, none⟩ = some (.slice none 0 0) := cell_at (K2.out.heap B1.out.bk (fun x => x.2 rfl)) 10
  have d12 : w2.cell? ⟨q, 12, none⟩ = some (.slice none 0 0) := cell_at (K2.out.heap B1.out.bk (fun x => x.2 rfl)) 12
  have d14 : w2.cell? ⟨q, 14, none⟩ = some (.slice none 0 0) := cell_at (K2.out.heap B1.out.bk (fun x => x.2 rfl)) 14
  go_wp2_with fail
  refine (putInts_none q _ d2).mono ?_
  rintro e w' ⟨rfl, rfl⟩
  go_wp2_with fail
  refine (putRunes_none q _ d4).mono ?_
  rintro e w' ⟨rfl, rfl⟩
  go_wp2_with fail
  refine (putTokens_none q _ d6).mono ?_
  rintro e w' ⟨rfl, rfl⟩
  go_wp2_with fail
  refine (putCells_none q _ d10).mono ?_
  rintro e w' ⟨rfl, rfl⟩
  go_wp2_with fail
  refine (putEvents_none q _ d12).mono ?_
  rintro e w' ⟨rfl, rfl⟩
  go_wp2_with fail
  refine (texts_grow w2 q (fun z => own z ∧ z ≠ q) tA tc its f' T2.out M2.out hn).mono ?_
  rintro e w3 ⟨O, oc, gs, rfl, g3⟩
  have G3 := Lib.hid g3
  clear g3
  have b3 := cell_at (G3.out.kp.heap (K2.out.heap B1.out.bk (fun x => x.2 rfl)) (fun x => x.2 rfl)) 0
  have e2 : w3.cell? ⟨q, 2, none⟩ = some (.slice none 0 0) := cell_at (G3.out.kp.heap (K2.out.heap B1.out.bk (fun x => x.2 rfl)) (fun x => x.2 rfl)) 2
  have e4 : w3.cell? ⟨q, 4, none⟩ = some (.slice none 0 0) := cell_at (G3.out.kp.heap (K2.out.heap B1.out.bk (fun x => x.2 rfl)) (fun x => x.2 rfl)) 4
  have e6 : w3.cell? ⟨q, 6, none⟩ = some (.slice none 0 0) := cell_at (G3.out.kp.heap (K2.out.heap B1.out.bk (fun x => x.2 rfl)) (fun x => x.2 rfl)) 6
  have e8 : w3.cell? ⟨q, 8, none⟩ = some (.slice none 0 0) := cell_at (G3.out.kp.heap (K2.out.heap B1.out.bk (fun x => x.2 rfl)) (fun x => x.2 rfl)) 8
  have e10 : w3.cell? ⟨q, 10, none⟩ = some (.slice none 0 0) := cell_at (G3.out.kp.heap (K2.out.heap B1.out.bk (fun x => x.2 rfl)) (fun x => x.2 rfl)) 10
  have e12 : w3.cell? ⟨q, 12, none⟩ = some (.slice none 0 0) := cell_at (G3.out.kp.heap (K2.out.heap B1.out.bk (fun x => x.2 rfl)) (fun x => x.2 rfl)) 12
  have e14 : w3.cell? ⟨q, 14, none⟩ = some (.slice none 0 0) := cell_at (G3.out.kp.heap (K2.out.heap B1.out.bk (fun x => x.2 rfl)) (fun x => x.2 rfl)) 14
  have e0 := G3.out.c0
  go_wp2_with fail
  refine (growInts_none q _ e2).mono ?_
  rintro e w' ⟨rfl, rfl⟩
  go_wp2_with fail
  refine (growRunes_none q _ e4).mono ?_
  rintro e w' ⟨rfl, rfl⟩
  go_wp2_with fail
  refine (growTokens_none q _ e6).mono ?_
  rintro e w' ⟨rfl, rfl⟩
  go_wp2_with fail
  refine (growActs_none q _ e8).mono ?_
  rintro e w' ⟨rfl, rfl⟩
  go_wp2_with fail
  refine (growCells_none q _ e10).mono ?_
  rintro e w' ⟨rfl, rfl⟩
  go_wp2_with fail
  refine (growEvents_none q _ e12).mono ?_
  rintro e w' ⟨rfl, rfl⟩
  go_wp2_with fail
  refine (growSteps_none q _ e14).mono ?_
  rintro e w' ⟨rfl, rfl⟩
  go_wp2_with fail
  have MG := Lib.hid (G3.out.done T2.out)
  have HL := Lib.hid G3.out.len
  have C1 : Hid (Calls Tryz.prog 46 #[.slice O its.length oc] w3 fun e w' => e = .returned (.bool true) ∧ Keep (fun _ => False) w3 w') := by
    have := texts_marked w3 O oc gs MG.out.1 (by rw [HL.out]; exact hn)
    rwa [HL.out] at this
  refine C1.out.mono ?_
  rintro e w4 ⟨rfl, k4⟩
  have K4 := Lib.hid k4
  have f0 := (k4.cell (p := ⟨q, 0, none⟩) (Nat.lt_of_lt_of_le T2.out.lq G3.out.kp.size) (fun x => x)).trans e0
  clear k4
  go_wp2_with fail
  refine (texts_marked w4 tA tc its (MG.out.2.keep K4.out) hn).mono ?_
  rintro e w5 ⟨rfl, k5⟩
  have K5 := Lib.hid k5
  have g2 := ((K4.out.trans k5 (fun _ _ x => x)).cell (p := ⟨q, 2, none⟩) (Nat.lt_of_lt_of_le T2.out.lq G3.out.kp.size) (fun x => x)).trans e2
  have g4 := ((K4.out.trans k5 (fun _ _ x => x)).cell (p := ⟨q, 4, none⟩) (Nat.lt_of_lt_of_le T2.out.lq G3.out.kp.size) (fun x => x)).trans e4
  have g6 := ((K4.out.trans k5 (fun _ _ x => x)).cell (p := ⟨q, 6, none⟩) (Nat.lt_of_lt_of_le T2.out.lq G3.out.kp.size) (fun x => x)).trans e6
  have g8 := ((K4.out.trans k5 (fun _ _ x => x)).cell (p := ⟨q, 8, none⟩) (Nat.lt_of_lt_of_le T2.out.lq G3.out.kp.size) (fun x => x)).trans e8
  have g10 := ((K4.out.trans k5 (fun _ _ x => x)).cell (p := ⟨q, 10, none⟩) (Nat.lt_of_lt_of_le T2.out.lq G3.out.kp.size) (fun x => x)).trans e10
  have g12 := ((K4.out.trans k5 (fun _ _ x => x)).cell (p := ⟨q, 12, none⟩) (Nat.lt_of_lt_of_le T2.out.lq G3.out.kp.size) (fun x => x)).trans e12
  have g14 := ((K4.out.trans k5 (fun _ _ x => x)).cell (p := ⟨q, 14, none⟩) (Nat.lt_of_lt_of_le T2.out.lq G3.out.kp.size) (fun x => x)).trans e14
  clear k5
  go_wp2_with fail
  refine (markedInts_none _).mono ?_
  rintro e w' ⟨rfl, rfl⟩
  go_wp2_with fail
  refine (markedInts_none _).mono ?_
  rintro e w' ⟨rfl, rfl⟩
  go_wp2_with fail
  refine (markedRunes_none _).mono ?_
  rintro e w' ⟨rfl, rfl⟩
  go_wp2_with fail
  refine (markedRunes_none _).mono ?_
  rintro e w' ⟨rfl, rfl⟩
  go_wp2_with fail
  refine (markedTokens_none _).mono ?_
  rintro e w' ⟨rfl, rfl⟩
  go_wp2_with fail
  refine (markedTokens_none _).mono ?_
  rintro e w' ⟨rfl, rfl⟩
  go_wp2_with fail
  refine (markedActs_none _).mono ?_
  rintro e w' ⟨rfl, rfl⟩
  go_wp2_with fail
  refine (markedActs_none _).mono ?_
  rintro e w' ⟨rfl, rfl⟩
  go_wp2_with fail
  refine (markedCells_none _).mono ?_
  rintro e w' ⟨rfl, rfl⟩
  go_wp2_with fail
  refine (markedCells_none _).mono ?_
  rintro e w' ⟨rfl, rfl⟩
  go_wp2_with fail
  refine (markedEvents_none _).mono ?_
  rintro e w' ⟨rfl, rfl⟩
  go_wp2_with fail
  refine (markedEvents_none _).mono ?_
  rintro e w' ⟨rfl, rfl⟩
  go_wp2_with fail
  refine (markedSteps_none _).mono ?_
  rintro e w' ⟨rfl, rfl⟩
  go_wp2_with fail
  refine (markedSteps_none _).mono ?_
  rintro e w' ⟨rfl, rfl⟩
  go_wp2_with fail
  go_ret
  exact ⟨rfl, ((K1.out.trans K2.out (fun _ _ x => x.1)).trans G3.out.kp (fun _ _ x => x.1)).trans (K4.out.trans K5.out (fun _ _ x => x)) (fun _ _ x => x.elim)⟩

end Go.Proofs.YtkhhmnmemdadmaaGreat
