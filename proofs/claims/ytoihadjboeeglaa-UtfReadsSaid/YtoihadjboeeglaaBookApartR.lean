/- pontoonbook.Book: Apart, of a book that keeps lists of runes alone. By program (kindapart.py). Own work. -/
import Derived.Test.YtoihadjboeeglaaBookGrowR
set_option linter.unusedVariables false
set_option linter.unusedSimpArgs false
namespace Go.Proofs.Ytoihadjboeeglaa.Rn
set_option linter.unusedVariables false
open Go.RowKit

set_option maxRecDepth 100000 in
set_option maxHeartbeats 6400000 in
theorem book_apart (w : World) (q : Nat) (own : Nat → Prop) (n : Nat) (h : Book w q own n) (hn : n ≤ 250) :
    Calls Try.prog 18 #[.pointer (some ⟨q, 0, none⟩)] w fun e w' => e = .returned (.bool true) ∧ Keep own w w' := by
  obtain ⟨tA, tc, wA, wc, its, ws, hb, rfl⟩ := h
  have HB := Lib.hid hb
  have HC := Lib.hid (bookT_still w q own tA wA tc wc its ws hb hn)
  clear hb
  have b0 : w.cell? ⟨q, 0, none⟩ = some (.slice none 0 0) := cell_at HB.out.bk 0
  have b2 : w.cell? ⟨q, 2, none⟩ = some (.slice none 0 0) := cell_at HB.out.bk 2
  have b6 : w.cell? ⟨q, 6, none⟩ = some (.slice none 0 0) := cell_at HB.out.bk 6
  have b8 : w.cell? ⟨q, 8, none⟩ = some (.slice none 0 0) := cell_at HB.out.bk 8
  have b10 : w.cell? ⟨q, 10, none⟩ = some (.slice none 0 0) := cell_at HB.out.bk 10
  have b12 : w.cell? ⟨q, 12, none⟩ = some (.slice none 0 0) := cell_at HB.out.bk 12
  have b14 : w.cell? ⟨q, 14, none⟩ = some (.slice none 0 0) := cell_at HB.out.bk 14
  go_enter Try.func18, Try.ntmps18
  go_wp2_with fail
  refine (stillTexts_none q _ b0).mono ?_
  rintro e w' ⟨rfl, rfl⟩
  go_wp2_with fail
  refine (stillInts_none q _ b2).mono ?_
  rintro e w' ⟨rfl, rfl⟩
  clear b0 b2 b6 b8 b10 b12 b14
  go_wp2_with fail
  refine HC.out.mono ?_
  rintro e w1 ⟨rfl, kk, hw⟩
  have B1 : Hid (BookT w1 q own tA tc wA wc its ws) := by
    show BookT _ _ _ _ _ _ _ _ _
    rw [hw]; exact HB.out.drewN kk
  have K1 : Hid (Keep own w w1) := by
    show Keep _ _ _
    rw [hw]; exact (Keep.refl _ _).drewN kk
  clear hw
  have c0 : w1.cell? ⟨q, 0, none⟩ = some (.slice none 0 0) := cell_at B1.out.bk 0
  have c2 : w1.cell? ⟨q, 2, none⟩ = some (.slice none 0 0) := cell_at B1.out.bk 2
  have c6 : w1.cell? ⟨q, 6, none⟩ = some (.slice none 0 0) := cell_at B1.out.bk 6
  have c8 : w1.cell? ⟨q, 8, none⟩ = some (.slice none 0 0) := cell_at B1.out.bk 8
  have c10 : w1.cell? ⟨q, 10, none⟩ = some (.slice none 0 0) := cell_at B1.out.bk 10
  have c12 : w1.cell? ⟨q, 12, none⟩ = some (.slice none 0 0) := cell_at B1.out.bk 12
  have c14 : w1.cell? ⟨q, 14, none⟩ = some (.slice none 0 0) := cell_at B1.out.bk 14
  go_wp2_with fail
  refine (stillTokens_none q _ c6).mono ?_
  rintro e w' ⟨rfl, rfl⟩
  go_wp2_with fail
  refine (stillActs_none q _ c8).mono ?_
  rintro e w' ⟨rfl, rfl⟩
  go_wp2_with fail
  refine (stillCells_none q _ c10).mono ?_
  rintro e w' ⟨rfl, rfl⟩
  go_wp2_with fail
  refine (stillEvents_none q _ c12).mono ?_
  rintro e w' ⟨rfl, rfl⟩
  go_wp2_with fail
  refine (stillSteps_none q _ c14).mono ?_
  rintro e w' ⟨rfl, rfl⟩
  go_wp2_with fail
  refine (putSteps_none q _ c14).mono ?_
  rintro e w' ⟨rfl, rfl⟩
  go_wp2_with fail
  refine (putActs_none q _ c8).mono ?_
  rintro e w' ⟨rfl, rfl⟩
  go_wp2_with fail
  refine (putTexts_none q _ c0).mono ?_
  rintro e w' ⟨rfl, rfl⟩
  go_wp2_with fail
  refine (putInts_none q _ c2).mono ?_
  rintro e w' ⟨rfl, rfl⟩
  clear c0 c2 c6 c8 c10 c12 c14
  go_wp2_with fail
  refine (texts_puts w1 q (fun z => own z ∧ z ≠ q) tA tc its _ B1.out.texts hn).mono ?_
  rintro e w2 ⟨rfl, f', t2, k2, m2⟩
  have T2 := Lib.hid t2
  have K2 := Lib.hid k2
  have M2 := Lib.hid m2
  clear t2 k2 m2
  have d0 : w2.cell? ⟨q, 0, none⟩ = some (.slice none 0 0) := cell_at (K2.out.heap B1.out.bk (fun x => x.2 rfl)) 0
  have d2 : w2.cell? ⟨q, 2, none⟩ = some (.slice none 0 0) := cell_at (K2.out.heap B1.out.bk (fun x => x.2 rfl)) 2
  have d6 : w2.cell? ⟨q, 6, none⟩ = some (.slice none 0 0) := cell_at (K2.out.heap B1.out.bk (fun x => x.2 rfl)) 6
  have d8 : w2.cell? ⟨q, 8, none⟩ = some (.slice none 0 0) := cell_at (K2.out.heap B1.out.bk (fun x => x.2 rfl)) 8
  have d10 : w2.cell? ⟨q, 10, none⟩ = some (.slice none 0 0) := cell_at (K2.out.heap B1.out.bk (fun x => x.2 rfl)) 10
  have d12 : w2.cell? ⟨q, 12, none⟩ = some (.slice none 0 0) := cell_at (K2.out.heap B1.out.bk (fun x => x.2 rfl)) 12
  have d14 : w2.cell? ⟨q, 14, none⟩ = some (.slice none 0 0) := cell_at (K2.out.heap B1.out.bk (fun x => x.2 rfl)) 14
  go_wp2_with fail
  refine (putTokens_none q _ d6).mono ?_
  rintro e w' ⟨rfl, rfl⟩
  go_wp2_with fail
  refine (putCells_none q _ d10).mono ?_
  rintro e w' ⟨rfl, rfl⟩
  go_wp2_with fail
  refine (putEvents_none q _ d12).mono ?_
  rintro e w' ⟨rfl, rfl⟩
  go_wp2_with fail
  refine (growTexts_none q _ d0).mono ?_
  rintro e w' ⟨rfl, rfl⟩
  go_wp2_with fail
  refine (growInts_none q _ d2).mono ?_
  rintro e w' ⟨rfl, rfl⟩
  clear d0 d2 d6 d8 d10 d12 d14
  go_wp2_with fail
  refine (texts_grow w2 q (fun z => own z ∧ z ≠ q) tA tc its f' T2.out M2.out hn).mono ?_
  rintro e w3 ⟨O, oc, gs, rfl, g3⟩
  have G3 := Lib.hid g3
  clear g3
  have e0 : w3.cell? ⟨q, 0, none⟩ = some (.slice none 0 0) := cell_at (G3.out.kp.heap (K2.out.heap B1.out.bk (fun x => x.2 rfl)) (fun x => x.2 rfl)) 0
  have e2 : w3.cell? ⟨q, 2, none⟩ = some (.slice none 0 0) := cell_at (G3.out.kp.heap (K2.out.heap B1.out.bk (fun x => x.2 rfl)) (fun x => x.2 rfl)) 2
  have e6 : w3.cell? ⟨q, 6, none⟩ = some (.slice none 0 0) := cell_at (G3.out.kp.heap (K2.out.heap B1.out.bk (fun x => x.2 rfl)) (fun x => x.2 rfl)) 6
  have e8 : w3.cell? ⟨q, 8, none⟩ = some (.slice none 0 0) := cell_at (G3.out.kp.heap (K2.out.heap B1.out.bk (fun x => x.2 rfl)) (fun x => x.2 rfl)) 8
  have e10 : w3.cell? ⟨q, 10, none⟩ = some (.slice none 0 0) := cell_at (G3.out.kp.heap (K2.out.heap B1.out.bk (fun x => x.2 rfl)) (fun x => x.2 rfl)) 10
  have e12 : w3.cell? ⟨q, 12, none⟩ = some (.slice none 0 0) := cell_at (G3.out.kp.heap (K2.out.heap B1.out.bk (fun x => x.2 rfl)) (fun x => x.2 rfl)) 12
  have e14 : w3.cell? ⟨q, 14, none⟩ = some (.slice none 0 0) := cell_at (G3.out.kp.heap (K2.out.heap B1.out.bk (fun x => x.2 rfl)) (fun x => x.2 rfl)) 14
  have e0' := G3.out.c0
  go_wp2_with fail
  refine (growTokens_none q _ e6).mono ?_
  rintro e w' ⟨rfl, rfl⟩
  go_wp2_with fail
  refine (growActs_none q _ e8).mono ?_
  rintro e w' ⟨rfl, rfl⟩
  go_wp2_with fail
  refine (growCells_none q _ e10).mono ?_
  rintro e w' ⟨rfl, rfl⟩
  go_wp2_with fail
  refine (growEvents_none q _ e12).mono ?_
  rintro e w' ⟨rfl, rfl⟩
  go_wp2_with fail
  refine (growSteps_none q _ e14).mono ?_
  rintro e w' ⟨rfl, rfl⟩
  go_wp2_with fail
  refine (markedTexts_none _).mono ?_
  rintro e w' ⟨rfl, rfl⟩
  go_wp2_with fail
  refine (markedTexts_none _).mono ?_
  rintro e w' ⟨rfl, rfl⟩
  go_wp2_with fail
  refine (markedInts_none _).mono ?_
  rintro e w' ⟨rfl, rfl⟩
  go_wp2_with fail
  refine (markedInts_none _).mono ?_
  rintro e w' ⟨rfl, rfl⟩
  have MG := Lib.hid (G3.out.done T2.out)
  have HL := Lib.hid G3.out.len
  have C1 : Hid (Calls Try.prog 54 #[.slice O its.length oc] w3 fun e w' => e = .returned (.bool true) ∧ Keep (fun _ => False) w3 w') := by
    have := texts_marked w3 O oc gs MG.out.1 (by rw [HL.out]; exact hn)
    rwa [HL.out] at this
  clear e0 e2 e6 e8 e10 e12 e14
  go_wp2_with fail
  refine C1.out.mono ?_
  rintro e w4 ⟨rfl, k4⟩
  have K4 := Lib.hid k4
  have f0 := (k4.cell (p := ⟨q, 4, none⟩) (Nat.lt_of_lt_of_le T2.out.lq G3.out.kp.size) (fun x => x)).trans e0'
  clear k4 e0'
  go_wp2_with fail
  refine (texts_marked w4 tA tc its (MG.out.2.keep K4.out) hn).mono ?_
  rintro e w5 ⟨rfl, k5⟩
  have K5 := Lib.hid k5
  have g0 : w5.cell? ⟨q, 0, none⟩ = some (.slice none 0 0) := ((K4.out.trans K5.out (fun _ _ x => x)).cell (p := ⟨q, 0, none⟩) (Nat.lt_of_lt_of_le T2.out.lq G3.out.kp.size) (fun x => x)).trans (cell_at (G3.out.kp.heap (K2.out.heap B1.out.bk (fun x => x.2 rfl)) (fun x => x.2 rfl)) 0)
  have g2 : w5.cell? ⟨q, 2, none⟩ = some (.slice none 0 0) := ((K4.out.trans K5.out (fun _ _ x => x)).cell (p := ⟨q, 2, none⟩) (Nat.lt_of_lt_of_le T2.out.lq G3.out.kp.size) (fun x => x)).trans (cell_at (G3.out.kp.heap (K2.out.heap B1.out.bk (fun x => x.2 rfl)) (fun x => x.2 rfl)) 2)
  have g6 : w5.cell? ⟨q, 6, none⟩ = some (.slice none 0 0) := ((K4.out.trans K5.out (fun _ _ x => x)).cell (p := ⟨q, 6, none⟩) (Nat.lt_of_lt_of_le T2.out.lq G3.out.kp.size) (fun x => x)).trans (cell_at (G3.out.kp.heap (K2.out.heap B1.out.bk (fun x => x.2 rfl)) (fun x => x.2 rfl)) 6)
  have g8 : w5.cell? ⟨q, 8, none⟩ = some (.slice none 0 0) := ((K4.out.trans K5.out (fun _ _ x => x)).cell (p := ⟨q, 8, none⟩) (Nat.lt_of_lt_of_le T2.out.lq G3.out.kp.size) (fun x => x)).trans (cell_at (G3.out.kp.heap (K2.out.heap B1.out.bk (fun x => x.2 rfl)) (fun x => x.2 rfl)) 8)
  have g10 : w5.cell? ⟨q, 10, none⟩ = some (.slice none 0 0) := ((K4.out.trans K5.out (fun _ _ x => x)).cell (p := ⟨q, 10, none⟩) (Nat.lt_of_lt_of_le T2.out.lq G3.out.kp.size) (fun x => x)).trans (cell_at (G3.out.kp.heap (K2.out.heap B1.out.bk (fun x => x.2 rfl)) (fun x => x.2 rfl)) 10)
  have g12 : w5.cell? ⟨q, 12, none⟩ = some (.slice none 0 0) := ((K4.out.trans K5.out (fun _ _ x => x)).cell (p := ⟨q, 12, none⟩) (Nat.lt_of_lt_of_le T2.out.lq G3.out.kp.size) (fun x => x)).trans (cell_at (G3.out.kp.heap (K2.out.heap B1.out.bk (fun x => x.2 rfl)) (fun x => x.2 rfl)) 12)
  have g14 : w5.cell? ⟨q, 14, none⟩ = some (.slice none 0 0) := ((K4.out.trans K5.out (fun _ _ x => x)).cell (p := ⟨q, 14, none⟩) (Nat.lt_of_lt_of_le T2.out.lq G3.out.kp.size) (fun x => x)).trans (cell_at (G3.out.kp.heap (K2.out.heap B1.out.bk (fun x => x.2 rfl)) (fun x => x.2 rfl)) 14)
  clear k5 f0
  go_wp2_with fail
  refine (markedTokens_none _).mono ?_
  rintro e w' ⟨rfl, rfl⟩
  go_wp2_with fail
  refine (markedTokens_none _).mono ?_
  rintro e w' ⟨rfl, rfl⟩
  go_wp2_with fail
  refine (markedActs_none _).mono ?_
  rintro e w' ⟨rfl, rfl⟩
  go_wp2_with fail
  refine (markedActs_none _).mono ?_
  rintro e w' ⟨rfl, rfl⟩
  go_wp2_with fail
  refine (markedCells_none _).mono ?_
  rintro e w' ⟨rfl, rfl⟩
  go_wp2_with fail
  refine (markedCells_none _).mono ?_
  rintro e w' ⟨rfl, rfl⟩
  go_wp2_with fail
  refine (markedEvents_none _).mono ?_
  rintro e w' ⟨rfl, rfl⟩
  go_wp2_with fail
  refine (markedEvents_none _).mono ?_
  rintro e w' ⟨rfl, rfl⟩
  go_wp2_with fail
  refine (markedSteps_none _).mono ?_
  rintro e w' ⟨rfl, rfl⟩
  go_wp2_with fail
  refine (markedSteps_none _).mono ?_
  rintro e w' ⟨rfl, rfl⟩
  go_wp2_with fail
  go_ret
  exact ⟨rfl, ((K1.out.trans K2.out (fun _ _ x => x.1)).trans G3.out.kp (fun _ _ x => x.1)).trans (K4.out.trans K5.out (fun _ _ x => x)) (fun _ _ x => x.elim)⟩

end Go.Proofs.Ytoihadjboeeglaa.Rn
