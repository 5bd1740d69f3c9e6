/- emu: erase, moveRows, clearStops, limit. By program (rgn/XEmuF.py). Own work. -/
import Derived.Test.YtnminmaklbhakaaGreatDoorEmuP
import Derived.Test.YtnminmaklbhakaaGreatDoorEmus2
namespace Go.Proofs.YtnminmaklbhakaaGreatDoor
set_option linter.unusedVariables false
set_option linter.unusedSimpArgs false
open Go.RowKit

set_option maxRecDepth 100000 in
set_option maxHeartbeats 3200000 in
theorem emu_erase (w : World) (e : Nat) (L : Loc) (m : EmM) (b n : Nat) (hb : b = 74 ∨ b = 75) (hn : n ≤ 9999) (h : EmR w e L m) :
    Calls Tryz.prog 98 #[.pointer (some ⟨e, 0, none⟩), .int .i64 (b : Int), .int .i64 (n : Int)] w fun v w' => v = .returned (.tuple #[]) ∧ EmR w' e L (m.erase b n) ∧ Mv e L L w w' := by
  have HE := Lib.hid h
  have hok := h.ok
  have hx := hok.x; have hy := hok.y; have w40 := hok.w40; have h20 := hok.h20; have htb := hok.tb; have hbh := hok.bh; have w2 := hok.w2; have h1 := hok.h1
  have hp := place_in hok
  have ha := area_le hok
  have HS := Lib.hid h.shownK
  have HB := Lib.hid h.blankK
  have HW := Lib.hid (grid_W w _ _ _ _ _ _ _ h.shown)
  have HH := Lib.hid (grid_H w _ _ _ _ _ _ _ h.shown)
  have HRE := Lib.hid (emu_rowEnds w e L m h)
  have HPL : Hid (∀ k, Calls Tryz.prog 125 #[.pointer (some ⟨e, 0, none⟩), .pointer (some ⟨L.sh.1, 0, none⟩)] (w.drewN k) fun v w' => v = .returned (.int .i64 (m.place : Int)) ∧ ∃ j, w' = (w.drewN k).drewN j) := Lib.hid (fun k => emu_place _ e L m (HE.out.drewN k))
  have hl : m.first b ≤ m.W * m.H ∧ m.last b ≤ m.W * m.H := by
    unfold EmM.first EmM.last
    have := Nat.succ_mul m.st.y m.W
    have e : (m.st.y + 1) * m.W = m.st.y * m.W + m.W := Nat.succ_mul m.st.y m.W
    rw [e]
    constructor <;> split <;> omega
  have HFI := Lib.hid (fun V k => h.fill m.place (m.last b) hl.2 V k)
  have HFJ := Lib.hid (fun V k => h.fill (m.first b) (m.place + 1) (by omega) V k)
  rw [show ((m.place + 1 : Nat) : Int) = (m.place : Int) + 1 by omega] at HFJ
  have HFK := Lib.hid (fun V k => h.fill (m.first b) (m.last b) hl.2 V k)
  have hwa : IntKind.i64.wrap ((m.W : Int) * (m.H : Int)) = ((m.W * m.H : Nat) : Int) := by rw [← Int.natCast_mul]; exact IntWalk.i64_in _ (by omega)
  have hwp : IntKind.i64.wrap ((m.place : Int) + 1) = ((m.place + 1 : Nat) : Int) := by rw [IntWalk.i64_in _ (by omega)]; omega
  have HFL : Hid (b = 75 → m.first b = m.st.y * m.W ∧ m.last b = (m.st.y + 1) * m.W) := Lib.hid (fun x => by subst x; exact ⟨rfl, rfl⟩)
  have HFM : Hid (b = 74 → m.first b = 0 ∧ m.last b = m.W * m.H) := Lib.hid (fun x => by subst x; exact ⟨rfl, rfl⟩)
  have HER : Hid (m.erase b n = if n = 0 then (m.fill m.place (m.last b)).soon else if n = 1 then (m.fill (m.first b) (m.place + 1)).soon else if n = 2 then (m.fill (m.first b) (m.last b)).soon else m) := rfl
  generalize hgf : m.first b = FI at *
  generalize hgl : m.last b = LA at *
  generalize hgp : m.place = PL at *
  generalize hga : m.W * m.H = AR at *
  generalize hgy : m.st.y * m.W = RY at *
  generalize hgz : (m.st.y + 1) * m.W = RZ at *
  clear h hok hgf hgl hgp hga hgy hgz hp ha hl
  go_enter Tryz.func98, Tryz.ntmps98
  go_upto_if 18 with (first | (refine (HS.out _ (Keep.refl _ _)).mono ?_; rintro v w3 ⟨rfl, hw3⟩; rw [hw3]; clear hw3) | (refine HW.out.mono ?_; rintro v w3 ⟨rfl, hw3⟩; rw [hw3]; clear hw3) | (refine HH.out.mono ?_; rintro v w3 ⟨rfl, hw3⟩; rw [hw3]; clear hw3) | fail)
  go_cut [7, 8] from 17 to 24 (fun fv lv wx => fv = .int .i64 (FI : Int) ∧ lv = .int .i64 (LA : Int) ∧ ∃ k, wx = w.drewN k)
  case first =>
    rcases hb with rfl | rfl
    · have e1 := HFM.out rfl
      go_wp2_with fail
      go_meet
      exact ⟨by rw [e1.1]; rfl, by rw [e1.2], 0, rfl⟩
    · have e1 := HFL.out rfl
      go_wp2_with fail
      refine HRE.out.mono ?_
      rintro v w3 ⟨rfl, k, hw3⟩
      rw [hw3]
      clear hw3
      go_wp2_with fail
      go_meet
      exact ⟨by rw [e1.1], by rw [e1.2], k, rfl⟩
  case rest =>
    obtain ⟨rfl, rfl, k0, hk0⟩ := hcut
    rw [hk0]
    clear hk0 HS HW HH HRE HFL HFM hwa
    by_cases h0 : n = 0
    · subst h0
      have E9 : Hid (m.erase b 0 = (m.fill PL LA).soon) := Lib.hid (by rw [HER.out]; rfl)
      clear HER
      have t0 : (((0 : Nat) : Int) == 0) = true := by rfl
      have t1 : (((0 : Nat) : Int) == 1) = false := by rfl
      have t2 : (((0 : Nat) : Int) == 2) = false := by rfl
      go_wp2_with ((refine (HPL.out _).mono ?_; rintro v w3 ⟨rfl, k1, hw3⟩; rw [hw3, World.drewN_drewN]; clear hw3))
      refine (HB.out _ ((Keep.refl _ w).drewN _)).mono ?_
      rintro v w4 ⟨rfl, hbk⟩
      have HK4 : Hid (Keep (fun _ => False) w w4) := Lib.hid (((Keep.refl _ w).drewN _).trans hbk (fun _ _ x => x))
      clear hbk
      go_wp2_with fail
      refine (HFI.out _ HK4.out).mono ?_
      rintro v w5 ⟨rfl, he, hm⟩
      have HE5 := Lib.hid (he.lateTo false)
      have HM5 := Lib.hid hm
      have d46 := (he.cell 24 46 rfl _ rfl).1
      have f46 := (he.cell 24 46 rfl _ rfl).2
      clear he hm
      go_wp2_with fail
      go_end0
      refine ⟨rfl, ?_, HM5.out.trans HE5.out.2⟩
      rw [E9.out]
      exact HE5.out.1
    by_cases h1 : n = 1
    · subst h1
      have E9 : Hid (m.erase b 1 = (m.fill FI (PL + 1)).soon) := Lib.hid (by rw [HER.out]; rfl)
      clear HER
      have t0 : (((1 : Nat) : Int) == 0) = false := by rfl
      have t1 : (((1 : Nat) : Int) == 1) = true := by rfl
      have t2 : (((1 : Nat) : Int) == 2) = false := by rfl
      go_wp2_with ((refine (HPL.out _).mono ?_; rintro v w3 ⟨rfl, k1, hw3⟩; rw [hw3, World.drewN_drewN]; clear hw3))
      refine (HB.out _ ((Keep.refl _ w).drewN _)).mono ?_
      rintro v w4 ⟨rfl, hbk⟩
      have HK4 : Hid (Keep (fun _ => False) w w4) := Lib.hid (((Keep.refl _ w).drewN _).trans hbk (fun _ _ x => x))
      clear hbk
      go_wp2_with fail
      refine (HFJ.out _ HK4.out).mono ?_
      rintro v w5 ⟨rfl, he, hm⟩
      have HE5 := Lib.hid (he.lateTo false)
      have HM5 := Lib.hid hm
      have d46 := (he.cell 24 46 rfl _ rfl).1
      have f46 := (he.cell 24 46 rfl _ rfl).2
      clear he hm
      go_wp2_with fail
      go_end0
      refine ⟨rfl, ?_, HM5.out.trans HE5.out.2⟩
      rw [E9.out]
      exact HE5.out.1
    by_cases h2 : n = 2
    · subst h2
      have E9 : Hid (m.erase b 2 = (m.fill FI LA).soon) := Lib.hid (by rw [HER.out]; rfl)
      clear HER
      have t0 : (((2 : Nat) : Int) == 0) = false := by rfl
      have t1 : (((2 : Nat) : Int) == 1) = false := by rfl
      have t2 : (((2 : Nat) : Int) == 2) = true := by rfl
      go_wp2_with ((refine (HPL.out _).mono ?_; rintro v w3 ⟨rfl, k1, hw3⟩; rw [hw3, World.drewN_drewN]; clear hw3))
      refine (HB.out _ ((Keep.refl _ w).drewN _)).mono ?_
      rintro v w4 ⟨rfl, hbk⟩
      have HK4 : Hid (Keep (fun _ => False) w w4) := Lib.hid (((Keep.refl _ w).drewN _).trans hbk (fun _ _ x => x))
      clear hbk
      go_wp2_with fail
      refine (HFK.out _ HK4.out).mono ?_
      rintro v w5 ⟨rfl, he, hm⟩
      have HE5 := Lib.hid (he.lateTo false)
      have HM5 := Lib.hid hm
      have d46 := (he.cell 24 46 rfl _ rfl).1
      have f46 := (he.cell 24 46 rfl _ rfl).2
      clear he hm
      go_wp2_with fail
      go_end0
      refine ⟨rfl, ?_, HM5.out.trans HE5.out.2⟩
      rw [E9.out]
      exact HE5.out.1
    have t0 : ((n : Int) == 0) = false := by simp; omega
    have t1 : ((n : Int) == 1) = false := by simp; omega
    have t2 : ((n : Int) == 2) = false := by simp; omega
    go_wp2_with ((refine (HPL.out _).mono ?_; rintro v w3 ⟨rfl, k1, hw3⟩; rw [hw3, World.drewN_drewN]; clear hw3))
    refine bodyPost_ret (results_none rfl _ _ _) rfl ?_
    rw [HER.out, if_neg h0, if_neg h1, if_neg h2]
    exact ⟨rfl, HE.out.drewN _, (Mv.refl _ _ _).drewN _⟩

set_option maxRecDepth 100000 in
set_option maxHeartbeats 3200000 in
theorem emu_moveRows (w : World) (e : Nat) (L : Loc) (m : EmM) (b n : Nat) (hb : b = 76 ∨ b = 77) (hn : n ≤ 9999) (h : EmR w e L m) :
    Calls Tryz.prog 101 #[.pointer (some ⟨e, 0, none⟩), .int .i64 (b : Int), .int .i64 (n : Int)] w fun v w' => v = .returned (.tuple #[]) ∧ EmR w' e L (m.moveRows b n) ∧ Mv e L L w w' := by
  have HE := Lib.hid h
  have hok := h.ok
  have hx := hok.x; have hy := hok.y; have w40 := hok.w40; have h20 := hok.h20; have htb := hok.tb; have hbh := hok.bh; have w2 := hok.w2; have h1 := hok.h1
  have c22 := (h.cell 0 22 rfl _ rfl).1
  have c23 := (h.cell 1 23 rfl _ rfl).1
  have c25 := (h.cell 3 25 rfl _ rfl).1
  have HS := Lib.hid h.shownK
  have HB := Lib.hid h.blankK
  go_enter Tryz.func101, Tryz.ntmps101
  go_upto_region 0 with fail
  go_cut [27] from 6 to 27 (fun v wx => v = .bool (decide (m.st.y < m.top ∨ m.bottom ≤ m.st.y)) ∧ ∃ k, wx = w.drewN k)
  case first =>
    by_cases h1 : m.st.y < m.top
    · have t0 : decide (m.st.y < m.top) = true := decide_eq_true h1
      have e1 : decide (m.st.y < m.top ∨ m.bottom ≤ m.st.y) = true := decide_eq_true (.inl h1)
      go_quiet (fail)
      go_wp2_with fail
      go_meet
      exact ⟨by rw [e1], _, rfl⟩
    · have t0 : decide (m.st.y < m.top) = false := decide_eq_false h1
      by_cases h2 : m.bottom ≤ m.st.y
      · have t1 : decide (m.bottom ≤ m.st.y) = true := decide_eq_true h2
        have e1 : decide (m.st.y < m.top ∨ m.bottom ≤ m.st.y) = true := decide_eq_true (.inr h2)
        go_quiet (fail)
        go_wp2_with fail
        go_meet
        exact ⟨by rw [e1], _, rfl⟩
      · have t1 : decide (m.bottom ≤ m.st.y) = false := decide_eq_false h2
        have e1 : decide (m.st.y < m.top ∨ m.bottom ≤ m.st.y) = false := decide_eq_false (fun x => x.elim h1 h2)
        go_quiet (fail)
        go_wp2_with fail
        go_meet
        exact ⟨by rw [e1], _, rfl⟩
  case rest =>
    obtain ⟨rfl, k0, hk0⟩ := hcut
    rw [hk0]
    clear hk0
    by_cases hin : m.st.y < m.top ∨ m.bottom ≤ m.st.y
    · have e1 : m.moveRows b n = m := if_pos hin
      have t0 : decide (m.st.y < m.top ∨ m.bottom ≤ m.st.y) = true := decide_eq_true hin
      rw [t0]
      clear h hok t0 hin
      go_wp2_with fail
      refine bodyPost_ret (results_none rfl _ _ _) rfl ?_
      exact ⟨rfl, HE.out.drewN _, (Mv.refl _ _ _).drewN _⟩
    · have t0 : decide (m.st.y < m.top ∨ m.bottom ≤ m.st.y) = false := decide_eq_false hin
      rw [t0]
      have hyb : m.st.y < m.bottom := by omega
      have HK0 := Lib.hid ((Keep.refl (fun _ => False) w).drewN k0)
      clear t0
      rcases hb with rfl | rfl
      · have e1 : m.moveRows 76 n = (m.put (downF m.W m.st.y m.bottom n m.blank m.shown)).goTo 0 m.st.y := if_neg hin
        have HU := Lib.hid (fun V k => h.down m.st.y m.bottom n hyb hbh V k)
        have t1 : (((76 : Nat) : Int) == 76) = true := by rfl
        clear h hok hin
        go_wp2_with fail
        go_region_law (first | (go_simp; go_at_call 28; refine (HS.out _ (by first | exact (Keep.refl _ _).drewN _ | exact ((Keep.refl _ _).drewN _).drew | exact ((Keep.refl _ _).drewN _).drewN _)).mono ?_; rintro v w3 ⟨rfl, hw3⟩; rw [hw3]; clear hw3) | (go_simp; go_at_call 68; refine (HB.out _ (by first | exact (Keep.refl _ _).drewN _ | exact ((Keep.refl _ _).drewN _).drew | exact ((Keep.refl _ _).drewN _).drewN _)).mono ?_; rintro v w4 ⟨rfl, hbk⟩; have HK4 : Hid (Keep (fun _ => False) w w4) := Lib.hid (Keep.trans (by first | exact (Keep.refl _ _).drewN _ | exact ((Keep.refl _ _).drewN _).drew | exact ((Keep.refl _ _).drewN _).drewN _) hbk (fun _ _ x => x)); have d22 := ((HE.out.quiet HK4.out).cell 0 22 rfl _ rfl).1; have d23 := ((HE.out.quiet HK4.out).cell 1 23 rfl _ rfl).1; have d25 := ((HE.out.quiet HK4.out).cell 3 25 rfl _ rfl).1; clear hbk) | (go_simp; go_at_call 119; refine (HU.out _ HK4.out).mono ?_; rintro v w5 ⟨rfl, he, hm⟩; have HE5 := Lib.hid he; have HM5 := Lib.hid hm; clear he hm) | fail)
        all_goals
          have g25 := (HE5.out.cellp 3 25 rfl _ rfl).1
          go_wp2_with fail
          refine (emu_goTo _ e L _ _ _ HE5.out).mono ?_
          rintro v w6 ⟨rfl, he, hm⟩
          have HE6 := Lib.hid he
          have HM6 := Lib.hid (HM5.out.trans hm)
          clear he hm
          go_wp2_with fail
          go_end0
          exact ⟨rfl, by rw [e1]; exact HE6.out, HM6.out⟩
      · have e1 : m.moveRows 77 n = (m.put (upF m.W m.st.y m.bottom n m.blank m.shown)).goTo 0 m.st.y := if_neg hin
        have HU := Lib.hid (fun V k => h.up m.st.y m.bottom n hyb hbh V k)
        have t1 : (((77 : Nat) : Int) == 76) = false := by rfl
        clear h hok hin
        go_wp2_with fail
        go_region_law (first | (go_simp; go_at_call 28; refine (HS.out _ (by first | exact (Keep.refl _ _).drewN _ | exact ((Keep.refl _ _).drewN _).drew | exact ((Keep.refl _ _).drewN _).drewN _)).mono ?_; rintro v w3 ⟨rfl, hw3⟩; rw [hw3]; clear hw3) | (go_simp; go_at_call 68; refine (HB.out _ (by first | exact (Keep.refl _ _).drewN _ | exact ((Keep.refl _ _).drewN _).drew | exact ((Keep.refl _ _).drewN _).drewN _)).mono ?_; rintro v w4 ⟨rfl, hbk⟩; have HK4 : Hid (Keep (fun _ => False) w w4) := Lib.hid (Keep.trans (by first | exact (Keep.refl _ _).drewN _ | exact ((Keep.refl _ _).drewN _).drew | exact ((Keep.refl _ _).drewN _).drewN _) hbk (fun _ _ x => x)); have d22 := ((HE.out.quiet HK4.out).cell 0 22 rfl _ rfl).1; have d23 := ((HE.out.quiet HK4.out).cell 1 23 rfl _ rfl).1; have d25 := ((HE.out.quiet HK4.out).cell 3 25 rfl _ rfl).1; clear hbk) | (go_simp; go_at_call 87; refine (HU.out _ HK4.out).mono ?_; rintro v w5 ⟨rfl, he, hm⟩; have HE5 := Lib.hid he; have HM5 := Lib.hid hm; clear he hm) | fail)
        all_goals
          have g25 := (HE5.out.cellp 3 25 rfl _ rfl).1
          go_wp2_with fail
          refine (emu_goTo _ e L _ _ _ HE5.out).mono ?_
          rintro v w6 ⟨rfl, he, hm⟩
          have HE6 := Lib.hid he
          have HM6 := Lib.hid (HM5.out.trans hm)
          clear he hm
          go_wp2_with fail
          go_end0
          exact ⟨rfl, by rw [e1]; exact HE6.out, HM6.out⟩

end Go.Proofs.YtnminmaklbhakaaGreatDoor
