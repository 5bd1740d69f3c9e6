/- emu: edit, clearStops, limit, turnUnmarked. Own work. emu: Alt, Region, turnUnmarked, rowTold. Own work. emu: the other screen. Own work. emu: turnOther. Own work. emu: numbers as texts, what is replied. Own work. -/
import Derived.Test.YtnminmaklbhakaaGreatDoorEmuP
import Derived.Test.YtnminmaklbhakaaGreatDoorEscs2
set_option linter.unusedVariables false
set_option linter.unusedSimpArgs false
namespace Go.Proofs.YtnminmaklbhakaaGreatDoor
set_option linter.unusedVariables false
set_option linter.unusedSimpArgs false
open Go.RowKit

/-- The stops were changed. -/
theorem EmR.stopsTo {w w' : World} {e : Nat} {L : Loc} {m : EmM} (h : EmR w e L m) {l : List Bool} (k : Keep (· = L.sg) w w') (hs : StopsAt w' L.sp L.sg m.W L.sc l) : EmR w' e L { m with stops := l } ∧ Mv e L L w w' := by
  have nd := h.g.nd
  have hne : L.sg ≠ e := by
    simp only [Loc.bl, List.nodup_cons, List.mem_cons, not_or] at nd
    exact fun x => nd.1.2.2.2.1 x.symm
  have hT : L.T e L.sg := by simp [Loc.T, Loc.bl]
  refine ⟨⟨?_, h.cs.keep k (fun x => hne x.symm), h.ok.stops l (hs.len.trans h.ok.sl.symm)⟩, (Mv.refl e L w).turn h.elt k (fun i hi => by subst hi; exact ⟨hT, hne⟩)⟩
  simp only [Loc.bl, List.nodup_cons, List.mem_cons, not_or] at nd
  obtain ⟨⟨n1, n2, n3, n4, n5⟩, ⟨p2, p3, p4, p5⟩, ⟨q3, q4, q5⟩, ⟨r4, r5⟩, s5, -⟩ := nd
  refine ⟨h.g.cm.keep k (fun x => n4 x), h.g.gm.keep k (fun x => p4 x) (fun x => q4 x), ?_, h.g.ct.keep k (fun x => n4 x), hs, h.g.nd⟩
  rcases h.g.co with ⟨a, b, c⟩ | ⟨a, b, c, G, ho, hG, hc, hg⟩
  · exact .inl ⟨a, b, c.keep k (fun x => n4 x)⟩
  · simp [Loc.ob, ho] at s5
    exact .inr ⟨a, b, c, G, ho, hG, hc.keep k (fun x => n4 x), hg.keep k (fun x => s5.1 x.symm) (fun x => s5.2 x.symm)⟩

theorem EmR.setStop {w : World} {e : Nat} {L : Loc} {m : EmM} (h : EmR w e L m) (V : World) (K : Keep (fun _ => False) (w.alloc (.cells #[.int .i64 (m.st.x : Int)] 3)) V) :
    Calls Tryz.prog 94 #[.pointer (some ⟨L.sp, 0, none⟩), .slice (some ⟨w.heap.size, 0, none⟩) 1 1] V fun v w' => v = .returned (.tuple #[]) ∧ EmR w' e L { m with stops := putL true m.stops [(m.st.x : Int)] } ∧ Mv e L L w w' := by
  have K2 := ((Keep.refl (fun _ => False) w).alloc (.cells #[.int .i64 (m.st.x : Int)] 3)).trans K (fun _ _ x => x)
  have hV := h.quiet K2
  have hsrc : Src V (some ⟨w.heap.size, 0, none⟩) 1 ([(m.st.x : Int)].map (Value.int .i64)) := (src_new w ([(m.st.x : Int)].map (Value.int .i64)) 3 _ rfl _ rfl).keep K
  have hlt := h.lt L.sg (by simp [Loc.T, Loc.bl])
  refine (chart_set V _ _ _ _ _ _ 1 1 [(m.st.x : Int)] hV.g.sp hsrc (fun _ _ e => by simp [blk] at e; omega) (by omega)).mono ?_
  rintro v w' ⟨rfl, hs, hk⟩
  have := hV.stopsTo (hk.mono (fun i _ x => x.1)) hs
  exact ⟨rfl, this.1, ((Mv.refl e L w).quiet h.elt K2).trans this.2⟩
theorem EmR.clearStop {w : World} {e : Nat} {L : Loc} {m : EmM} (h : EmR w e L m) (V : World) (K : Keep (fun _ => False) (w.alloc (.cells #[.int .i64 (m.st.x : Int)] 3)) V) :
    Calls Tryz.prog 128 #[.pointer (some ⟨L.sp, 0, none⟩), .slice (some ⟨w.heap.size, 0, none⟩) 1 1] V fun v w' => v = .returned (.tuple #[]) ∧ EmR w' e L { m with stops := putL false m.stops [(m.st.x : Int)] } ∧ Mv e L L w w' := by
  have K2 := ((Keep.refl (fun _ => False) w).alloc (.cells #[.int .i64 (m.st.x : Int)] 3)).trans K (fun _ _ x => x)
  have hV := h.quiet K2
  have hsrc : Src V (some ⟨w.heap.size, 0, none⟩) 1 ([(m.st.x : Int)].map (Value.int .i64)) := (src_new w ([(m.st.x : Int)].map (Value.int .i64)) 3 _ rfl _ rfl).keep K
  have hlt := h.lt L.sg (by simp [Loc.T, Loc.bl])
  refine (chart_clear V _ _ _ _ _ _ 1 1 [(m.st.x : Int)] hV.g.sp hsrc (fun _ _ e => by simp [blk] at e; omega) (by omega)).mono ?_
  rintro v w' ⟨rfl, hs, hk⟩
  have := hV.stopsTo (hk.mono (fun i _ x => x.1)) hs
  exact ⟨rfl, this.1, ((Mv.refl e L w).quiet h.elt K2).trans this.2⟩

set_option maxRecDepth 100000 in
set_option maxHeartbeats 1600000 in
theorem emu_clearStops (w : World) (e : Nat) (L : Loc) (m : EmM) (n : Nat) (hn : n ≤ 9999) (h : EmR w e L m) :
    Calls Tryz.prog 102 #[.pointer (some ⟨e, 0, none⟩), .int .i64 (n : Int)] w fun v w' => v = .returned (.tuple #[]) ∧ EmR w' e L (m.clearStops n) ∧ Mv e L L w w' := by
  have HE := Lib.hid h
  have helt := h.elt
  have c21 := h.g.ct.1
  have c24 := (h.cell 2 24 rfl _ rfl).1
  by_cases h0 : n = 0
  · subst h0
    have e1 : m.clearStops 0 = { m with stops := putL false m.stops [(m.st.x : Int)] } := rfl
    rw [e1]
    have HC := Lib.hid h.clearStop
    have t0 : (((0 : Nat) : Int) == 0) = true := rfl
    clear h e1
    go_enter Tryz.func102, Tryz.ntmps102
    go_wp2_with fail
    go_region_law (first | (go_simp; go_at_call 128; refine (HC.out _ (by first | exact Keep.refl _ _ | exact (Keep.refl _ _).drew | exact (Keep.refl _ _).drewN _)).mono ?_; rintro v w5 ⟨rfl, he, hm⟩; have HE5 := Lib.hid he; have HM5 := Lib.hid hm; clear he hm) | fail)
    all_goals
      go_wp2_with fail
      go_end0
      exact ⟨rfl, HE5.out, HM5.out⟩
  · by_cases h3 : n = 3
    · subst h3
      have e1 : m.clearStops 3 = { m with stops := List.replicate m.stops.length false } := rfl
      rw [e1]
      have HC : Hid (Calls Tryz.prog 129 #[.pointer (some ⟨L.sp, 0, none⟩)] w fun v w' => v = .returned (.tuple #[]) ∧ EmR w' e L { m with stops := List.replicate m.stops.length false } ∧ Mv e L L w w') := Lib.hid (by
        refine (chart_none w _ _ _ _ _ h.g.sp).mono ?_
        rintro v w' ⟨rfl, hs, hk⟩
        rw [← h.ok.sl] at hs
        exact ⟨rfl, h.stopsTo (hk.mono (fun i _ x => x.1)) (by rw [h.ok.sl] at hs ⊢; exact hs)⟩)
      have t0 : (((3 : Nat) : Int) == 0) = false := rfl
      have t3 : (((3 : Nat) : Int) == 3) = true := rfl
      clear h e1
      go_enter Tryz.func102, Tryz.ntmps102
      go_wp2_with fail
      refine HC.out.mono ?_
      rintro v w5 ⟨rfl, he, hm⟩
      have HE5 := Lib.hid he
      have HM5 := Lib.hid hm
      clear he hm
      go_wp2_with fail
      go_end0
      exact ⟨rfl, HE5.out, HM5.out⟩
    · have e1 : m.clearStops n = m := by unfold EmM.clearStops; rw [if_neg h0, if_neg h3]
      rw [e1]
      have t0 : ((n : Int) == 0) = false := by simp; omega
      have t3 : ((n : Int) == 3) = false := by simp; omega
      clear h e1
      go_enter Tryz.func102, Tryz.ntmps102
      go_wp2_with fail
      go_end0
      exact ⟨rfl, HE.out, Mv.refl _ _ _⟩

theorem EmR.region {w : World} {e : Nat} {L : Loc} {m : EmM} (h : EmR w e L m) (t b : Nat) (htb : t < b) (hb : b ≤ m.H) :
    EmR ((w.setCell ⟨e, 22, none⟩ (.int .i64 (t : Int))).setCell ⟨e, 23, none⟩ (.int .i64 (b : Int))) e L { m with top := t, bottom := b } ∧ Mv e L L w ((w.setCell ⟨e, 22, none⟩ (.int .i64 (t : Int))).setCell ⟨e, 23, none⟩ (.int .i64 (b : Int))) :=
  ⟨⟨(h.g.set 22 (by omega) _).set 23 (by omega) _, (h.cs.set 0 (by rw [m.cs_len]; omega) _ rfl).set 1 (by rw [List.length_set, m.cs_len]; omega) _ rfl,
    ⟨h.ok.w2, h.ok.w40, h.ok.h1, h.ok.h20, h.ok.sl, htb, hb, h.ok.x, h.ok.y, h.ok.sx, h.ok.sy, h.ok.a0, h.ok.a1, h.ok.b0, h.ok.b1, h.ok.u, h.ok.v, h.ok.p, h.ok.r⟩⟩, ((Mv.refl e L w).set 22 (by omega) _).set 23 (by omega) _⟩

set_option maxRecDepth 100000 in
set_option maxHeartbeats 1600000 in
theorem emu_limit (w : World) (e : Nat) (L : Loc) (m : EmM) (t b : Nat) (ht : t ≤ 9999) (hb : b ≤ 9999) (h : EmR w e L m) :
    Calls Tryz.prog 103 #[.pointer (some ⟨e, 0, none⟩), .int .i64 (t : Int), .int .i64 (b : Int)] w fun v w' => v = .returned (.tuple #[]) ∧ EmR w' e L (m.limit t b) ∧ Mv e L L w w' := by
  have HE := Lib.hid h
  have h20 := h.ok.h20
  have HS := Lib.hid h.shownK
  have HH := Lib.hid (grid_H w _ _ _ _ _ _ _ h.shown)
  have c22 := (h.cell 0 22 rfl _ rfl).1; have f22 := (h.cell 0 22 rfl _ rfl).2
  have c23 := (h.cell 1 23 rfl _ rfl).1; have f23 := (h.cell 1 23 rfl _ rfl).2
  have HLH : Hid (m.low b ≤ m.H) := Lib.hid (by unfold EmM.low; split <;> omega)
  go_enter Tryz.func103, Tryz.ntmps103
  go_upto_region 1 with (first | (refine (HS.out _ (Keep.refl _ _)).mono ?_; rintro v w3 ⟨rfl, hw3⟩; rw [hw3]; clear hw3) | (refine HH.out.mono ?_; rintro v w3 ⟨rfl, hw3⟩; rw [hw3]; clear hw3) | fail)
  go_cut [16] from 10 to 16 (fun v wx => v = .bool (decide (b = 0 ∨ m.H < b)) ∧ wx = w)
  case first =>
    by_cases h0 : b = 0
    · have t0 : ((b : Int) == 0) = true := by simp; omega
      have e1 : decide (b = 0 ∨ m.H < b) = true := decide_eq_true (.inl h0)
      go_wp2_with fail
      go_meet
      exact ⟨by rw [e1], rfl⟩
    · have t0 : ((b : Int) == 0) = false := by simp; omega
      have e1 : decide (b = 0 ∨ m.H < b) = decide ((b : Int) > (m.H : Int)) := by rw [Bool.eq_iff_iff]; simp; omega
      go_wp2_with fail
      go_meet
      exact ⟨by rw [e1]; simp, rfl⟩
  case rest =>
    obtain ⟨rfl, hwc⟩ := hcut
    rw [hwc]
    clear hwc
    go_upto_if 16 with fail
    go_cut [2] from 16 to 17 (fun v wx => v = .int .i64 (m.low b : Int) ∧ wx = w)
    case first =>
      by_cases h0 : b = 0 ∨ m.H < b
      · have t0 : decide (b = 0 ∨ m.H < b) = true := decide_eq_true h0
        have e1 : m.low b = m.H := if_pos h0
        rw [t0]
        go_wp2_with fail
        go_meet
        exact ⟨by rw [e1], rfl⟩
      · have t0 : decide (b = 0 ∨ m.H < b) = false := decide_eq_false h0
        have e1 : m.low b = b := if_neg h0
        rw [t0]
        go_wp2_with fail
        go_meet
        exact ⟨by rw [e1], rfl⟩
    case rest =>
      obtain ⟨rfl, hwc⟩ := hcut
      rw [hwc]
      clear hwc
      by_cases hl : m.low b ≤ t + 1
      · have E1 : Hid (m.limit t b = m) := Lib.hid (if_pos hl)
        generalize m.low b = B at *
        have hlh := HLH.out
        have t0 : decide ((t : Int) ≥ (B : Int) - 1) = true := by simp; omega
        have t1 : decide ((B : Int) - 1 ≤ (t : Int)) = true := by simp; omega
        clear h
        go_wp2_with fail
        refine bodyPost_ret (results_none rfl _ _ _) rfl ?_
        exact ⟨rfl, by rw [E1.out]; exact HE.out, Mv.refl _ _ _⟩
      · have E1 : Hid (m.limit t b = ({ m with top := t, bottom := m.low b } : EmM).home) := Lib.hid (if_neg hl)
        have hlh := HLH.out
        have HRG := Lib.hid (h.region t (m.low b) (by omega) hlh)
        generalize m.low b = B at *
        have t0 : decide ((t : Int) ≥ (B : Int) - 1) = false := by simp; omega
        have t1 : decide ((B : Int) - 1 ≤ (t : Int)) = false := by simp; omega
        clear h
        go_wp2_with fail
        refine (emu_home _ e L _ HRG.out.1).mono ?_
        rintro v w5 ⟨rfl, he, hm⟩
        have HE5 := Lib.hid he
        have HM5 := Lib.hid (HRG.out.2.trans hm)
        clear he hm
        go_wp2_with fail
        go_end0
        exact ⟨rfl, by rw [E1.out]; exact HE5.out, HM5.out⟩

theorem EmR.insTo {w : World} {e : Nat} {L : Loc} {m : EmM} (h : EmR w e L m) (b : Bool) : EmR (w.setCell ⟨e, 47, none⟩ (.bool b)) e L { m with ins := b } ∧ Mv e L L w (w.setCell ⟨e, 47, none⟩ (.bool b)) :=
  ⟨⟨h.g.set 47 (by omega) _, h.cs.set 25 (by rw [m.cs_len]; omega) _ rfl, ⟨h.ok.w2, h.ok.w40, h.ok.h1, h.ok.h20, h.ok.sl, h.ok.tb, h.ok.bh, h.ok.x, h.ok.y, h.ok.sx, h.ok.sy, h.ok.a0, h.ok.a1, h.ok.b0, h.ok.b1, h.ok.u, h.ok.v, h.ok.p, h.ok.r⟩⟩, (Mv.refl e L w).set 47 (by omega) _⟩

end Go.Proofs.YtnminmaklbhakaaGreatDoor
namespace Go.Proofs.YtnminmaklbhakaaGreatDoor
set_option linter.unusedVariables false
set_option linter.unusedSimpArgs false
open Go.RowKit

set_option maxHeartbeats 1600000 in
theorem emu_alt (w : World) (e : Nat) (L : Loc) (m : EmM) (h : EmR w e L m) :
    Calls Tryz.prog 134 #[.pointer (some ⟨e, 0, none⟩)] w fun v w' => v = .returned (.bool m.alt) ∧ w' = w := by
  have HR := Lib.hid (emu_ready w e L m h)
  rcases h.g.co with ⟨a, b, co⟩ | ⟨a, b, c, G, ho, hG, co, hg⟩
  · have e1 : m.alt = false := by unfold EmM.alt; rw [b]; rfl
    rw [e1]
    have c2 := co.1
    clear h a b e1 co
    go_enter Tryz.func134, Tryz.ntmps134
    go_wp2_with ((refine HR.out.mono ?_; rintro v w1 ⟨rfl, hw1⟩; rw [hw1]; clear hw1))
    go_ret
    exact ⟨rfl, rfl⟩
  · have e1 : m.alt = true := by unfold EmM.alt; rw [hG]; rfl
    rw [e1]
    have c2 := co.1
    clear h ho hG hg e1 co
    go_enter Tryz.func134, Tryz.ntmps134
    go_wp2_with ((refine HR.out.mono ?_; rintro v w1 ⟨rfl, hw1⟩; rw [hw1]; clear hw1))
    go_ret
    exact ⟨rfl, rfl⟩

set_option maxHeartbeats 1600000 in
theorem emu_region (w : World) (e : Nat) (L : Loc) (m : EmM) (h : EmR w e L m) :
    Calls Tryz.prog 11 #[.pointer (some ⟨e, 0, none⟩)] w fun v w' => v = .returned (.tuple #[.int .i64 (m.top : Int), .int .i64 (m.bottom : Int)]) ∧ ∃ k, w' = w.drewN k := by
  have HR := Lib.hid (emu_ready w e L m h)
  have c22 := (h.cell 0 22 rfl _ rfl).1; have c23 := (h.cell 1 23 rfl _ rfl).1
  clear h
  go_enter Tryz.func11, Tryz.ntmps11
  go_wp2_with ((refine HR.out.mono ?_; rintro v w1 ⟨rfl, hw1⟩; rw [hw1]; clear hw1))
  go_quiet (fail)
  go_wp2_with fail
  go_ret2
  exact ⟨rfl, _, rfl⟩

theorem fold_take {α : Type} (f : α → Int → α) (a : α) (xs : List Int) (k : Nat) (x : Int) (h : xs[k]? = some x) : (xs.take (k + 1)).foldl f a = f ((xs.take k).foldl f a) x := by
  rw [take_next h, List.foldl_append]; rfl

set_option maxHeartbeats 1600000 in
theorem emu_turnU (w : World) (e : Nat) (L : Loc) (m : EmM) (on : Bool) (A : Option Addr) (n c : Nat) (xs : List Int) (h : EmR w e L m) (hs : Src w A n (xs.map (Value.int .i64))) (hfar : 0 < n → ∀ b, blk A = some b → ¬ L.T e b) (hn : n ≤ 100000) (hxs : ∀ x ∈ xs, -1 ≤ x ∧ x ≤ 9999) :
    Calls Tryz.prog 105 #[.pointer (some ⟨e, 0, none⟩), .bool on, .slice A n c] w fun v w' => v = .returned (.tuple #[]) ∧ EmR w' e L (xs.foldl (EmM.turnU on) m) ∧ Mv e L L w w' := by
  have hl := Lib.hid (show xs.length = n from by have := hs.1; rwa [List.length_map] at this)
  have HS := Lib.hid hs
  have HF := Lib.hid hfar
  have HX := Lib.hid hxs
  have H0 := Lib.hid h
  clear h hs hfar hxs
  go_enter Tryz.func105, Tryz.ntmps105
  go_wp2_with fail
  go_loopw [10] (fun i wr => ∃ k : Nat, i = .int .i64 k ∧ k ≤ n ∧ Hid (EmR wr e L ((xs.take k).foldl (EmM.turnU on) m) ∧ Mv e L L w wr)) (fun i _ => n - (intOf i).toNat)
  case atStart => exact ⟨0, rfl, by omega, by show EmR _ _ _ _ ∧ _; exact ⟨H0.out, Mv.refl _ _ _⟩⟩
  case round =>
    obtain ⟨k, rfl, hk, HK⟩ := hrel
    by_cases hlt : k < n
    · obtain ⟨x, hx⟩ : ∃ x, xs[k]? = some x := ⟨xs[k]'(by rw [hl.out]; exact hlt), List.getElem?_eq_getElem _⟩
      have hb := HX.out x (List.mem_of_getElem? hx)
      have hsr : Src wr A n (xs.map (Value.int .i64)) := HS.out.of_keep HK.out.2.keep (fun i hi hT => HF.out (by omega) i hi hT)
      obtain ⟨b, o, rfl, hbl, hc⟩ := hsr.2 (by omega)
      have hcell : wr.cell? ⟨b, o + k, none⟩ = some (.int .i64 x) := hc k _ (by rw [List.getElem?_map, hx]; rfl)
      have hki : ((k : Int) < (n : Int)) := by omega
      have hk0 : (0 : Int) ≤ (k : Int) := by omega
      have HT := Lib.hid (fold_take (EmM.turnU on) m xs k x hx)
      generalize hg : (xs.take k).foldl (EmM.turnU on) m = mk at *
      have c47 := (HK.out.1.cell 25 47 rfl _ rfl).1
      have f47 := (HK.out.1.cell 25 47 rfl _ rfl).2
      clear hc hsr hg hx
      by_cases h4 : x = 4
      · subst h4
        have HI := Lib.hid (HK.out.1.insTo on)
        go_wp2_with fail
        go_roundw
        case rel => exact ⟨k + 1, by go_num, by omega, by show EmR _ _ _ _ ∧ _; rw [HT.out]; exact ⟨HI.out.1, HK.out.2.trans HI.out.2⟩⟩
        case measure => simp [intOf]; omega
      · have t4 : (x == 4) = false := by simp [h4]
        have e1 : EmM.turnU on mk x = mk := if_neg h4
        rw [e1] at HT
        clear e1
        go_wp2_with fail
        go_roundw
        case rel => exact ⟨k + 1, by go_num, by omega, by show EmR _ _ _ _ ∧ _; rw [HT.out]; exact HK.out⟩
        case measure => simp [intOf]; omega
    · obtain rfl : k = n := by omega
      have hfin := HK.out
      rw [List.take_of_length_le (by rw [hl.out]; omega)] at hfin
      have HFI := Lib.hid hfin
      clear hfin
      go_wp2_with fail
      go_end0
      exact ⟨rfl, HFI.out⟩

theorem rowTold_le {m : EmM} (h : m.Ok) : 1 ≤ m.rowTold ∧ m.rowTold ≤ 20 := by
  have := h.y; have := h.h20
  unfold EmM.rowTold
  split <;> omega

set_option maxHeartbeats 1600000 in
theorem emu_rowTold (w : World) (e : Nat) (L : Loc) (m : EmM) (h : EmR w e L m) :
    Calls Tryz.prog 133 #[.pointer (some ⟨e, 0, none⟩)] w fun v w' => v = .returned (.int .i64 (m.rowTold : Int)) ∧ ∃ k, w' = w.drewN k := by
  have hok := h.ok
  have hy := hok.y; have h20 := hok.h20; have hbh := hok.bh; have htb := hok.tb
  have c22 := (h.cell 0 22 rfl _ rfl).1; have c25 := (h.cell 3 25 rfl _ rfl).1
  have c31 := (h.cell 9 31 rfl _ rfl).1
  by_cases hb : m.st.origin = true
  · have e1 : (m.rowTold : Int) = max ((m.st.y : Int) + 1 - (m.top : Int)) 1 := by unfold EmM.rowTold; rw [if_pos hb]; omega
    rw [e1]
    rw [hb] at c31
    clear h hok e1 hb
    go_enter Tryz.func133, Tryz.ntmps133
    go_wp2_with fail
    go_quiet (fail)
    go_wp2_with fail
    go_ret
    exact ⟨rfl, _, rfl⟩
  · have e1 : (m.rowTold : Int) = (m.st.y : Int) + 1 := by unfold EmM.rowTold; rw [if_neg hb]; omega
    rw [e1]
    rw [Bool.not_eq_true] at hb
    rw [hb] at c31
    clear h hok e1 hb
    go_enter Tryz.func133, Tryz.ntmps133
    go_wp2_with fail
    go_ret
    exact ⟨rfl, 0, rfl⟩

end Go.Proofs.YtnminmaklbhakaaGreatDoor
namespace Go.Proofs.YtnminmaklbhakaaGreatDoor
set_option linter.unusedVariables false
set_option linter.unusedSimpArgs false
open Go.RowKit

theorem Mv.base {e : Nat} {L L1 : Loc} {w w' : World} (h : Mv e L L1 w w') (L2 : Loc) (hn : ∀ i, L2.T e i → L.T e i ∨ w.heap.size ≤ i) : Mv e L L2 w w' := ⟨h.keep, h.low, hn⟩

/-- The other screen is gone. -/
theorem EmR.noOther {w : World} {e : Nat} {L : Loc} {m : EmM} (h : EmR w e L m) : EmR (w.setCell ⟨e, 20, none⟩ (.pointer none)) e { L with oth := none } { m with O := none } ∧ Mv e L { L with oth := none } w (w.setCell ⟨e, 20, none⟩ (.pointer none)) := by
  have k := keep_set w e 20 (.pointer none)
  have nd := h.g.nd
  have nd2 : (({ L with oth := none } : Loc).bl e).Nodup := by
    have : (({ L with oth := none } : Loc).bl e).Sublist (L.bl e) := by
      simp only [Loc.bl, Loc.ob]
      exact ((((List.nil_sublist _).cons_cons _).cons_cons _).cons_cons _).cons_cons _ |>.cons_cons _
    exact nd.sublist this
  simp only [Loc.bl, List.nodup_cons, List.mem_cons, not_or] at nd
  obtain ⟨⟨n1, n2, n3, n4, n5⟩, -⟩ := nd
  have c20 : Cell (w.setCell ⟨e, 20, none⟩ (.pointer none)) e 20 (.pointer none) := by
    rcases h.g.co with ⟨a, b, c⟩ | ⟨a, b, c, G, ho, hG, hc, hg⟩
    · exact c.set _
    · exact hc.set _
  refine ⟨⟨⟨h.g.cm.far (by omega) _, h.g.gm.keep k (fun x => n1 x.symm) (fun x => n2 x.symm), .inl ⟨rfl, rfl, c20⟩, h.g.ct.far (by omega) _, h.g.sp.keep k (fun x => n3 x.symm) (fun x => n4 x.symm), nd2⟩, h.cs.far (fun _ => by omega) _, h.ok.noO none⟩,
    ((Mv.refl e L w).set 20 (by omega) _).base _ (fun i hi => .inl ?_)⟩
  simp only [Loc.T, Loc.bl, Loc.ob, List.mem_cons] at hi ⊢
  rcases hi with x | x | x | x | x | x
  · exact .inl x
  · exact .inr (.inl x)
  · exact .inr (.inr (.inl x))
  · exact .inr (.inr (.inr (.inl x)))
  · exact .inr (.inr (.inr (.inr (.inl x))))
  · cases x

/-- Another screen, that was just made. -/
theorem EmR.other {w V : World} {e : Nat} {L : Loc} {m : EmM} (h : EmR w e L m) (k : Keep (fun _ => False) w V) (a b c : Nat) (G : Nat → CellM) (hg : GridAt V a b c m.W m.H (m.W * m.H) G) (ha : w.heap.size ≤ a) (hb : w.heap.size ≤ b) (hO : L.oth = none) :
    EmR (V.setCell ⟨e, 20, none⟩ (.pointer (some ⟨a, 0, none⟩))) e { L with oth := some (a, b, c) } { m with O := some G } ∧ Mv e L { L with oth := some (a, b, c) } w (V.setCell ⟨e, 20, none⟩ (.pointer (some ⟨a, 0, none⟩))) := by
  have h2 := h.quiet k
  have kk := keep_set V e 20 (.pointer (some ⟨a, 0, none⟩))
  have lt := h.lt
  have nd := h2.g.nd
  have he := h.elt
  have nd2 : (({ L with oth := some (a, b, c) } : Loc).bl e).Nodup := by
    have ln : ∀ i, i ∈ [e, L.p, L.g, L.sp, L.sg] → i < w.heap.size := fun i hi => lt i (by simp only [Loc.T, Loc.bl, Loc.ob, hO]; exact hi)
    have n0 : [e, L.p, L.g, L.sp, L.sg].Nodup := by simpa [Loc.bl, Loc.ob, hO] using nd
    have : ({ L with oth := some (a, b, c) } : Loc).bl e = [e, L.p, L.g, L.sp, L.sg] ++ [a, b] := rfl
    rw [this]
    refine List.nodup_append.2 ⟨n0, ?_, fun x hx y hy e => ?_⟩
    · have := hg.ne; simp; exact fun x => this x.symm
    · have := ln x hx
      simp at hy
      omega
  simp only [Loc.bl, List.nodup_cons, List.mem_cons, not_or] at nd
  obtain ⟨⟨n1, n2, n3, n4, n5⟩, -⟩ := nd
  have c20 : Cell (V.setCell ⟨e, 20, none⟩ (.pointer (some ⟨a, 0, none⟩))) e 20 (.pointer (some ⟨a, 0, none⟩)) := by
    rcases h2.g.co with ⟨_, _, c⟩ | ⟨_, _, _, _, _, _, hc, _⟩
    · exact c.set _
    · exact hc.set _
  refine ⟨⟨⟨h2.g.cm.far (by omega) _, h2.g.gm.keep kk (fun x => n1 x.symm) (fun x => n2 x.symm), .inr ⟨a, b, c, G, rfl, rfl, c20, hg.keep kk (fun x => by omega) (fun x => by omega)⟩, h2.g.ct.far (by omega) _, h2.g.sp.keep kk (fun x => n3 x.symm) (fun x => n4 x.symm), nd2⟩, h2.cs.far (fun _ => by omega) _, h2.ok.noO _⟩,
    ((((Mv.refl e L w).quiet he k).set 20 (by omega) _)).base _ (fun i hi => ?_)⟩
  simp only [Loc.T] at hi ⊢
  have : ({ L with oth := some (a, b, c) } : Loc).bl e = L.bl e ++ [a, b] := by simp [Loc.bl, Loc.ob, hO]
  rw [this] at hi
  rcases List.mem_append.1 hi with x | x
  · exact .inl x
  · simp at x; rcases x with rfl | rfl <;> exact .inr (by omega)

end Go.Proofs.YtnminmaklbhakaaGreatDoor
namespace Go.Proofs.YtnminmaklbhakaaGreatDoor
set_option linter.unusedVariables false
set_option linter.unusedSimpArgs false
open Go.RowKit

theorem EmR.congrO {w : World} {e : Nat} {L : Loc} {m : EmM} {G G' : Nat → CellM} (h : EmR w e L { m with O := some G }) (hc : ∀ k, k < m.W * m.H → G k = G' k) : EmR w e L { m with O := some G' } := by
  refine ⟨⟨h.g.cm, h.g.gm, ?_, h.g.ct, h.g.sp, h.g.nd⟩, h.cs, h.ok.noO (some G')⟩
  rcases h.g.co with ⟨_, b, _⟩ | ⟨a, b, c, G0, ho, hG, hc', hg⟩
  · cases b
  · injection hG with hG
    subst hG
    exact .inr ⟨a, b, c, G', ho, rfl, hc', hg.congr hc⟩

set_option maxRecDepth 100000 in
set_option maxHeartbeats 3200000 in
theorem emu_turnOther (w : World) (e : Nat) (L : Loc) (m : EmM) (on : Bool) (h : EmR w e L m) :
    Calls Tryz.prog 108 #[.pointer (some ⟨e, 0, none⟩), .bool on] w fun v w' => v = .returned (.tuple #[]) ∧ ∃ L', EmR w' e L' (m.turnOther on) ∧ Mv e L L' w w' := by
  have HE := Lib.hid h
  have HA := Lib.hid (emu_alt w e L m h)
  by_cases hs : on = m.alt
  · have E1 : Hid (m.turnOther on = m) := Lib.hid (if_pos hs)
    rw [← hs] at HA
    have t0 : (on == on) = true := by simp
    clear h hs
    go_enter Tryz.func108, Tryz.ntmps108
    go_wp2_with fail
    refine HA.out.mono ?_
    rintro v w1 ⟨rfl, hw1⟩
    rw [hw1]
    clear hw1
    go_wp2_with fail
    go_end0
    exact ⟨rfl, L, by rw [E1.out]; exact HE.out, Mv.refl _ _ _⟩
  · cases on
    · have halt : m.alt = true := by cases hq : m.alt; exact absurd hq.symm hs; rfl
      have E1 : Hid (m.turnOther false = ({ m with O := none } : EmM).restore) := Lib.hid (by unfold EmM.turnOther; rw [if_neg hs]; rfl)
      rw [halt] at HA
      have HN := Lib.hid h.noOther
      have c20 : ∃ x, Cell w e 20 x := by
        rcases h.g.co with ⟨_, _, c⟩ | ⟨_, _, _, _, _, _, c, _⟩
        · exact ⟨_, c⟩
        · exact ⟨_, c⟩
      obtain ⟨x20, c20⟩ := c20
      have d20 := c20.1
      have f20 := c20.2
      clear h hs halt c20
      go_enter Tryz.func108, Tryz.ntmps108
      go_wp2_with fail
      refine HA.out.mono ?_
      rintro v w1 ⟨rfl, hw1⟩
      rw [hw1]
      clear hw1
      go_wp2_with fail
      refine (emu_restore _ e _ _ HN.out.1).mono ?_
      rintro v w5 ⟨rfl, he, hm⟩
      have HE5 := Lib.hid he
      have HM5 := Lib.hid (HN.out.2.trans hm)
      clear he hm
      go_wp2_with fail
      go_end0
      exact ⟨rfl, _, by rw [E1.out]; exact HE5.out, HM5.out⟩
    · have halt : m.alt = false := by cases hq : m.alt; rfl; exact absurd hq.symm hs
      have hO : m.O = none := by unfold EmM.alt at halt; cases ho : m.O; rfl; rw [ho] at halt; cases halt
      have hL : L.oth = none := by
        rcases h.g.co with ⟨a, _, _⟩ | ⟨_, _, _, _, _, b, _, _⟩
        · exact a
        · rw [hO] at b; cases b
      have E1 : Hid (m.turnOther true = { m.save with O := some fun _ => m.blank, late := false }) := Lib.hid (by unfold EmM.turnOther; rw [if_neg hs, if_pos rfl])
      rw [halt] at HA
      have HSV := Lib.hid (emu_save w e L m h)
      have hok := h.ok
      have hw2 := hok.w2; have hw40 := hok.w40; have hh1 := hok.h1; have hh20 := hok.h20
      have ha := area_le hok
      clear h hs halt
      go_enter Tryz.func108, Tryz.ntmps108
      go_wp2_with fail
      refine HA.out.mono ?_
      rintro v w1 ⟨rfl, hw1⟩
      rw [hw1]
      clear hw1
      go_wp2_with fail
      refine HSV.out.mono ?_
      rintro v w2 ⟨rfl, he, hm⟩
      have HE2 := Lib.hid he
      have HM2 := Lib.hid hm
      have c19 := he.g.cm.1
      have HW : Hid (∀ k, Calls Tryz.prog 24 #[.pointer (some ⟨L.p, 0, none⟩)] (w2.drewN k) fun v w' => v = .returned (.int .i64 (m.W : Int)) ∧ w' = w2.drewN k) := Lib.hid (fun k => grid_W _ _ _ _ _ _ _ _ (HE2.out.drewN k).g.gm)
      have HH : Hid (∀ k, Calls Tryz.prog 22 #[.pointer (some ⟨L.p, 0, none⟩)] (w2.drewN k) fun v w' => v = .returned (.int .i64 (m.H : Int)) ∧ w' = w2.drewN k) := Lib.hid (fun k => grid_H _ _ _ _ _ _ _ _ (HE2.out.drewN k).g.gm)
      have HNG := Lib.hid (fun V => grid_new V (m.W : Int) (m.H : Int) m.W m.H (m.W * m.H) (by omega) (by omega) rfl)
      clear he hm
      go_upto_region 5 with fail
      go_quiet (first | (go_at_call 24; exact Calls.quiet_of_same (HW.out _)) | (go_at_call 22; exact Calls.quiet_of_same (HH.out _)))
      go_wp2_with fail
      refine (HNG.out _).mono ?_
      rintro v w3 ⟨rfl, hg3, hb3⟩
      have K3 : Hid (Keep (fun _ => False) w2 w3) := Lib.hid (((Keep.refl _ w2).drewN _).trans (Keep.of_below (fun _ => False) hb3) (fun _ _ x => x))
      have hg3' : GridAt w3 (w2.heap.size + 1) w2.heap.size (m.W * m.H) m.W m.H (m.W * m.H) (fun _ => blankC) := hg3
      have HO3 := Lib.hid (HE2.out.other K3.out _ _ _ _ hg3' (Nat.le_succ _) (Nat.le_refl _) hL)
      obtain ⟨a, haq⟩ : ∃ a, a = w2.heap.size + 1 := ⟨_, rfl⟩
      have d20 : ∃ x, Cell w3 e 20 x := by
        rcases (HE2.out.quiet K3.out).g.co with ⟨_, _, c⟩ | ⟨_, _, _, _, _, _, c, _⟩
        · exact ⟨_, c⟩
        · exact ⟨_, c⟩
      obtain ⟨x20, d20⟩ := d20
      have c20 := d20.1
      have f20 := d20.2
      clear hg3 hg3' hb3 d20 c19
      go_upto_region 7 with fail
      generalize hW4 : w3.setCell ⟨e, 20, none⟩ (.pointer (some ⟨w2.heap.size + 1, 0, none⟩)) = W4 at *
      have HO4 := Lib.hid HO3.out.1
      have HM4 := Lib.hid (HM2.out.trans HO3.out.2)
      have g20 : W4.cell? ⟨e, 20, none⟩ = some (.pointer (some ⟨w2.heap.size + 1, 0, none⟩)) := by
        rcases HO4.out.g.co with ⟨b, _, _⟩ | ⟨a', b', c', G', ho', _, cc, _⟩
        · cases b
        · injection ho' with ho'
          injection ho' with ho'
          subst ho'
          exact cc.1
      have hsh : ({ L with oth := some (w2.heap.size + 1, w2.heap.size, m.W * m.H) } : Loc).sh.1 = w2.heap.size + 1 := rfl
      have HB4 := Lib.hid HO4.out.blankK
      have HF4 := Lib.hid (HO4.out.fill 0 (m.W * m.H) (Nat.le_refl _))
      rw [hsh] at HF4
      have hmul : IntKind.i64.wrap ((m.W : Int) * (m.H : Int)) = ((m.W * m.H : Nat) : Int) := by rw [← Int.natCast_mul]; exact IntWalk.i64_in _ (by omega)
      clear hW4 HO3 hsh K3
      go_region_law (first | (go_simp; go_at_call 68; refine (HB4.out _ (by first | exact Keep.refl _ _ | exact (Keep.refl _ _).drew | exact (Keep.refl _ _).drewN _)).mono ?_; rintro v w5 ⟨rfl, hk⟩; have HK5 : Hid (Keep (fun _ => False) W4 w5) := Lib.hid (Keep.trans (by first | exact Keep.refl _ _ | exact (Keep.refl _ _).drew | exact (Keep.refl _ _).drewN _) hk (fun _ _ x => x)); have k20 := (HK5.out.cell (p := ⟨e, 20, none⟩) HO4.out.elt (fun x => x)).trans g20; clear hk) | (go_simp; go_at_call 126; refine (HF4.out _ HK5.out).mono ?_; rintro v w6 ⟨rfl, he, hm⟩; have HE6 := Lib.hid he; have HM6 := Lib.hid hm; clear he hm) | fail)
      all_goals
        have HE7 : Hid (EmR w6 e _ { m.save with O := some fun _ => m.blank }) := Lib.hid (EmR.congrO (m := m.save) HE6.out (fun k hk => by unfold fillF; rw [if_pos ⟨Nat.zero_le _, hk⟩]; rfl))
        have HE8 := Lib.hid (HE7.out.lateTo false)
        have d46 := (HE7.out.cell 24 46 rfl _ rfl).1
        have f46 := (HE7.out.cell 24 46 rfl _ rfl).2
        go_wp2_with fail
        go_end0
        exact ⟨rfl, _, by rw [E1.out]; exact HE8.out.1, (HM4.out.trans HM6.out).trans HE8.out.2⟩

end Go.Proofs.YtnminmaklbhakaaGreatDoor
namespace Go.Proofs.YtnminmaklbhakaaGreatDoor
set_option linter.unusedVariables false
set_option linter.unusedSimpArgs false
open Go.RowKit

theorem decN_one {n : Nat} (h : n < 10) : decN n = [48 + n] := by rw [decN, if_pos h]
theorem decN_two {n : Nat} (h : 10 ≤ n) (h2 : n < 100) : decN n = [48 + n / 10, 48 + n % 10] := by
  rw [decN, if_neg (by omega), decN_one (by omega)]; rfl

set_option maxRecDepth 100000 in
set_option maxHeartbeats 1600000 in
theorem small_any (n : Nat) (hn : n < 100) (w : World) :
    Calls Tryz.prog 164 #[.int .i64 (n : Int)] w fun v w' => v = .returned (.string (bytesN (decN n))) ∧ w' = w := by
  by_cases h10 : n < 10
  · rw [decN_one h10]
    have t0 : decide ((n : Int) < 10) = true := by simp; omega
    have t1 : decide (n < 10) = true := decide_eq_true h10
    go_enter Tryz.func164, Tryz.ntmps164
    go_wp2_with fail
    go_ret
    refine ⟨?_, rfl⟩
    refine congrArg (fun x : ByteArray => Ending.returned (Value.string x)) ?_
    revert h10
    generalize n = k
    revert k
    decide +kernel
  · rw [decN_two (by omega) hn]
    have t0 : decide ((n : Int) < 10) = false := by simp; omega
    have t1 : decide (n < 10) = false := decide_eq_false h10
    go_enter Tryz.func164, Tryz.ntmps164
    go_wp2_with fail
    go_ret
    refine ⟨?_, rfl⟩
    refine congrArg (fun x : ByteArray => Ending.returned (Value.string x)) ?_
    revert h10
    revert hn
    generalize n = k
    revert k
    decide +kernel

set_option maxHeartbeats 1600000 in
theorem format_any (n : Nat) (hn : n < 100) (w : World) :
    Calls Tryz.prog 156 #[.int .i64 (n : Int), .int .i64 10] w fun v w' => v = .returned (.string (bytesN (decN n))) ∧ w' = w := by
  have HS := Lib.hid (small_any n hn w)
  have t0 : decide ((0 : Int) ≤ (n : Int)) = true := by simp
  have t1 : decide ((n : Int) < 100) = true := by simp; omega
  have t2 : decide (n < 100) = true := decide_eq_true hn
  generalize bytesN (decN n) = S at *
  go_enter Tryz.func156, Tryz.ntmps156
  go_wp2_with fail
  refine HS.out.mono ?_
  rintro v w1 ⟨rfl, hw1⟩
  rw [hw1]
  clear hw1
  go_wp2_with fail
  go_ret
  exact ⟨rfl, rfl⟩
set_option maxHeartbeats 1600000 in
theorem itoa_any (n : Nat) (hn : n < 100) (w : World) :
    Calls Tryz.prog 132 #[.int .i64 (n : Int)] w fun v w' => v = .returned (.string (bytesN (decN n))) ∧ w' = w := by
  have HS := Lib.hid (format_any n hn w)
  generalize bytesN (decN n) = S at *
  have HI : Hid (Calls Tryz.prog 145 #[.int .i64 (n : Int)] w fun v w' => v = .returned (.string S) ∧ w' = w) := Lib.hid (by
    go_enter Tryz.func145, Tryz.ntmps145
    go_wp2_with fail
    refine HS.out.mono ?_
    rintro v w1 ⟨rfl, hw1⟩
    rw [hw1]
    clear hw1
    go_wp2_with fail
    go_ret
    exact ⟨rfl, rfl⟩)
  go_enter Tryz.func132, Tryz.ntmps132
  go_wp2_with fail
  refine HI.out.mono ?_
  rintro v w1 ⟨rfl, hw1⟩
  rw [hw1]
  clear hw1
  go_wp2_with fail
  go_ret
  exact ⟨rfl, rfl⟩

theorem decN_le2 (n : Nat) (hn : n < 100) : (decN n).length ≤ 2 := by
  by_cases h : n < 10
  · rw [decN_one h]; simp
  · rw [decN_two (by omega) hn]; simp

set_option maxRecDepth 100000 in
set_option maxHeartbeats 1600000 in
theorem emu_reply (w : World) (e : Nat) (L : Loc) (m : EmM) (b n : Nat) (hb : b = 110 ∨ b = 99) (hn : n ≤ 9999) (h : EmR w e L m) :
    Calls Tryz.prog 106 #[.pointer (some ⟨e, 0, none⟩), .int .i64 (b : Int), .int .i64 (n : Int)] w fun v w' => v = .returned (.string (bytesN (m.reply b n))) ∧ ∃ k, w' = w.drewN k := by
  have hok := h.ok
  have hx := hok.x; have w40 := hok.w40
  have hrt := rowTold_le hok
  have c24 := (h.cell 2 24 rfl _ rfl).1
  have HRT : Hid (∀ k, Calls Tryz.prog 133 #[.pointer (some ⟨e, 0, none⟩)] (w.drewN k) fun v w' => v = .returned (.int .i64 (m.rowTold : Int)) ∧ ∃ j, w' = (w.drewN k).drewN j) := Lib.hid (fun k => emu_rowTold _ e L m (h.drewN k))
  have HI1 := Lib.hid (fun V => itoa_any m.rowTold (by omega) V)
  have HI2 := Lib.hid (fun V => itoa_any (m.st.x + 1) (by omega) V)
  rw [show ((m.st.x + 1 : Nat) : Int) = (m.st.x : Int) + 1 by omega] at HI2
  have hl1 : (bytesN (decN m.rowTold)).size ≤ 2 := by rw [bytesN_size]; exact decN_le2 _ (by omega)
  have hl2 : (bytesN (decN (m.st.x + 1))).size ≤ 2 := by rw [bytesN_size]; exact decN_le2 _ (by omega)
  have hwx : IntKind.i64.wrap ((m.st.x : Int) + 1) = (m.st.x : Int) + 1 := IntWalk.i64_in _ (by omega)
  by_cases h1 : b = 99 ∧ n = 0
  · obtain ⟨rfl, rfl⟩ := h1
    have e1 : m.reply 99 0 = [27, 91, 63, 49, 59, 50, 99] := rfl
    rw [e1]
    clear h hok
    go_enter Tryz.func106, Tryz.ntmps106
    go_wp2_with fail
    go_ret
    exact ⟨rfl, 0, rfl⟩
  · by_cases h2 : b = 110 ∧ n = 5
    · obtain ⟨rfl, rfl⟩ := h2
      have e1 : m.reply 110 5 = [27, 91, 48, 110] := rfl
      rw [e1]
      clear h hok
      go_enter Tryz.func106, Tryz.ntmps106
      go_wp2_with fail
      go_ret
      exact ⟨rfl, 0, rfl⟩
    · by_cases h3 : b = 110 ∧ n = 6
      · obtain ⟨rfl, rfl⟩ := h3
        have e1 : bytesN (m.reply 110 6) = bytesN [27, 91] ++ bytesN (decN m.rowTold) ++ bytesN [59] ++ bytesN (decN (m.st.x + 1)) ++ bytesN [82] := by
          show bytesN ([27, 91] ++ decN m.rowTold ++ [59] ++ decN (m.st.x + 1) ++ [82]) = _
          rw [bytesN_add, bytesN_add, bytesN_add, bytesN_add]
        rw [e1]
        have E2 : Hid (bytesN [27, 91] = ⟨#[27, 91]⟩ ∧ bytesN [59] = ⟨#[59]⟩ ∧ bytesN [82] = ⟨#[82]⟩) := Lib.hid ⟨rfl, rfl, rfl⟩
        rw [E2.out.1, E2.out.2.1, E2.out.2.2]
        have hz1 : ((⟨#[27, 91]⟩ : ByteArray) ++ bytesN (decN m.rowTold)).size ≤ 4 := by rw [ByteArray.size_append]; show 2 + _ ≤ 4; omega
        generalize bytesN (decN m.rowTold) = S1 at *
        generalize bytesN (decN (m.st.x + 1)) = S2 at *
        generalize m.rowTold = RT at *
        clear h hok e1
        go_enter Tryz.func106, Tryz.ntmps106
        go_wp2_with fail
        go_quiet (first | (go_at_call 133; exact Calls.quiet_of (HRT.out _)) | (go_at_call 132; first | exact Calls.quiet_of_same (HI1.out _) | exact Calls.quiet_of_same (HI2.out _)))
        go_wp2_with fail
        go_ret
        exact ⟨rfl, _, rfl⟩
      · have e1 : m.reply b n = [] := by unfold EmM.reply; rw [if_neg h1, if_neg h2, if_neg h3]
        rw [e1]
        rcases hb with rfl | rfl
        · have t5 : ((n : Int) == 5) = false := by simp; omega
          have t6 : ((n : Int) == 6) = false := by simp; omega
          clear h hok e1
          go_enter Tryz.func106, Tryz.ntmps106
          go_wp2_with fail
          go_ret
          exact ⟨rfl, 0, rfl⟩
        · have t5 : ((n : Int) == 0) = false := by simp; omega
          clear h hok e1
          go_enter Tryz.func106, Tryz.ntmps106
          go_wp2_with fail
          go_ret
          exact ⟨rfl, 0, rfl⟩

end Go.Proofs.YtnminmaklbhakaaGreatDoor
