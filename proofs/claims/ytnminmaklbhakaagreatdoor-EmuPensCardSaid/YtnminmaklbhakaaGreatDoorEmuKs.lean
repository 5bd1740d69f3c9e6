/- emu: turnMarked, bareEscape, escape. Own work. emu: bareEscape, escape. Own work. emu: escape. Own work. -/
import Derived.Test.YtnminmaklbhakaaGreatDoorEmuHs
import Derived.Test.YtnminmaklbhakaaGreatDoorEmuN
import Derived.Test.YtnminmaklbhakaaGreatDoorEmuD
set_option linter.unusedVariables false
set_option linter.unusedSimpArgs false
namespace Go.Proofs.YtnminmaklbhakaaGreatDoor
set_option linter.unusedVariables false
set_option linter.unusedSimpArgs false
open Go.RowKit

theorem EmR.originTo {w : World} {e : Nat} {L : Loc} {m : EmM} (h : EmR w e L m) (b : Bool) : EmR (w.setCell ⟨e, 31, none⟩ (.bool b)) e L { m with st := { m.st with origin := b } } ∧ Mv e L L w (w.setCell ⟨e, 31, none⟩ (.bool b)) :=
  ⟨⟨h.g.set 31 (by omega) _, h.cs.set 9 (by rw [m.cs_len]; omega) _ rfl, h.ok.origin b⟩, (Mv.refl e L w).set 31 (by omega) _⟩
theorem EmR.wrapTo {w : World} {e : Nat} {L : Loc} {m : EmM} (h : EmR w e L m) (b : Bool) : EmR (w.setCell ⟨e, 48, none⟩ (.bool b)) e L { m with wrap := b } ∧ Mv e L L w (w.setCell ⟨e, 48, none⟩ (.bool b)) :=
  ⟨⟨h.g.set 48 (by omega) _, h.cs.set 26 (by rw [m.cs_len]; omega) _ rfl, ⟨h.ok.w2, h.ok.w40, h.ok.h1, h.ok.h20, h.ok.sl, h.ok.tb, h.ok.bh, h.ok.x, h.ok.y, h.ok.sx, h.ok.sy, h.ok.a0, h.ok.a1, h.ok.b0, h.ok.b1, h.ok.u, h.ok.v, h.ok.p, h.ok.r⟩⟩, (Mv.refl e L w).set 48 (by omega) _⟩
theorem EmR.hidTo {w : World} {e : Nat} {L : Loc} {m : EmM} (h : EmR w e L m) (b : Bool) : EmR (w.setCell ⟨e, 49, none⟩ (.bool b)) e L { m with hid := b } ∧ Mv e L L w (w.setCell ⟨e, 49, none⟩ (.bool b)) :=
  ⟨⟨h.g.set 49 (by omega) _, h.cs.set 27 (by rw [m.cs_len]; omega) _ rfl, ⟨h.ok.w2, h.ok.w40, h.ok.h1, h.ok.h20, h.ok.sl, h.ok.tb, h.ok.bh, h.ok.x, h.ok.y, h.ok.sx, h.ok.sy, h.ok.a0, h.ok.a1, h.ok.b0, h.ok.b1, h.ok.u, h.ok.v, h.ok.p, h.ok.r⟩⟩, (Mv.refl e L w).set 49 (by omega) _⟩

set_option maxRecDepth 100000 in
set_option maxHeartbeats 3200000 in
theorem emu_turnM (w : World) (e : Nat) (L : Loc) (m : EmM) (on : Bool) (A : Option Addr) (n c : Nat) (xs : List Int) (h : EmR w e L m) (hs : Src w A n (xs.map (Value.int .i64))) (hfar : 0 < n → ∀ b, blk A = some b → ¬ L.T e b ∧ b < w.heap.size) (hn : n ≤ 100000) :
    Calls Tryz.prog 73 #[.pointer (some ⟨e, 0, none⟩), .bool on, .slice A n c] w fun v w' => v = .returned (.tuple #[]) ∧ ∃ L', EmR w' e L' (xs.foldl (EmM.turnM on) m) ∧ Mv e L L' w w' := by
  have hl := Lib.hid (show xs.length = n from by have := hs.1; rwa [List.length_map] at this)
  have HS := Lib.hid hs
  have HF := Lib.hid hfar
  have H0 := Lib.hid h
  clear h hs hfar
  go_enter Tryz.func73, Tryz.ntmps73
  go_wp2_with fail
  go_loopw [10] (fun i wr => ∃ k : Nat, i = .int .i64 k ∧ k ≤ n ∧ Hid (∃ L', EmR wr e L' ((xs.take k).foldl (EmM.turnM on) m) ∧ Mv e L L' w wr)) (fun i _ => n - (intOf i).toNat)
  case atStart => exact ⟨0, rfl, by omega, by show ∃ L', _; exact ⟨L, H0.out, Mv.refl _ _ _⟩⟩
  case round =>
    obtain ⟨k, rfl, hk, HK⟩ := hrel
    by_cases hlt : k < n
    · obtain ⟨x, hx⟩ : ∃ x, xs[k]? = some x := ⟨xs[k]'(by rw [hl.out]; exact hlt), List.getElem?_eq_getElem _⟩
      obtain ⟨L1, he1, hm1⟩ := HK.out
      have hsr : Src wr A n (xs.map (Value.int .i64)) := HS.out.of_keep hm1.keep (fun i hi hT => (HF.out (by omega) i hi).1 hT)
      obtain ⟨b, o, rfl, hbl, hc⟩ := hsr.2 (by omega)
      have hcell : wr.cell? ⟨b, o + k, none⟩ = some (.int .i64 x) := hc k _ (by rw [List.getElem?_map, hx]; rfl)
      have hki : ((k : Int) < (n : Int)) := by omega
      have hk0 : (0 : Int) ≤ (k : Int) := by omega
      have HT := Lib.hid (fold_take (EmM.turnM on) m xs k x hx)
      generalize hg : (xs.take k).foldl (EmM.turnM on) m = mk at *
      have HE1 := Lib.hid he1
      have HM1 := Lib.hid hm1
      have c31 := (he1.cell 9 31 rfl _ rfl).1
      have f31 := (he1.cell 9 31 rfl _ rfl).2
      have c48 := (he1.cell 26 48 rfl _ rfl).1
      have f48 := (he1.cell 26 48 rfl _ rfl).2
      have c49 := (he1.cell 27 49 rfl _ rfl).1
      have f49 := (he1.cell 27 49 rfl _ rfl).2
      clear hc hsr hg hx he1 hm1 HK
      by_cases h6 : x = 6
      · subst h6
        have HI := Lib.hid (HE1.out.originTo on)
        go_wp2_with fail
        refine (emu_home _ e L1 _ HI.out.1).mono ?_
        rintro v w5 ⟨rfl, he, hm⟩
        have HE5 := Lib.hid he
        have HM5 := Lib.hid ((HM1.out.trans HI.out.2).trans hm)
        clear he hm
        go_wp2_with fail
        go_roundw
        case rel => exact ⟨k + 1, by go_num, by omega, by show ∃ L', _; exact ⟨L1, by rw [HT.out]; exact HE5.out, HM5.out⟩⟩
        case measure => simp [intOf]; omega
      · have t6 : (x == 6) = false := by simp [h6]
        by_cases h7 : x = 7
        · subst h7
          have HI := Lib.hid (HE1.out.wrapTo on)
          go_wp2_with fail
          go_roundw
          case rel => exact ⟨k + 1, by go_num, by omega, by show ∃ L', _; exact ⟨L1, by rw [HT.out]; exact HI.out.1, HM1.out.trans HI.out.2⟩⟩
          case measure => simp [intOf]; omega
        · have t7 : (x == 7) = false := by simp [h7]
          by_cases h25 : x = 25
          · subst h25
            have HI := Lib.hid (HE1.out.hidTo (!on))
            go_wp2_with fail
            go_roundw
            case rel => exact ⟨k + 1, by go_num, by omega, by show ∃ L', _; exact ⟨L1, by rw [HT.out]; exact HI.out.1, HM1.out.trans HI.out.2⟩⟩
            case measure => simp [intOf]; omega
          · have t25 : (x == 25) = false := by simp [h25]
            by_cases ho : x = 1049
            · subst ho
              go_wp2_with fail
              refine (emu_turnOther _ e L1 mk on HE1.out).mono ?_
              rintro v w5 ⟨rfl, L2, he, hm⟩
              have HE5 := Lib.hid he
              have HM5 := Lib.hid (HM1.out.trans hm)
              clear he hm
              go_wp2_with fail
              go_roundw
              case rel => exact ⟨k + 1, by go_num, by omega, by show ∃ L', _; exact ⟨L2, by rw [HT.out]; exact HE5.out, HM5.out⟩⟩
              case measure => simp [intOf]; omega
            · have t49 : (x == 1049) = false := by simp [ho]
              have e1 : EmM.turnM on mk x = mk := by unfold EmM.turnM; rw [if_neg h6, if_neg h7, if_neg h25, if_neg ho]
              rw [e1] at HT
              clear e1
              go_wp2_with fail
              go_roundw
              case rel => exact ⟨k + 1, by go_num, by omega, by show ∃ L', _; exact ⟨L1, by rw [HT.out]; exact HE1.out, HM1.out⟩⟩
              case measure => simp [intOf]; omega
    · obtain rfl : k = n := by omega
      have hfin := HK.out
      rw [List.take_of_length_le (by rw [hl.out]; omega)] at hfin
      have HFI := Lib.hid hfin
      clear hfin
      go_wp2_with fail
      go_end0
      exact ⟨rfl, HFI.out⟩

end Go.Proofs.YtnminmaklbhakaaGreatDoor
namespace Go.Proofs.YtnminmaklbhakaaGreatDoor
set_option linter.unusedVariables false
set_option linter.unusedSimpArgs false
open Go.RowKit

theorem EmR.resetK {w : World} {e : Nat} {L : Loc} {m : EmM} (h : EmR w e L m) (V : World) (K : Keep (fun _ => False) w V) (pv : Nat → Value) (hp : ∀ i, i < 19 → Cell w e i (pv i)) (hpo : ∀ i, i < 19 → (pv i).oneCell' = true) :
    Calls Tryz.prog 19 #[.pointer (some ⟨e, 0, none⟩), .int .i64 (m.W : Int), .int .i64 (m.H : Int)] V fun v w' => v = .returned (.tuple #[]) ∧ ∃ L', EmR w' e L' (EmM.new m.W m.H) ∧ Mv e L L' w w' := by
  have hV := h.quiet K
  have hok := h.ok
  have hw2 := hok.w2; have hw40 := hok.w40; have hh1 := hok.h1; have hh20 := hok.h20
  have hpV : ∀ i, i < 19 → Cell V e i (pv i) := fun i hi => (hp i hi).keep K (fun x => x)
  have hc : ∀ j, j < 50 → (V.cell? ⟨e, j, none⟩).isSome = true ∧ V.frozen? ⟨e, j, none⟩ = false := fun j hj => by
    have one : ∀ {v : Value}, Cell V e j v → (V.cell? ⟨e, j, none⟩).isSome = true ∧ V.frozen? ⟨e, j, none⟩ = false := fun c => ⟨by rw [c.1]; rfl, c.2⟩
    by_cases h1 : j < 19
    · exact one (hpV j h1)
    · by_cases h2 : j = 19
      · subst h2; exact one hV.g.cm
      · by_cases h3 : j = 20
        · subst h3
          rcases hV.g.co with ⟨_, _, c⟩ | ⟨_, _, _, _, _, _, c, _⟩
          · exact one c
          · exact one c
        · by_cases h4 : j = 21
          · subst h4; exact one hV.g.ct
          · have := hV.cs (j - 22) _ (List.getElem?_eq_getElem (by rw [m.cs_len]; omega))
            rw [show 22 + (j - 22) = j by omega] at this
            exact one this
  refine (emu_reset V e m.W m.H m.W m.H pv (by omega) (by omega) hc (fun i hi => (hpV i hi).1) hpo hV.elt).mono ?_
  rintro v w' ⟨rfl, L', h1, h2, h3, h4⟩
  refine ⟨rfl, L', h1, ⟨K.mono (fun _ _ x => x.elim) |>.trans h3 (fun i hi x => by subst x; exact L.e_T _), fun i hi => ⟨?_, ?_⟩, fun i hi => ?_⟩⟩
  · rw [(h2 i hi).1, (hp i hi).1]
  · rw [(h2 i hi).2, (hp i hi).2]
  · rcases h4 i hi with x | x
    · subst x; exact .inl (L.e_T _)
    · exact .inr (Nat.le_trans K.size x)

set_option maxRecDepth 100000 in
set_option maxHeartbeats 3200000 in
theorem emu_bareEscape (w : World) (e : Nat) (L : Loc) (m : EmM) (b : Nat) (hb : b < 256) (h : EmR w e L m) (pv : Nat → Value) (hp : ∀ i, i < 19 → Cell w e i (pv i)) (hpo : ∀ i, i < 19 → (pv i).oneCell' = true) :
    Calls Tryz.prog 70 #[.pointer (some ⟨e, 0, none⟩), .int .i64 (b : Int)] w fun v w' => v = .returned (.tuple #[]) ∧ ∃ L', EmR w' e L' (m.bareEscape b) ∧ Mv e L L' w w' := by
  have HE := Lib.hid h
  have helt := h.elt
  have c19 := h.g.cm.1
  have c21 := h.g.ct.1
  have c24 := (h.cell 2 24 rfl _ rfl).1
  have f24 := (h.cell 2 24 rfl _ rfl).2
  have HRS := Lib.hid (fun V K => h.resetK V K pv hp hpo)
  have HW : Hid (∀ k, Calls Tryz.prog 24 #[.pointer (some ⟨L.p, 0, none⟩)] (w.drewN k) fun v w' => v = .returned (.int .i64 (m.W : Int)) ∧ w' = w.drewN k) := Lib.hid (fun k => grid_W _ _ _ _ _ _ _ _ (HE.out.drewN k).g.gm)
  have HH : Hid (∀ k, Calls Tryz.prog 22 #[.pointer (some ⟨L.p, 0, none⟩)] (w.drewN k) fun v w' => v = .returned (.int .i64 (m.H : Int)) ∧ w' = w.drewN k) := Lib.hid (fun k => grid_H _ _ _ _ _ _ _ _ (HE.out.drewN k).g.gm)
  clear h hp hpo
  by_cases h55 : b = 55
  · subst h55
    have e1 : m.bareEscape 55 = m.save := rfl
    rw [e1]
    clear hb e1
    show Calls _ _ #[_, .int .i64 55] _ _
    go_enter Tryz.func70, Tryz.ntmps70
    go_wp2_with fail
    refine (emu_save _ e L m HE.out).mono ?_
    rintro v w5 ⟨rfl, he, hm⟩
    have HE5 := Lib.hid he
    have HM5 : Hid (Mv e L L w w5) := Lib.hid (hm)
    clear he hm
    go_wp2_with fail
    go_end0
    exact ⟨rfl, L, HE5.out, HM5.out⟩
  by_cases h56 : b = 56
  · subst h56
    have e1 : m.bareEscape 56 = m.restore := rfl
    rw [e1]
    clear hb e1
    show Calls _ _ #[_, .int .i64 56] _ _
    go_enter Tryz.func70, Tryz.ntmps70
    go_wp2_with fail
    refine (emu_restore _ e L m HE.out).mono ?_
    rintro v w5 ⟨rfl, he, hm⟩
    have HE5 := Lib.hid he
    have HM5 : Hid (Mv e L L w w5) := Lib.hid (hm)
    clear he hm
    go_wp2_with fail
    go_end0
    exact ⟨rfl, L, HE5.out, HM5.out⟩
  by_cases h68 : b = 68
  · subst h68
    have e1 : m.bareEscape 68 = m.index := rfl
    rw [e1]
    clear hb e1
    show Calls _ _ #[_, .int .i64 68] _ _
    go_enter Tryz.func70, Tryz.ntmps70
    go_wp2_with fail
    refine (emu_index _ e L m HE.out).mono ?_
    rintro v w5 ⟨rfl, he, hm⟩
    have HE5 := Lib.hid he
    have HM5 : Hid (Mv e L L w w5) := Lib.hid (hm)
    clear he hm
    go_wp2_with fail
    go_end0
    exact ⟨rfl, L, HE5.out, HM5.out⟩
  by_cases h69 : b = 69
  · subst h69
    have e1 : m.bareEscape 69 = m.setX0.index := rfl
    rw [e1]
    clear hb e1
    show Calls _ _ #[_, .int .i64 69] _ _
    have HX := Lib.hid HE.out.x0
    go_enter Tryz.func70, Tryz.ntmps70
    go_wp2_with fail
    refine (emu_index _ e L m.setX0 HX.out.1).mono ?_
    rintro v w5 ⟨rfl, he, hm⟩
    have HE5 := Lib.hid he
    have HM5 : Hid (Mv e L L w w5) := Lib.hid (HX.out.2.trans hm)
    clear he hm
    go_wp2_with fail
    go_end0
    exact ⟨rfl, L, HE5.out, HM5.out⟩
  by_cases h77 : b = 77
  · subst h77
    have e1 : m.bareEscape 77 = m.reverse := rfl
    rw [e1]
    clear hb e1
    show Calls _ _ #[_, .int .i64 77] _ _
    go_enter Tryz.func70, Tryz.ntmps70
    go_wp2_with fail
    refine (emu_reverseIndex _ e L m HE.out).mono ?_
    rintro v w5 ⟨rfl, he, hm⟩
    have HE5 := Lib.hid he
    have HM5 : Hid (Mv e L L w w5) := Lib.hid (hm)
    clear he hm
    go_wp2_with fail
    go_end0
    exact ⟨rfl, L, HE5.out, HM5.out⟩
  by_cases h72 : b = 72
  · subst h72
    have e1 : m.bareEscape 72 = { m with stops := putL true m.stops [(m.st.x : Int)] } := rfl
    rw [e1]
    clear hb e1
    show Calls _ _ #[_, .int .i64 72] _ _
    have HC := Lib.hid HE.out.setStop
    go_enter Tryz.func70, Tryz.ntmps70
    go_wp2_with fail
    go_region_law (first | (go_simp; go_at_call 94; refine (HC.out _ (by first | exact Keep.refl _ _ | exact (Keep.refl _ _).drew | exact (Keep.refl _ _).drewN _)).mono ?_; rintro v w5 ⟨rfl, he, hm⟩; have HE5 := Lib.hid he; have HM5 := Lib.hid hm; clear he hm) | fail)
    all_goals
      go_wp2_with fail
      go_end0
      exact ⟨rfl, L, HE5.out, HM5.out⟩
  by_cases h99 : b = 99
  · subst h99
    have e1 : m.bareEscape 99 = EmM.new m.W m.H := rfl
    rw [e1]
    clear hb e1
    show Calls _ _ #[_, .int .i64 99] _ _
    have HRQ : Hid (∀ V, Keep (fun _ => False) w V → ∀ k, V = w.drewN k → True) := Lib.hid (fun _ _ _ _ => trivial)
    go_enter Tryz.func70, Tryz.ntmps70
    go_wp2_with fail
    go_region_law (first | (go_simp; go_at_call 24; refine (HW.out 1).mono ?_; rintro v w3 ⟨rfl, hw3⟩; rw [hw3]; clear hw3) | (go_simp; go_at_call 22; refine (HH.out 1).mono ?_; rintro v w3 ⟨rfl, hw3⟩; rw [hw3]; clear hw3) | (go_simp; go_at_call 19; refine (HRS.out _ (by first | exact Keep.refl _ _ | exact (Keep.refl _ _).drew | exact (Keep.refl _ _).drewN _)).mono ?_; rintro v w5 ⟨rfl, L5, he, hm⟩; have HE5 := Lib.hid he; have HM5 := Lib.hid hm; clear he hm) | fail)
    all_goals
      go_wp2_with fail
      go_end0
      exact ⟨rfl, L5, HE5.out, HM5.out⟩
  have e1 : m.bareEscape b = m := by unfold EmM.bareEscape; rw [if_neg h55, if_neg h56, if_neg h68, if_neg h69, if_neg h77, if_neg h72, if_neg h99]
  rw [e1]
  have t55 : ((b : Int) == 55) = false := by simp; omega
  have t56 : ((b : Int) == 56) = false := by simp; omega
  have t68 : ((b : Int) == 68) = false := by simp; omega
  have t69 : ((b : Int) == 69) = false := by simp; omega
  have t77 : ((b : Int) == 77) = false := by simp; omega
  have t72 : ((b : Int) == 72) = false := by simp; omega
  have t99 : ((b : Int) == 99) = false := by simp; omega
  clear e1
  go_enter Tryz.func70, Tryz.ntmps70
  go_wp2_with fail
  go_end0
  exact ⟨rfl, L, HE.out, Mv.refl _ _ _⟩

end Go.Proofs.YtnminmaklbhakaaGreatDoor
namespace Go.Proofs.YtnminmaklbhakaaGreatDoor
set_option linter.unusedVariables false
set_option linter.unusedSimpArgs false
open Go.RowKit

/-- The parser's cells. -/
def ParC (w : World) (e : Nat) : Prop := ∀ i, i < 19 → ∃ v, Cell w e i v ∧ v.oneCell' = true
theorem ParC.pv {w : World} {e : Nat} (h : ParC w e) : ∃ pv : Nat → Value, (∀ i, i < 19 → Cell w e i (pv i)) ∧ ∀ i, i < 19 → (pv i).oneCell' = true := by
  have h' : ∀ i, ∃ v, i < 19 → Cell w e i v ∧ v.oneCell' = true := fun i => by
    by_cases hi : i < 19
    · obtain ⟨v, a⟩ := h i hi
      exact ⟨v, fun _ => a⟩
    · exact ⟨undef, fun x => absurd x hi⟩
  exact ⟨fun i => Classical.choose (h' i), fun i hi => (Classical.choose_spec (h' i) hi).1, fun i hi => (Classical.choose_spec (h' i) hi).2⟩
theorem ParC.mv {w w' : World} {e : Nat} {L L' : Loc} (h : ParC w e) (k : Mv e L L' w w') : ParC w' e := fun i hi => by
  obtain ⟨v, c, o⟩ := h i hi
  exact ⟨v, ⟨(k.low i hi).1.trans c.1, (k.low i hi).2.trans c.2⟩, o⟩
theorem bytesN_ne (i : List Nat) (c : Nat) (hi : ∀ x ∈ i, x < 256) (hc : c < 256) (h : i ≠ [c]) : bytesN i ≠ bytesN [c] := by
  intro e
  apply h
  have := congrArg natsOf e
  have n1 : natsOf (bytesN i) = i := by
    simp only [natsOf, bytesN, List.map_map]
    have : List.map ((fun x => x.toNat) ∘ UInt8.ofNat) i = List.map id i := List.map_congr_left (fun x hx => toNat_ofNat (hi x hx))
    rw [List.map_id] at this
    exact this
  have n2 : natsOf (bytesN [c]) = [c] := by simp [natsOf, bytesN]; omega
  rw [n1, n2] at this
  exact this

set_option maxRecDepth 100000 in
set_option maxHeartbeats 1600000 in
theorem emu_escape (w : World) (e : Nat) (L : Loc) (m : EmM) (i : List Nat) (b : Nat) (hi : ∀ x ∈ i, x < 256) (hb : b < 256) (h : EmR w e L m) (hp : ParC w e) :
    Calls Tryz.prog 53 #[.pointer (some ⟨e, 0, none⟩), .string (bytesN i), .int .i64 (b : Int)] w fun v w' => v = .returned (.tuple #[]) ∧ ∃ L', EmR w' e L' (m.escape i b) ∧ Mv e L L' w w' := by
  have HE := Lib.hid h
  obtain ⟨pv, p1, p2⟩ := hp.pv
  have HB := Lib.hid (emu_bareEscape w e L m b hb h pv p1 p2)
  have HC0 := Lib.hid (emu_choose0 w e L m b hb h)
  have HC1 := Lib.hid (emu_choose1 w e L m b hb h)
  clear h hp p1 p2
  by_cases h0 : i = []
  · subst h0
    have E1 : Hid (m.escape [] b = m.bareEscape b) := Lib.hid rfl
    show Calls _ _ #[_, .string ⟨#[]⟩, _] _ _
    go_enter Tryz.func53, Tryz.ntmps53
    go_wp2_with fail
    refine HB.out.mono ?_
    rintro v w5 ⟨rfl, L5, he, hm⟩
    have HE5 := Lib.hid he
    have HM5 := Lib.hid hm
    clear he hm
    go_wp2_with fail
    go_end0
    exact ⟨rfl, L5, by rw [E1.out]; exact HE5.out, HM5.out⟩
  · by_cases h1 : i = [40]
    · subst h1
      have E1 : Hid (m.escape [40] b = m.choose 0 b) := Lib.hid rfl
      show Calls _ _ #[_, .string ⟨#[40]⟩, _] _ _
      go_enter Tryz.func53, Tryz.ntmps53
      go_wp2_with fail
      refine HC0.out.mono ?_
      rintro v w5 ⟨rfl, he, hm⟩
      have HE5 := Lib.hid he
      have HM5 := Lib.hid hm
      clear he hm
      go_wp2_with fail
      go_end0
      exact ⟨rfl, L, by rw [E1.out]; exact HE5.out, HM5.out⟩
    · by_cases h2 : i = [41]
      · subst h2
        have E1 : Hid (m.escape [41] b = m.choose 1 b) := Lib.hid rfl
        show Calls _ _ #[_, .string ⟨#[41]⟩, _] _ _
        go_enter Tryz.func53, Tryz.ntmps53
        go_wp2_with fail
        refine HC1.out.mono ?_
        rintro v w5 ⟨rfl, he, hm⟩
        have HE5 := Lib.hid he
        have HM5 := Lib.hid hm
        clear he hm
        go_wp2_with fail
        go_end0
        exact ⟨rfl, L, by rw [E1.out]; exact HE5.out, HM5.out⟩
      · have E1 : Hid (m.escape i b = m) := Lib.hid (by unfold EmM.escape; rw [if_neg h0, if_neg h1, if_neg h2])
        have hs0 : (bytesN i).toList.isEmpty = false := not_empty (by rw [bytesN_size]; intro e; exact h0 (List.eq_nil_of_length_eq_zero e))
        have hs1 : bytesN i ≠ ⟨#[40]⟩ := bytesN_ne i 40 hi (by omega) h1
        have hs2 : bytesN i ≠ ⟨#[41]⟩ := bytesN_ne i 41 hi (by omega) h2
        have hs3 : ((bytesN i).toList == [40]) = false := by
          rw [beq_eq_false_iff_ne]; intro h; rw [Lib.toList_data] at h
          exact hs1 (ByteArray.ext (Array.ext' h))
        have hs4 : ((bytesN i).toList == [41]) = false := by
          rw [beq_eq_false_iff_ne]; intro h; rw [Lib.toList_data] at h
          exact hs2 (ByteArray.ext (Array.ext' h))
        generalize bytesN i = S at *
        clear hs1 hs2
        go_enter Tryz.func53, Tryz.ntmps53
        go_wp2_with fail
        go_end0
        exact ⟨rfl, L, by rw [E1.out]; exact HE.out, Mv.refl _ _ _⟩

end Go.Proofs.YtnminmaklbhakaaGreatDoor
