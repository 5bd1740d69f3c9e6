/- emu: Size (begun). Own work. -/
import Derived.Test.YtmlceohmjkaadaaGreatDoorEmuZs
namespace Go.Proofs.YtmlceohmjkaadaaGreatDoor
set_option linter.unusedVariables false
set_option linter.unusedSimpArgs false
open Go.RowKit

theorem nil_size (w : World) (x y : Int) :
    Calls Tryz.prog 38 #[.pointer none, .int .i64 x, .int .i64 y] w fun e w' => e = .returned (.tuple #[]) ∧ w' = w := by
  go_enter Tryz.func38, Tryz.ntmps38
  go_wp2_with fail
  refine bodyPost_ret (results_none rfl _ _ _) rfl ?_
  exact ⟨rfl, rfl⟩

set_option maxRecDepth 100000 in
set_option maxHeartbeats 1600000 in
/-- Size, where the other screen is not there. -/
theorem emu_size_main (w : World) (e : Nat) (L : Loc) (m : EmM) (x y : Int) (W' H' : Nat) (h : EmR w e L m) (ho : m.O = none) (hW : min (max x 2) 40 = (W' : Int)) (hH : min (max y 1) 20 = (H' : Int)) :
    Calls Tryz.prog 25 #[.pointer (some ⟨e, 0, none⟩), .int .i64 x, .int .i64 y] w fun v w' => v = .returned (.tuple #[]) ∧ ∃ L', EmR w' e L' (m.size W' H') ∧ Mv e L L' w w' := by
  have HE := Lib.hid h
  have HRD := Lib.hid (emu_ready w e L m h)
  have HSZ := Lib.hid (grid_size w _ _ _ _ _ _ _ x y W' H' _ h.g.gm hW hH rfl)
  have c19 := h.g.cm.1
  have helt := h.elt
  have nd := h.g.nd
  simp only [Loc.bl, List.nodup_cons, List.mem_cons, not_or] at nd
  obtain ⟨⟨n1, n2, n3, n4, n5⟩, -⟩ := nd
  have c20 : w.cell? ⟨e, 20, none⟩ = some (.pointer none) := by
    rcases h.g.co with ⟨a, b, c⟩ | ⟨a, b, c, G, o1, o2, _, _⟩
    · exact c.1
    · rw [ho] at o2; cases o2
  have f20w : w.frozen? ⟨e, 20, none⟩ = false := by
    rcases h.g.co with ⟨a, b, c⟩ | ⟨a, b, c, G, o1, o2, _, _⟩
    · exact c.2
    · rw [ho] at o2; cases o2
  clear h
  go_enter Tryz.func25, Tryz.ntmps25
  go_wp2_with fail
  refine HRD.out.mono ?_
  rintro v w1 ⟨rfl, hw1⟩
  rw [hw1]
  clear hw1
  go_wp2_with fail
  refine HSZ.out.mono ?_
  rintro v1 w1 ⟨rfl, g', c', hg', hG, k1⟩
  have d20 : w1.cell? ⟨e, 20, none⟩ = some (.pointer none) := (k1.cell (p := ⟨e, 20, none⟩) helt (fun x => n1 x)).trans c20
  have d19 := (k1.cell (p := ⟨e, 19, none⟩) helt (fun x => n1 x)).trans c19
  have HNS := Lib.hid (nil_size w1 x y)
  go_wp2_with fail
  refine HNS.out.mono ?_
  rintro v2 w2 ⟨rfl, hw2⟩
  rw [hw2]
  clear hw2
  have c22 := (HE.out.cs 0 _ rfl).1; have f22 := (HE.out.cs 0 _ rfl).2
  have c23 := (HE.out.cs 1 _ rfl).1; have f23 := (HE.out.cs 1 _ rfl).2
  have d22 := (k1.cell (p := ⟨e, 22, none⟩) helt (fun x => n1 x)).trans c22
  have g22 := (k1.frozen (p := ⟨e, 22, none⟩) helt (fun x => n1 x)).trans f22
  have d23 := (k1.cell (p := ⟨e, 23, none⟩) helt (fun x => n1 x)).trans c23
  have g23 := (k1.frozen (p := ⟨e, 23, none⟩) helt (fun x => n1 x)).trans f23
  have f20 := (k1.frozen (p := ⟨e, 20, none⟩) helt (fun x => n1 x)).trans f20w
  have HHc := Lib.hid (grid_H w1 _ _ _ _ _ _ _ hG)
  have HG := Lib.hid hG
  have HK := Lib.hid k1
  clear hG k1 c22 f22 c23 f23 c19 c20
  go_wp2_with fail
  refine HHc.out.mono ?_
  rintro v3 w3 ⟨rfl, hw3⟩
  rw [hw3]
  clear hw3
  obtain ⟨V, hV⟩ : ∃ V, V = (w1.setCell ⟨e, 22, none⟩ (.int .i64 0)).setCell ⟨e, 23, none⟩ (.int .i64 (H' : Int)) := ⟨_, rfl⟩
  go_upto_region 4 with fail
  have hge : g' ≠ e := by omega
  rw [← hV]
  have kV : Keep (· = e) w1 V := by rw [hV]; exact (keep_set w1 e 22 _).setCell (S := fun i => i = e) (p := ⟨e, 23, none⟩) (fun _ => rfl) _
  have oV : ∀ i, i ≠ 22 → i ≠ 23 → V.cell? ⟨e, i, none⟩ = w1.cell? ⟨e, i, none⟩ ∧ V.frozen? ⟨e, i, none⟩ = w1.frozen? ⟨e, i, none⟩ := fun i h1 h2 => by
    rw [hV]
    exact ⟨(World.cell?_setCell_other _ ⟨e, 23, none⟩ ⟨e, i, none⟩ _ (by simp <;> omega)).trans (World.cell?_setCell_other _ ⟨e, 22, none⟩ ⟨e, i, none⟩ _ (by simp <;> omega)), by rw [World.frozen?_setCell, World.frozen?_setCell]⟩
  have CV : Hid (CellsAt V e 22 ((m.cs.set 0 (.int .i64 0)).set 1 (.int .i64 (H' : Int)))) := Lib.hid (by
    rw [hV]
    have h1 : CellsAt w1 e 22 m.cs := HE.out.cs.keep HK.out (fun x => n1 x)
    exact (h1.set 0 (by rw [m.cs_len]; omega) (.int .i64 0) rfl).set 1 (by rw [List.length_set, m.cs_len]; omega) (.int .i64 (H' : Int)) rfl)
  have GV := Lib.hid (HG.out.keep kV (fun x => n1 x.symm) (fun x => hge x))
  have v19 := (oV 19 (by omega) (by omega)).1.trans d19
  have v20 := (oV 20 (by omega) (by omega)).1.trans d20
  have c21 : Cell w1 e 21 (.pointer (some ⟨L.sp, 0, none⟩)) := HE.out.g.ct.keep HK.out (fun x => n1 x)
  have v21 := (oV 21 (by omega) (by omega)).1.trans c21.1
  have z21 := (oV 21 (by omega) (by omega)).2.trans c21.2
  have z19 := (oV 19 (by omega) (by omega)).2.trans ((HE.out.g.cm.keep HK.out (fun x => n1 x)).2)
  have z20 := (oV 20 (by omega) (by omega)).2.trans f20
  have LO := Lib.hid (fun i (hi : i < 19) => And.intro ((oV i (by omega) (by omega)).1.trans (HK.out.cell (p := ⟨e, i, none⟩) helt (fun x => n1 x))) ((oV i (by omega) (by omega)).2.trans (HK.out.frozen (p := ⟨e, i, none⟩) helt (fun x => n1 x))))
  have KV := Lib.hid kV
  have HWc := Lib.hid (grid_W V _ _ _ _ _ _ _ GV.out)
  have HCN := Lib.hid (chart_new V (W' : Int) W' (by omega))
  have hel : e < V.heap.size := by have := HK.out.size; have := kV.size; omega
  clear hV kV oV d19 d20 d22 g22 d23 g23 c21
  go_wp2_with fail
  refine HWc.out.mono ?_
  rintro v4 w4 ⟨rfl, hw4⟩
  rw [hw4]
  clear hw4
  go_wp2_with fail
  refine HCN.out.mono ?_
  rintro v5 w5 ⟨rfl, hs5, hb5⟩
  have k5 : Keep (fun _ => False) V w5 := Keep.of_below _ hb5
  have y21 := (k5.cell (p := ⟨e, 21, none⟩) hel (fun x => x)).trans v21
  have y21z := (k5.frozen (p := ⟨e, 21, none⟩) hel (fun x => x)).trans z21
  have HQ : Hid (EmQ (w5.setCell ⟨e, 21, none⟩ (.pointer (some ⟨V.heap.size + 1, 0, none⟩))) e ⟨L.p, g', c', V.heap.size + 1, V.heap.size, W', none⟩ { m with W := W', H := H', F := EmM.sizeG m.W W' m.H H' m.F, O := m.O.map (EmM.sizeG m.W W' m.H H'), top := 0, bottom := H', stops := newL W' } ∧ Mv e L ⟨L.p, g', c', V.heap.size + 1, V.heap.size, W', none⟩ w (w5.setCell ⟨e, 21, none⟩ (.pointer (some ⟨V.heap.size + 1, 0, none⟩)))) := Lib.hid (by
    have hp1 := HG.out.lt
    have hp2 := HG.out.hg
    have hp3 := HG.out.ne
    have hps := HE.out.g.gm.lt
    have s1 := KV.out.size
    have s0 := HK.out.size
    have s5 := hb5.size
    have kk : Keep (· = e) V (w5.setCell ⟨e, 21, none⟩ (.pointer (some ⟨V.heap.size + 1, 0, none⟩))) := (k5.mono (fun _ _ x => x.elim)).setCell (S := fun i => i = e) (p := ⟨e, 21, none⟩) (fun _ => rfl) _
    have k6 := keep_set w5 e 21 (.pointer (some ⟨V.heap.size + 1, 0, none⟩))
    refine ⟨⟨⟨?_, ?_, .inl ⟨rfl, by rw [ho]; rfl, ?_⟩, ?_, ?_, ?_⟩, ?_, (by show 2 ≤ W'; omega), (by show W' ≤ 40; omega), (by show 1 ≤ H'; omega), (by show H' ≤ 20; omega)⟩, ?_⟩
    · exact ⟨(World.cell?_setCell_other _ ⟨e, 21, none⟩ ⟨e, 19, none⟩ _ (by simp)).trans ((k5.cell (p := ⟨e, 19, none⟩) hel (fun x => x)).trans v19), by rw [World.frozen?_setCell]; exact (k5.frozen (p := ⟨e, 19, none⟩) hel (fun x => x)).trans z19⟩
    · exact GV.out.keep kk (fun x => n1 x.symm) (fun x => hge x)
    · exact ⟨(World.cell?_setCell_other _ ⟨e, 21, none⟩ ⟨e, 20, none⟩ _ (by simp)).trans ((k5.cell (p := ⟨e, 20, none⟩) hel (fun x => x)).trans v20), by rw [World.frozen?_setCell]; exact (k5.frozen (p := ⟨e, 20, none⟩) hel (fun x => x)).trans z20⟩
    · exact ⟨World.cell?_setCell_same _ _ _ y21, by rw [World.frozen?_setCell]; exact y21z⟩
    · exact hs5.keep k6 (by omega) (by omega)
    · simp [Loc.bl, Loc.ob]; omega
    · have := (CV.out.keep k5 (fun x => x)).far (q := e) (i := 21) (fun _ => .inl (by omega)) (.pointer (some ⟨V.heap.size + 1, 0, none⟩))
      exact this
    · refine ⟨((HK.out.mono (fun i _ x => by subst x; simp [Loc.T, Loc.bl])).trans KV.out (fun i _ x => by subst x; simp [Loc.T, Loc.bl])).trans kk (fun i _ x => by subst x; simp [Loc.T, Loc.bl]), fun i hi => ?_, fun i x => ?_⟩
      · exact ⟨(World.cell?_setCell_other _ ⟨e, 21, none⟩ ⟨e, i, none⟩ _ (by simp <;> omega)).trans ((k5.cell (p := ⟨e, i, none⟩) hel (fun x => x)).trans (LO.out i hi).1), by rw [World.frozen?_setCell]; exact (k5.frozen (p := ⟨e, i, none⟩) hel (fun x => x)).trans (LO.out i hi).2⟩
      · simp only [Loc.T, Loc.bl, Loc.ob, List.mem_cons, List.not_mem_nil, or_false] at x ⊢
        rcases x with rfl | rfl | rfl | rfl | rfl
        · exact .inl (.inl rfl)
        · exact .inl (.inr (.inl rfl))
        all_goals (right; omega))
  clear hs5 hb5 k5 v19 v20 v21 z19 z20 z21
  have hok : (m.size W' H').Ok := HE.out.ok.size (by omega) (by omega) (by omega) (by omega)
  go_upto_region 5 with fail
  obtain ⟨W5, hW5⟩ : ∃ W5, W5 = w5.setCell ⟨e, 21, none⟩ (.pointer (some ⟨V.heap.size + 1, 0, none⟩)) := ⟨_, rfl⟩
  rw [← hW5]
  rw [← hW5] at HQ
  clear hW5 y21 y21z
  have HG5 : Hid (∀ Vx, Keep (fun _ => False) W5 Vx → Calls Tryz.prog 40 #[.pointer (some ⟨e, 0, none⟩), .int .i64 (m.st.x : Int), .int .i64 (m.st.y : Int)] Vx fun v w' => v = .returned (.tuple #[]) ∧ ∃ L', EmR w' e L' (m.size W' H') ∧ Mv e L L' w w') := Lib.hid (fun Vx k => (emu_goToQ Vx e _ _ _ _ (HQ.out.1.quiet k)).mono fun v w' ⟨a, b, c⟩ => ⟨a, _, b.r hok, (HQ.out.2.quiet ((HQ.out.1.g.lt e (by simp [Loc.T, Loc.bl]))) k).trans c⟩)
  have c24 := (HQ.out.1.cell 2 24 rfl _ rfl).1
  have c25 := (HQ.out.1.cell 3 25 rfl _ rfl).1
  go_region_law (first | (go_simp; go_at_call 40; refine (HG5.out _ (by first | exact Keep.refl _ _ | exact (Keep.refl _ _).drew | exact (Keep.refl _ _).drewN _)).mono ?_; rintro v w1 ⟨rfl, he⟩; have HE := Lib.hid he; clear he) | fail)
  all_goals
    go_wp2_with fail
    go_end0
    exact ⟨rfl, by obtain ⟨L', a, b⟩ := HE.out; exact ⟨L', a, b⟩⟩

end Go.Proofs.YtmlceohmjkaadaaGreatDoor
