/- emu: save, restore (a stance: eleven cells at once). Own work. -/
import Derived.Test.YtnminmaklbhakaaGreatDoorEmus2
namespace Go.Proofs.YtnminmaklbhakaaGreatDoor
set_option linter.unusedVariables false
set_option linter.unusedSimpArgs false
open Go.RowKit

theorem CellsAt.sets {w : World} {p o : Nat} {cs : List Value} (h : CellsAt w p o cs) (us : List Value) : ∀ (j : Nat) (w' : World) {q : Nat}, q = o + j → j + us.length ≤ cs.length → w' = w.setCells p q us → CellsAt w' p o (cs.take j ++ us ++ cs.drop (j + us.length)) := by
  intro j w' q hq hl hw
  subst hw hq
  intro i v hi
  have hlen : (cs.take j).length = j := by rw [List.length_take]; omega
  rcases Nat.lt_or_ge i j with e | e
  · rw [List.append_assoc, List.getElem?_append_left (by omega), List.getElem?_take, if_pos e] at hi
    have c := h i v hi
    exact ⟨(World.cell?_setCells_out _ _ _ _ _ (fun _ _ => by show o + i < _ ∨ _; omega)).trans c.1, (World.frozen?_setCells _ _ _ _ _).trans c.2⟩
  · rcases Nat.lt_or_ge i (j + us.length) with e2 | e2
    · rw [List.append_assoc, List.getElem?_append_right (by omega), List.getElem?_append_left (by omega), hlen] at hi
      have c := h i _ (List.getElem?_eq_getElem (by omega))
      have hx : us[i - j]'(by omega) = v := by rw [List.getElem?_eq_getElem (by omega)] at hi; injection hi
      refine ⟨?_, (World.frozen?_setCells _ _ _ _ _).trans c.2⟩
      have := World.cell?_setCells_in p us (o + j) w (fun k hk => by
        have ck := h (j + k) _ (List.getElem?_eq_getElem (by omega))
        rw [← Nat.add_assoc] at ck
        rw [ck.1]; rfl) (i - j) (by omega)
      rw [show o + j + (i - j) = o + i by omega, hx] at this
      exact this
    · rw [List.getElem?_append_right (by rw [List.length_append, hlen]; omega)] at hi
      rw [List.getElem?_drop] at hi
      have hi' : cs[i]? = some v := by
        rw [← hi]; congr 1
        rw [List.length_append, hlen]; omega
      have c := h i v hi'
      exact ⟨(World.cell?_setCells_out _ _ _ _ _ (fun _ _ => by show o + i < o + j ∨ o + j + us.length ≤ o + i; omega)).trans c.1, (World.frozen?_setCells _ _ _ _ _).trans c.2⟩

theorem EmG.turn {w w' : World} {e : Nat} {L : Loc} {W H : Nat} {F : Nat → CellM} {O : Option (Nat → CellM)} {stops : List Bool} (h : EmG w e L W H F O stops) (k : Keep (· = e) w w')
    (ho : ∀ i, i < 22 → w'.cell? ⟨e, i, none⟩ = w.cell? ⟨e, i, none⟩ ∧ w'.frozen? ⟨e, i, none⟩ = w.frozen? ⟨e, i, none⟩) : EmG w' e L W H F O stops := by
  have nd := h.nd
  simp only [Loc.bl, List.nodup_cons, List.mem_cons, not_or] at nd
  obtain ⟨⟨n1, n2, n3, n4, n5⟩, -⟩ := nd
  have cc : ∀ {i : Nat} {v : Value}, i < 22 → Cell w e i v → Cell w' e i v := fun hi c => ⟨(ho _ hi).1.trans c.1, (ho _ hi).2.trans c.2⟩
  refine ⟨cc (by omega) h.cm, h.gm.keep k (fun x => n1 x.symm) (fun x => n2 x.symm), ?_, cc (by omega) h.ct, h.sp.keep k (fun x => n3 x.symm) (fun x => n4 x.symm), h.nd⟩
  rcases h.co with ⟨a, b, c⟩ | ⟨a, b, c, G, ho, hG, hc, hg⟩
  · exact .inl ⟨a, b, cc (by omega) c⟩
  · simp [Loc.ob, ho] at n5
    exact .inr ⟨a, b, c, G, ho, hG, cc (by omega) hc, hg.keep k (fun x => n5.1 x.symm) (fun x => n5.2 x.symm)⟩

/-- Cells of block e behind its pointers were set at once. -/
theorem EmR.sets {w : World} {e : Nat} {L : Loc} {m m' : EmM} (h : EmR w e L m) (us : List Value) (j q : Nat) (hq : q = 22 + j) (hl : j + us.length ≤ 28) (hcs : m'.cs = m.cs.take j ++ us ++ m.cs.drop (j + us.length)) (hg : m'.W = m.W ∧ m'.H = m.H ∧ m'.F = m.F ∧ m'.O = m.O ∧ m'.stops = m.stops) (ok : m'.Ok) :
    EmR (w.setCells e q us) e L m' ∧ Mv e L L w (w.setCells e q us) := by
  have k : Keep (· = e) w (w.setCells e q us) := keep_setCells (S := fun x => x = e) e (fun _ => rfl) _ _ _ (Keep.refl _ w)
  have ho : ∀ i, i < 22 → (w.setCells e q us).cell? ⟨e, i, none⟩ = w.cell? ⟨e, i, none⟩ ∧ (w.setCells e q us).frozen? ⟨e, i, none⟩ = w.frozen? ⟨e, i, none⟩ := fun i hi => ⟨World.cell?_setCells_out _ _ _ _ _ (fun _ _ => by show i < q ∨ _; omega), World.frozen?_setCells _ _ _ _ _⟩
  obtain ⟨g1, g2, g3, g4, g5⟩ := hg
  refine ⟨⟨?_, ?_, ok⟩, k.mono (fun i _ x => by subst x; exact L.e_T _), fun i hi => ho i (by omega), fun i hi => .inl hi⟩
  · rw [g1, g2, g3, g4, g5]; exact h.g.turn k ho
  · rw [hcs]; exact h.cs.sets us j _ hq (by rw [m.cs_len]; exact hl) rfl

set_option maxRecDepth 100000 in
set_option maxHeartbeats 1600000 in
theorem emu_save (w : World) (e : Nat) (L : Loc) (m : EmM) (h : EmR w e L m) :
    Calls Tryz.prog 91 #[.pointer (some ⟨e, 0, none⟩)] w fun v w' => v = .returned (.tuple #[]) ∧ EmR w' e L m.save ∧ Mv e L L w w' := by
  have FIN := Lib.hid (h.sets (m' := m.save) m.st.cs 13 35 rfl (by show 13 + 11 ≤ 28; decide) rfl ⟨rfl, rfl, rfl, rfl, rfl⟩ h.ok.save)
  have c0 := (h.cell 2 24 rfl _ rfl).1; have d0 := (h.cell 13 35 rfl _ rfl).1; have f0 := (h.cell 13 35 rfl _ rfl).2
  have c1 := (h.cell 3 25 rfl _ rfl).1; have d1 := (h.cell 14 36 rfl _ rfl).1; have f1 := (h.cell 14 36 rfl _ rfl).2
  have c2 := (h.cell 4 26 rfl _ rfl).1; have d2 := (h.cell 15 37 rfl _ rfl).1; have f2 := (h.cell 15 37 rfl _ rfl).2
  have c3 := (h.cell 5 27 rfl _ rfl).1; have d3 := (h.cell 16 38 rfl _ rfl).1; have f3 := (h.cell 16 38 rfl _ rfl).2
  have c4 := (h.cell 6 28 rfl _ rfl).1; have d4 := (h.cell 17 39 rfl _ rfl).1; have f4 := (h.cell 17 39 rfl _ rfl).2
  have c5 := (h.cell 7 29 rfl _ rfl).1; have d5 := (h.cell 18 40 rfl _ rfl).1; have f5 := (h.cell 18 40 rfl _ rfl).2
  have c6 := (h.cell 8 30 rfl _ rfl).1; have d6 := (h.cell 19 41 rfl _ rfl).1; have f6 := (h.cell 19 41 rfl _ rfl).2
  have c7 := (h.cell 9 31 rfl _ rfl).1; have d7 := (h.cell 20 42 rfl _ rfl).1; have f7 := (h.cell 20 42 rfl _ rfl).2
  have c8 := (h.cell 10 32 rfl _ rfl).1; have d8 := (h.cell 21 43 rfl _ rfl).1; have f8 := (h.cell 21 43 rfl _ rfl).2
  have c9 := (h.cell 11 33 rfl _ rfl).1; have d9 := (h.cell 22 44 rfl _ rfl).1; have f9 := (h.cell 22 44 rfl _ rfl).2
  have c10 := (h.cell 12 34 rfl _ rfl).1; have d10 := (h.cell 23 45 rfl _ rfl).1; have f10 := (h.cell 23 45 rfl _ rfl).2
  generalize m.save = m2 at *
  clear h
  go_enter Tryz.func91, Tryz.ntmps91
  go_wp2_with fail
  go_end0
  exact ⟨rfl, FIN.out⟩

/-- What was saved is again; the cursor may be beyond the screen. -/
theorem EmR.restored {w : World} {e : Nat} {L : Loc} {m : EmM} (h : EmR w e L m) : EmQ (w.setCells e 24 m.sv.cs) e L { m with st := m.sv } ∧ Mv e L L w (w.setCells e 24 m.sv.cs) := by
  have k : Keep (· = e) w (w.setCells e 24 m.sv.cs) := keep_setCells (S := fun x => x = e) e (fun _ => rfl) _ _ _ (Keep.refl _ w)
  have ho : ∀ i, i < 22 → (w.setCells e 24 m.sv.cs).cell? ⟨e, i, none⟩ = w.cell? ⟨e, i, none⟩ ∧ (w.setCells e 24 m.sv.cs).frozen? ⟨e, i, none⟩ = w.frozen? ⟨e, i, none⟩ := fun i hi => ⟨World.cell?_setCells_out _ _ _ _ _ (fun _ _ => by show i < 24 ∨ _; omega), World.frozen?_setCells _ _ _ _ _⟩
  exact ⟨⟨h.g.turn k ho, h.cs.sets m.sv.cs 2 _ rfl (by show 2 + 11 ≤ 28; decide) rfl, h.ok.w2, h.ok.w40, h.ok.h1, h.ok.h20⟩, k.mono (fun i _ x => by subst x; exact L.e_T _), fun i hi => ho i (by omega), fun i hi => .inl hi⟩

set_option maxRecDepth 100000 in
set_option maxHeartbeats 1600000 in
theorem emu_restore (w : World) (e : Nat) (L : Loc) (m : EmM) (h : EmR w e L m) :
    Calls Tryz.prog 92 #[.pointer (some ⟨e, 0, none⟩)] w fun v w' => v = .returned (.tuple #[]) ∧ EmR w' e L m.restore ∧ Mv e L L w w' := by
  have FIN := Lib.hid (h.restored)
  have OK := Lib.hid h.ok.restore
  have c0 := (h.cell 13 35 rfl _ rfl).1; have d0 := (h.cell 2 24 rfl _ rfl).1; have f0 := (h.cell 2 24 rfl _ rfl).2
  have c1 := (h.cell 14 36 rfl _ rfl).1; have d1 := (h.cell 3 25 rfl _ rfl).1; have f1 := (h.cell 3 25 rfl _ rfl).2
  have c2 := (h.cell 15 37 rfl _ rfl).1; have d2 := (h.cell 4 26 rfl _ rfl).1; have f2 := (h.cell 4 26 rfl _ rfl).2
  have c3 := (h.cell 16 38 rfl _ rfl).1; have d3 := (h.cell 5 27 rfl _ rfl).1; have f3 := (h.cell 5 27 rfl _ rfl).2
  have c4 := (h.cell 17 39 rfl _ rfl).1; have d4 := (h.cell 6 28 rfl _ rfl).1; have f4 := (h.cell 6 28 rfl _ rfl).2
  have c5 := (h.cell 18 40 rfl _ rfl).1; have d5 := (h.cell 7 29 rfl _ rfl).1; have f5 := (h.cell 7 29 rfl _ rfl).2
  have c6 := (h.cell 19 41 rfl _ rfl).1; have d6 := (h.cell 8 30 rfl _ rfl).1; have f6 := (h.cell 8 30 rfl _ rfl).2
  have c7 := (h.cell 20 42 rfl _ rfl).1; have d7 := (h.cell 9 31 rfl _ rfl).1; have f7 := (h.cell 9 31 rfl _ rfl).2
  have c8 := (h.cell 21 43 rfl _ rfl).1; have d8 := (h.cell 10 32 rfl _ rfl).1; have f8 := (h.cell 10 32 rfl _ rfl).2
  have c9 := (h.cell 22 44 rfl _ rfl).1; have d9 := (h.cell 11 33 rfl _ rfl).1; have f9 := (h.cell 11 33 rfl _ rfl).2
  have c10 := (h.cell 23 45 rfl _ rfl).1; have d10 := (h.cell 12 34 rfl _ rfl).1; have f10 := (h.cell 12 34 rfl _ rfl).2
  clear h
  go_enter Tryz.func92, Tryz.ntmps92
  go_upto_region 1 with fail
  have hch : (((((((((((w.setCell ⟨e, 24, none⟩ (.int .i64 (m.sv.x : Int))).setCell ⟨e, 25, none⟩ (.int .i64 (m.sv.y : Int))).setCell ⟨e, 26, none⟩ (.int .i64 m.sv.pen.fg)).setCell ⟨e, 27, none⟩ (.int .i64 m.sv.pen.bg)).setCell ⟨e, 28, none⟩ (.bool m.sv.pen.b)).setCell ⟨e, 29, none⟩ (.bool m.sv.pen.u)).setCell ⟨e, 30, none⟩ (.bool m.sv.pen.i)).setCell ⟨e, 31, none⟩ (.bool m.sv.origin)).setCell ⟨e, 32, none⟩ (.int .u8 (m.sv.s0 : Int))).setCell ⟨e, 33, none⟩ (.int .u8 (m.sv.s1 : Int))).setCell ⟨e, 34, none⟩ (.int .i64 (m.sv.use : Int))) = w.setCells e 24 m.sv.cs := rfl
  rw [hch]
  generalize w.setCells e 24 m.sv.cs = W1 at *
  have HG : Hid (∀ V, Keep (fun _ => False) W1 V → Calls Tryz.prog 25 #[.pointer (some ⟨e, 0, none⟩), .int .i64 (m.sv.x : Int), .int .i64 (m.sv.y : Int)] V fun v w' => v = .returned (.tuple #[]) ∧ EmR w' e L m.restore ∧ Mv e L L w w') := Lib.hid (fun V k => (emu_goToQ V e L { m with st := m.sv } _ _ (FIN.out.1.quiet k)).mono fun v w' ⟨a, b, c⟩ => ⟨a, b.r OK.out, (FIN.out.2.quiet (FIN.out.1.g.lt e (L.e_T e)) k).trans c⟩)
  have c24 := (FIN.out.1.cell 2 24 rfl _ rfl).1
  have c25 := (FIN.out.1.cell 3 25 rfl _ rfl).1
  clear hch
  go_region_law (first | (go_simp; go_at_call 25; refine (HG.out _ (by first | exact Keep.refl _ _ | exact (Keep.refl _ _).drew | exact (Keep.refl _ _).drewN _)).mono ?_; rintro v w1 ⟨rfl, he, hm⟩; have HE := Lib.hid he; have HM := Lib.hid hm; clear he hm) | fail)
  all_goals
    go_wp2_with fail
    go_end0
    exact ⟨rfl, HE.out, HM.out⟩

end Go.Proofs.YtnminmaklbhakaaGreatDoor
