/- emu: Screen. Own work. -/
import Derived.Test.YtnminmaklbhakaaGreatDoorEmuZs
namespace Go.Proofs.YtnminmaklbhakaaGreatDoor
set_option linter.unusedVariables false
set_option linter.unusedSimpArgs false
open Go.RowKit

set_option maxRecDepth 100000 in
set_option maxHeartbeats 3200000 in
theorem emu_screen (w : World) (e : Nat) (L : Loc) (m : EmM) (h : EmR w e L m) :
    Calls Tryz.prog 10 #[.pointer (some ⟨e, 0, none⟩)] w (ScrTo m w) := by
  have HE := Lib.hid h
  have helt := h.elt
  obtain ⟨W0, hW0⟩ : ∃ W0, W0 = w.alloc (.cells #[.int .i64 0, .int .i64 0, .slice none 0 0, .int .i64 0, .int .i64 0, .bool false] 34) := ⟨_, rfl⟩
  have K0 : Hid (Keep (fun _ => False) w W0) := Lib.hid (by rw [hW0]; exact (Keep.refl _ w).alloc _)
  have hq0 : W0.heap[w.heap.size]? = some (.cells #[.int .i64 0, .int .i64 0, .slice none 0 0, .int .i64 0, .int .i64 0, .bool false] 34 (0, 0)) := by rw [hW0]; exact heap_alloc_new w _
  have h0 := h.quiet K0.out
  have HE0 := Lib.hid h0
  have HRD := Lib.hid (emu_ready W0 e L m h0)
  have HS := Lib.hid (emu_shown W0 e L m h0)
  have HW : Hid (∀ V, Keep (fun _ => False) W0 V → Calls Tryz.prog 24 #[.pointer (some ⟨L.sh.1, 0, none⟩)] V fun v w' => v = .returned (.int .i64 (m.W : Int)) ∧ w' = V) := Lib.hid (fun V k => grid_W V _ _ _ _ _ _ _ (HE0.out.quiet k).shown)
  have HH : Hid (∀ V, Keep (fun _ => False) W0 V → Calls Tryz.prog 22 #[.pointer (some ⟨L.sh.1, 0, none⟩)] V fun v w' => v = .returned (.int .i64 (m.H : Int)) ∧ w' = V) := Lib.hid (fun V k => grid_H V _ _ _ _ _ _ _ (HE0.out.quiet k).shown)
  have HC : Hid (∀ V, Keep (fun _ => False) W0 V → Calls Tryz.prog 29 #[.pointer (some ⟨L.sh.1, 0, none⟩)] V (CloneTo (m.W * m.H) m.shown V)) := Lib.hid (fun V k => grid_cells V _ _ _ _ _ _ _ (HE0.out.quiet k).shown)
  have HRC : Hid (∀ V, Keep (fun _ => False) W0 V → V.cell? ⟨e, 24, none⟩ = some (.int .i64 (m.st.x : Int)) ∧ V.cell? ⟨e, 25, none⟩ = some (.int .i64 (m.st.y : Int)) ∧ V.cell? ⟨e, 49, none⟩ = some (.bool m.hid)) := Lib.hid (fun V k => ⟨((HE0.out.quiet k).cell 2 24 rfl _ rfl).1, ((HE0.out.quiet k).cell 3 25 rfl _ rfl).1, ((HE0.out.quiet k).cell 27 49 rfl _ rfl).1⟩)
  have HQ0 := Lib.hid hq0
  have c24 := (HRC.out W0 (Keep.refl _ _)).1
  have c25 := (HRC.out W0 (Keep.refl _ _)).2.1
  have c49 := (HRC.out W0 (Keep.refl _ _)).2.2
  clear h h0 hq0
  go_enter Tryz.func10, Tryz.ntmps10
  go_wp2_with fail
  rw [← hW0]
  clear hW0
  refine HRD.out.mono ?_
  rintro v w1 ⟨rfl, hw1⟩
  rw [hw1]
  clear hw1
  go_wp2_with fail
  refine HS.out.mono ?_
  rintro v w1 ⟨rfl, hw1⟩
  rw [hw1]
  clear hw1
  obtain ⟨q, hq⟩ : ∃ q, q = w.heap.size := ⟨_, rfl⟩
  rw [← hq] at HQ0 ⊢
  have HQ := Lib.hid hq
  clear hq
  go_upto_region 4 with fail
  refine wp_region_noPanic ?_
  refine wp_region_held_drew (S := fun w' => w'.cell? ⟨e, 24, none⟩ = some (.int .i64 (m.st.x : Int)) ∧ w'.cell? ⟨e, 25, none⟩ = some (.int .i64 (m.st.y : Int)) ∧ w'.cell? ⟨e, 49, none⟩ = some (.bool m.hid)) (by kernel_rfl) ⟨c24, c25, c49⟩ (fun hHeld => ?_)
  refine wpAnyH_take (i := 0) (oi := _) (v := ?va0) rfl (by kernel_rfl) (by kernel_rfl) (by kernel_rfl) (fun _ _ _ h => h) (Or.inl ⟨by rfl, ?hya0⟩) (by assumption) ?resta0
  case hya0 => (intro w hSw; (try dsimp only at hSw); (try simp only [List.getElem_toArray, List.getElem_cons_zero, List.getElem_cons_succ]); go_simp; (try with_reducible rfl))
  (try simp only [Act.put, List.setIfInBounds_toArray, List.set_cons_zero, List.set_cons_succ, List.getElem_toArray, List.getElem_cons_zero, List.getElem_cons_succ])
  refine wpAnyH_take (i := 2) (oi := _) (v := ?va2) rfl (by kernel_rfl) (by kernel_rfl) (by kernel_rfl) (fun _ _ _ h => h) (Or.inl ⟨by rfl, ?hya2⟩) (by assumption) ?resta2
  case hya2 => (intro w hSw; (try dsimp only at hSw); (try simp only [List.getElem_toArray, List.getElem_cons_zero, List.getElem_cons_succ]); go_simp; (try with_reducible rfl))
  (try simp only [Act.put, List.setIfInBounds_toArray, List.set_cons_zero, List.set_cons_succ, List.getElem_toArray, List.getElem_cons_zero, List.getElem_cons_succ])
  refine wpAnyH_take (i := 4) (oi := _) (v := ?va4) rfl (by kernel_rfl) (by kernel_rfl) (by kernel_rfl) (fun _ _ _ h => h) (Or.inl ⟨by rfl, ?hya4⟩) (by assumption) ?resta4
  case hya4 => (intro w hSw; (try dsimp only at hSw); (try simp only [List.getElem_toArray, List.getElem_cons_zero, List.getElem_cons_succ]); go_simp; (try with_reducible rfl))
  (try simp only [Act.put, List.setIfInBounds_toArray, List.set_cons_zero, List.set_cons_succ, List.getElem_toArray, List.getElem_cons_zero, List.getElem_cons_succ])
  refine wpAnyH_take (i := 6) (oi := _) (v := ?va6) rfl (by kernel_rfl) (by kernel_rfl) (by kernel_rfl) (fun _ _ _ h => h) (Or.inl ⟨by rfl, ?hya6⟩) (by assumption) ?resta6
  case hya6 => (intro w hSw; (try dsimp only at hSw); (try simp only [List.getElem_toArray, List.getElem_cons_zero, List.getElem_cons_succ]); go_simp; (try with_reducible rfl))
  (try simp only [Act.put, List.setIfInBounds_toArray, List.set_cons_zero, List.set_cons_succ, List.getElem_toArray, List.getElem_cons_zero, List.getElem_cons_succ])
  refine wpAnyH_take (i := 7) (oi := _) (v := ?va7) rfl (by kernel_rfl) (by kernel_rfl) (by kernel_rfl) (fun _ _ _ h => h) (Or.inl ⟨by rfl, ?hya7⟩) (by assumption) ?resta7
  case hya7 => (intro w hSw; (try dsimp only at hSw); (try simp only [List.getElem_toArray, List.getElem_cons_zero, List.getElem_cons_succ]); go_simp; (try with_reducible rfl))
  (try simp only [Act.put, List.setIfInBounds_toArray, List.set_cons_zero, List.set_cons_succ, List.getElem_toArray, List.getElem_cons_zero, List.getElem_cons_succ])
  refine wpAnyH_take (i := 8) (oi := _) (v := ?va8) rfl (by kernel_rfl) (by kernel_rfl) (by kernel_rfl) (fun _ _ _ h => h) (Or.inl ⟨by rfl, ?hya8⟩) (by assumption) ?resta8
  case hya8 => (intro w hSw; (try dsimp only at hSw); (try simp only [List.getElem_toArray, List.getElem_cons_zero, List.getElem_cons_succ]); go_simp; (try with_reducible rfl))
  (try simp only [Act.put, List.setIfInBounds_toArray, List.set_cons_zero, List.set_cons_succ, List.getElem_toArray, List.getElem_cons_zero, List.getElem_cons_succ])
  refine wpAnyH_take (i := 9) (oi := _) (v := ?va9) rfl (by kernel_rfl) (by kernel_rfl) (by kernel_rfl) (fun _ _ _ h => h) (Or.inl ⟨by rfl, ?hya9⟩) (by assumption) ?resta9
  case hya9 => (intro w hSw; (try dsimp only at hSw); (try simp only [List.getElem_toArray, List.getElem_cons_zero, List.getElem_cons_succ]); go_simp; (try with_reducible rfl))
  (try simp only [Act.put, List.setIfInBounds_toArray, List.set_cons_zero, List.set_cons_succ, List.getElem_toArray, List.getElem_cons_zero, List.getElem_cons_succ])
  refine wpAnyH_take (i := 10) (oi := _) (v := ?va10) rfl (by kernel_rfl) (by kernel_rfl) (by kernel_rfl) (fun _ _ _ h => h) (Or.inl ⟨by rfl, ?hya10⟩) (by assumption) ?resta10
  case hya10 => (intro w hSw; (try dsimp only at hSw); (try simp only [List.getElem_toArray, List.getElem_cons_zero, List.getElem_cons_succ]); go_simp; (try with_reducible rfl))
  (try simp only [Act.put, List.setIfInBounds_toArray, List.set_cons_zero, List.set_cons_succ, List.getElem_toArray, List.getElem_cons_zero, List.getElem_cons_succ])
  refine wpAnyH_take (i := 11) (oi := _) (v := ?va11) rfl (by kernel_rfl) (by kernel_rfl) (by kernel_rfl) (fun _ _ _ h => h) (Or.inl ⟨by rfl, ?hya11⟩) (by assumption) ?resta11
  case hya11 => (intro w hSw; (try dsimp only at hSw); (try simp only [List.getElem_toArray, List.getElem_cons_zero, List.getElem_cons_succ]); go_simp; (try with_reducible rfl))
  (try simp only [Act.put, List.setIfInBounds_toArray, List.set_cons_zero, List.set_cons_succ, List.getElem_toArray, List.getElem_cons_zero, List.getElem_cons_succ])
  refine wpAnyH_take (i := 12) (oi := _) (v := ?va12) rfl (by kernel_rfl) (by kernel_rfl) (by kernel_rfl) (fun _ _ _ h => h) (Or.inl ⟨by rfl, ?hya12⟩) (by assumption) ?resta12
  case hya12 => (intro w hSw; (try dsimp only at hSw); (try simp only [List.getElem_toArray, List.getElem_cons_zero, List.getElem_cons_succ]); go_simp; (try with_reducible rfl))
  (try simp only [Act.put, List.setIfInBounds_toArray, List.set_cons_zero, List.set_cons_succ, List.getElem_toArray, List.getElem_cons_zero, List.getElem_cons_succ])
  refine wpAnyH_take (i := 13) (oi := _) (v := ?va13) rfl (by kernel_rfl) (by kernel_rfl) (by kernel_rfl) (fun _ _ _ h => h) (Or.inl ⟨by rfl, ?hya13⟩) (by assumption) ?resta13
  case hya13 => (intro w hSw; (try dsimp only at hSw); (try simp only [List.getElem_toArray, List.getElem_cons_zero, List.getElem_cons_succ]); go_simp; (try with_reducible rfl))
  (try simp only [Act.put, List.setIfInBounds_toArray, List.set_cons_zero, List.set_cons_succ, List.getElem_toArray, List.getElem_cons_zero, List.getElem_cons_succ])
  refine wpAnyH_take (i := 14) (oi := _) (v := ?va14) rfl (by kernel_rfl) (by kernel_rfl) (by kernel_rfl) (fun _ _ _ h => h) (Or.inl ⟨by rfl, ?hya14⟩) (by assumption) ?resta14
  case hya14 => (intro w hSw; (try dsimp only at hSw); (try simp only [List.getElem_toArray, List.getElem_cons_zero, List.getElem_cons_succ]); go_simp; (try with_reducible rfl))
  (try simp only [Act.put, List.setIfInBounds_toArray, List.set_cons_zero, List.set_cons_succ, List.getElem_toArray, List.getElem_cons_zero, List.getElem_cons_succ])
  refine wpAnyH_take (i := 15) (oi := _) (v := ?va15) rfl (by kernel_rfl) (by kernel_rfl) (by kernel_rfl) (fun _ _ _ h => h) (Or.inl ⟨by rfl, ?hya15⟩) (by assumption) ?resta15
  case hya15 => (intro w hSw; (try dsimp only at hSw); (try simp only [List.getElem_toArray, List.getElem_cons_zero, List.getElem_cons_succ]); go_simp; (try with_reducible rfl))
  (try simp only [Act.put, List.setIfInBounds_toArray, List.set_cons_zero, List.set_cons_succ, List.getElem_toArray, List.getElem_cons_zero, List.getElem_cons_succ])
  refine wpAnyH_take (i := 16) (oi := _) (v := ?va16) rfl (by kernel_rfl) (by kernel_rfl) (by kernel_rfl) (fun _ _ _ h => h) (Or.inl ⟨by rfl, ?hya16⟩) (by assumption) ?resta16
  case hya16 => (intro w hSw; (try dsimp only at hSw); (try simp only [List.getElem_toArray, List.getElem_cons_zero, List.getElem_cons_succ]); go_simp; (try with_reducible rfl))
  (try simp only [Act.put, List.setIfInBounds_toArray, List.set_cons_zero, List.set_cons_succ, List.getElem_toArray, List.getElem_cons_zero, List.getElem_cons_succ])
  refine wpAnyH_take (i := 17) (oi := _) (v := ?va17) rfl (by kernel_rfl) (by kernel_rfl) (by kernel_rfl) (fun _ _ _ h => h) (Or.inl ⟨by rfl, ?hya17⟩) (by assumption) ?resta17
  case hya17 => (intro w hSw; (try dsimp only at hSw); (try simp only [List.getElem_toArray, List.getElem_cons_zero, List.getElem_cons_succ]); go_simp; (try with_reducible rfl))
  (try simp only [Act.put, List.setIfInBounds_toArray, List.set_cons_zero, List.set_cons_succ, List.getElem_toArray, List.getElem_cons_zero, List.getElem_cons_succ])
  refine wpAnyH_take (i := 18) (oi := _) (v := ?va18) rfl (by kernel_rfl) (by kernel_rfl) (by kernel_rfl) (fun _ _ _ h => h) (Or.inl ⟨by rfl, ?hya18⟩) (by assumption) ?resta18
  case hya18 => (intro w hSw; (try dsimp only at hSw); (try simp only [List.getElem_toArray, List.getElem_cons_zero, List.getElem_cons_succ]); go_simp; (try with_reducible rfl))
  (try simp only [Act.put, List.setIfInBounds_toArray, List.set_cons_zero, List.set_cons_succ, List.getElem_toArray, List.getElem_cons_zero, List.getElem_cons_succ])
  refine wpAnyH_take (i := 19) (oi := _) (v := ?va19) rfl (by kernel_rfl) (by kernel_rfl) (by kernel_rfl) (fun _ _ _ h => h) (Or.inl ⟨by rfl, ?hya19⟩) (by assumption) ?resta19
  case hya19 => (intro w hSw; (try dsimp only at hSw); (try simp only [List.getElem_toArray, List.getElem_cons_zero, List.getElem_cons_succ]); go_simp; (try with_reducible rfl))
  (try simp only [Act.put, List.setIfInBounds_toArray, List.set_cons_zero, List.set_cons_succ, List.getElem_toArray, List.getElem_cons_zero, List.getElem_cons_succ])
  refine wpAnyH_ready (rs := [1]) (by kernel_rfl) (by simp) ?_
  refine AllReadyH.cons (o := _) rfl (fun K hK => ?_) AllReadyH.nil
  (try simp only [List.getElem_toArray, List.getElem_cons_zero, List.getElem_cons_succ])
  go_simp
  refine (HW.out _ ((Keep.refl _ W0).drew)).mono ?_; rintro v w3 ⟨rfl, hw3⟩; rw [hw3]; clear hw3
  refine hK.out _ _ ?_ (fun hHeld => ?_)
  · exact ⟨c24, c25, c49⟩
  clear hK K
  (try simp only [Act.put, List.setIfInBounds_toArray, List.set_cons_zero, List.set_cons_succ, List.getElem_toArray, List.getElem_cons_zero, List.getElem_cons_succ])
  refine wpAnyH_ready (rs := [3]) (by kernel_rfl) (by simp) ?_
  refine AllReadyH.cons (o := _) rfl (fun K hK => ?_) AllReadyH.nil
  (try simp only [List.getElem_toArray, List.getElem_cons_zero, List.getElem_cons_succ])
  go_simp
  refine (HH.out _ ((Keep.refl _ W0).drew)).mono ?_; rintro v w3 ⟨rfl, hw3⟩; rw [hw3]; clear hw3
  refine hK.out _ _ ?_ (fun hHeld => ?_)
  · exact ⟨c24, c25, c49⟩
  clear hK K
  (try simp only [Act.put, List.setIfInBounds_toArray, List.set_cons_zero, List.set_cons_succ, List.getElem_toArray, List.getElem_cons_zero, List.getElem_cons_succ])
  refine wpAnyH_ready (rs := [5]) (by kernel_rfl) (by simp) ?_
  refine AllReadyH.cons (o := _) rfl (fun K hK => ?_) AllReadyH.nil
  (try simp only [List.getElem_toArray, List.getElem_cons_zero, List.getElem_cons_succ])
  go_simp
  refine (HC.out _ ((Keep.refl _ W0).drew)).mono ?_; rintro v w5 ⟨g, c, rfl, hg1, hg2, hg3, hg4, hg5, hg6, hg7⟩; have K5 : Hid (Keep (fun _ => False) W0 w5) := Lib.hid (Keep.trans ((Keep.refl _ W0).drew) (Keep.of_below (fun _ => False) hg7) (fun _ _ x => x)); have hq5 := K5.out.heap HQ0.out (fun x => x); have d0 := cell_at hq5 0; have f0 := free_at hq5 0; have d1 := cell_at hq5 1; have f1 := free_at hq5 1; have d2 := cell_at hq5 2; have f2 := free_at hq5 2; have d3 := cell_at hq5 3; have f3 := free_at hq5 3; have d4 := cell_at hq5 4; have f4 := free_at hq5 4; have d5 := cell_at hq5 5; have f5 := free_at hq5 5; have HG : Hid (W0.heap.size ≤ g ∧ g < w5.heap.size ∧ Lies w5 g 0 (m.W * m.H) m.shown ∧ m.W * m.H ≤ c) := Lib.hid ⟨hg1, hg2, hg3, hg4⟩; clear hg1 hg2 hg3 hg4 hg5 hg6 hg7 hq5
  refine hK.out _ _ ?_ (fun hHeld => ?_)
  · exact HRC.out w5 K5.out
  clear hK K
  (try simp only [Act.put, List.setIfInBounds_toArray, List.set_cons_zero, List.set_cons_succ, List.getElem_toArray, List.getElem_cons_zero, List.getElem_cons_succ])
  refine wpAnyH_take (i := 20) (oi := _) (v := ?va20) rfl (by kernel_rfl) (by kernel_rfl) (by kernel_rfl) (fun _ _ _ h => h) (Or.inl ⟨by rfl, ?hya20⟩) (by assumption) ?resta20
  case hya20 => (intro w hSw; (try dsimp only at hSw); (try simp only [List.getElem_toArray, List.getElem_cons_zero, List.getElem_cons_succ]); go_simp; (try with_reducible rfl))
  (try simp only [Act.put, List.setIfInBounds_toArray, List.set_cons_zero, List.set_cons_succ, List.getElem_toArray, List.getElem_cons_zero, List.getElem_cons_succ])
  refine wpAnyH_ready (rs := [21]) (by kernel_rfl) (by simp) ?_
  refine AllReadyH.cons (o := _) rfl (fun K hK => ?_) AllReadyH.nil
  (try simp only [List.getElem_toArray, List.getElem_cons_zero, List.getElem_cons_succ])
  go_simp
  refine hK.out _ _ ?_ (fun hHeld => ?_)
  · have HX := HRC.out w5 K5.out
    have heq : e ≠ q := by have := HQ.out; omega
    have hel : e < w5.heap.size := Nat.lt_of_lt_of_le (Nat.lt_of_lt_of_le helt K0.out.size) K5.out.size
    have hkk : Keep (fun i => i = q) w5 _ := ((((((Keep.refl (fun i => i = q) w5).own 0 (.int .i64 (m.W : Int))).own 1 (.int .i64 (m.H : Int))).own 2 (.slice (some ⟨g, 0, none⟩) (m.W * m.H) c)).own 3 (.int .i64 (m.st.x : Int))).own 4 (.int .i64 (m.st.y : Int))).own 5 (.bool m.hid)
    exact ⟨(hkk.cell (p := ⟨e, 24, none⟩) hel heq).trans HX.1, (hkk.cell (p := ⟨e, 25, none⟩) hel heq).trans HX.2.1, (hkk.cell (p := ⟨e, 49, none⟩) hel heq).trans HX.2.2⟩
  clear hK K
  (try simp only [Act.put, List.setIfInBounds_toArray, List.set_cons_zero, List.set_cons_succ, List.getElem_toArray, List.getElem_cons_zero, List.getElem_cons_succ])
  refine wpAnyH_done (by kernel_rfl) ?_ _
  refine NoPanic.normal ?_
  go_wp2_with fail
  refine bodyPost_ret (v := scrV m (some ⟨g, 0, none⟩) c) (by simp [results, Tryz.results10, go_sem, scrV, d0, d1, d2, d3, d4, d5]) rfl ?_
  have hsz : w.heap.size < W0.heap.size := by have := lt_heap HQ0.out; have := HQ.out; omega
  have hk := ((((((Keep.refl (fun i => i = q) w5).own 0 (.int .i64 (m.W : Int))).own 1 (.int .i64 (m.H : Int))).own 2 (.slice (some ⟨g, 0, none⟩) (m.W * m.H) c)).own 3 (.int .i64 (m.st.x : Int))).own 4 (.int .i64 (m.st.y : Int))).own 5 (.bool m.hid)
  refine ⟨g, c, rfl, by have := HG.out.1; omega, Nat.lt_of_lt_of_le HG.out.2.1 (by exact hk.size), HG.out.2.2.2, ((HG.out.2.2.1.keep HG.out.2.1 hk (fun x => by have := HG.out.1; have := HQ.out; omega)).src (Nat.lt_of_lt_of_le HG.out.2.1 hk.size)), ?_⟩
  exact (((K0.out.trans K5.out (fun _ _ x => x)).trans hk (S' := fun i => i = q) (fun i hi x => by have := HQ.out; omega)) : Keep (fun _ => False) w _).below (Nat.le_refl _) (fun _ _ x => x)

end Go.Proofs.YtnminmaklbhakaaGreatDoor
