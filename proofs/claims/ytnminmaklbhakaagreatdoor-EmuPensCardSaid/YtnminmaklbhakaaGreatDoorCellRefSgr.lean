/- The document's Sgr. By program (rgn/XCellRefSgr.py). Own work. -/
import Derived.Test.YtnminmaklbhakaaGreatDoorCellSs
import Derived.Test.YtnminmaklbhakaaGreatDoorCellA
namespace Go.Proofs.YtnminmaklbhakaaGreatDoor
set_option linter.unusedVariables false
set_option linter.unusedSimpArgs false
open Go.RowKit

theorem getD_drop (xs : List Int) (i j : Nat) : (xs.drop i).getD j 0 = xs.getD (i + j) 0 := by
  rw [List.getD_eq_getElem?_getD, List.getD_eq_getElem?_getD, List.getElem?_drop]
theorem step_plain {a : At} {xs : List Int} {i : Nat} {x : Int} (hx : xs[i]? = some x) (h1 : x ≠ 38) (h2 : x ≠ 48) : sgrOn a (xs.drop i) = sgrOn (changeL a x) (xs.drop (i + 1)) := by
  have hi : i < xs.length := by
    rcases Nat.lt_or_ge i xs.length with e | e
    · exact e
    · rw [List.getElem?_eq_none e] at hx; cases hx
  have hg : (xs.drop i).getD 0 0 = x := by rw [getD_drop, List.getD_eq_getElem?_getD, Nat.add_zero, hx]; rfl
  rw [sgrOn_step _ _ (fun e => by have := congrArg List.length e; simp at this; omega), List.drop_drop]
  unfold stepL
  rw [hg, if_neg h1, if_neg h2]
theorem step_front {a : At} {xs : List Int} {i : Nat} (hx : xs[i]? = some 38) : sgrOn a (xs.drop i) = sgrOn { a with fg := (chooseL a.fg (xs.drop i)).1 } (xs.drop (i + (chooseL a.fg (xs.drop i)).2)) := by
  have hi : i < xs.length := by
    rcases Nat.lt_or_ge i xs.length with e | e
    · exact e
    · rw [List.getElem?_eq_none e] at hx; cases hx
  have hg : (xs.drop i).getD 0 0 = 38 := by rw [getD_drop, List.getD_eq_getElem?_getD, Nat.add_zero, hx]; rfl
  rw [sgrOn_step _ _ (fun e => by have := congrArg List.length e; simp at this; omega), List.drop_drop]
  unfold stepL
  rw [hg, if_pos rfl]
theorem step_back {a : At} {xs : List Int} {i : Nat} (hx : xs[i]? = some 48) : sgrOn a (xs.drop i) = sgrOn { a with bg := (chooseL a.bg (xs.drop i)).1 } (xs.drop (i + (chooseL a.bg (xs.drop i)).2)) := by
  have hi : i < xs.length := by
    rcases Nat.lt_or_ge i xs.length with e | e
    · exact e
    · rw [List.getElem?_eq_none e] at hx; cases hx
  have hg : (xs.drop i).getD 0 0 = 48 := by rw [getD_drop, List.getD_eq_getElem?_getD, Nat.add_zero, hx]; rfl
  rw [sgrOn_step _ _ (fun e => by have := congrArg List.length e; simp at this; omega), List.drop_drop]
  unfold stepL
  rw [hg, if_neg (by decide), if_pos rfl]
theorem choose_end (c : Int) (xs : List Int) (i : Nat) (h : xs.length ≤ i + 1) : chooseL c (xs.drop i) = (c, 1) := by
  unfold chooseL
  rw [if_pos (by rw [List.length_drop]; omega)]
theorem choose_two (c : Int) (xs : List Int) (i : Nat) (h : xs[i + 1]? = some 2) : chooseL c (xs.drop i) = (c, 5) := by
  have hi : i + 1 < xs.length := by
    rcases Nat.lt_or_ge (i + 1) xs.length with e | e
    · exact e
    · rw [List.getElem?_eq_none e] at h; cases h
  have hg : (xs.drop i).getD 1 0 = 2 := by rw [getD_drop, List.getD_eq_getElem?_getD, h]; rfl
  unfold chooseL
  rw [if_neg (by rw [List.length_drop]; omega), hg, if_neg (by decide), if_pos rfl]
theorem choose_else (c : Int) (xs : List Int) (i : Nat) (y : Int) (h : xs[i + 1]? = some y) (h2 : y ≠ 2) (h5 : y ≠ 5) : chooseL c (xs.drop i) = (c, 1) := by
  have hi : i + 1 < xs.length := by
    rcases Nat.lt_or_ge (i + 1) xs.length with e | e
    · exact e
    · rw [List.getElem?_eq_none e] at h; cases h
  have hg : (xs.drop i).getD 1 0 = y := by rw [getD_drop, List.getD_eq_getElem?_getD, h]; rfl
  unfold chooseL
  rw [if_neg (by rw [List.length_drop]; omega), hg, if_neg h5, if_neg h2]
theorem choose_five (c : Int) (xs : List Int) (i : Nat) (h : xs[i + 1]? = some 5) : chooseL c (xs.drop i) = if 2 < xs.length - i ∧ 0 ≤ xs.getD (i + 2) 0 ∧ xs.getD (i + 2) 0 ≤ 15 then (xs.getD (i + 2) 0 + 1, 3) else (c, 3) := by
  have hi : i + 1 < xs.length := by
    rcases Nat.lt_or_ge (i + 1) xs.length with e | e
    · exact e
    · rw [List.getElem?_eq_none e] at h; cases h
  have hg : (xs.drop i).getD 1 0 = 5 := by rw [getD_drop, List.getD_eq_getElem?_getD, h]; rfl
  unfold chooseL
  rw [if_neg (by rw [List.length_drop]; omega), hg, if_pos rfl, getD_drop, List.length_drop]

set_option maxRecDepth 100000 in
set_option maxHeartbeats 6400000 in
theorem ref_sgr (a : At) (A : Option Addr) (n c : Nat) (xs : List Int) (w : World) (h : Src w A n (xs.map (Value.int .i64))) (hn : n ≤ 1000000) (hb : ∀ x ∈ xs, -9223372036854775808 ≤ x ∧ x ≤ 9223372036854775807) :
    Calls Tryz.prog 14 #[a.v, .slice A n c] w fun e w' => e = .returned (sgrL a xs).v ∧ Below w.heap.size w w' := by
  have hl : xs.length = n := by have := h.1; rwa [List.length_map] at this
  by_cases h0 : n = 0
  · subst h0
    have : xs = [] := List.eq_nil_of_length_eq_zero hl
    subst this
    obtain ⟨f, g, b, u, i⟩ := a
    simp only [sgrL, if_true, At.v, At.z]
    clear h hl hn hb
    go_enter Tryz.func14, Tryz.ntmps14
    go_wp2_with fail
    refine bodyPost_ret (v := .agg #[.int .i64 _, .int .i64 _, .bool _, .bool _, .bool _]) (by simp [results, Tryz.results14, go_sem]) rfl ⟨rfl, ?_⟩
    repeat (first | exact box5 .. | (refine Below.setCell ?_ (by simp) _))
  · have hn0 : ((n : Int) == 0) = false := by simp; omega
    have hn6 : (n : Int) ≤ 1000000 := by omega
    have H := Lib.hid h
    have HL := Lib.hid hl
    have HB := Lib.hid hb
    have HS : Hid (sgrL a xs = sgrOn a xs) := Lib.hid (by unfold sgrL; rw [if_neg (fun e => by rw [e] at hl; simp at hl; omega)])
    rw [HS.out]
    obtain ⟨f, g, b, u, ii⟩ := a
    obtain ⟨p, hp⟩ : ∃ p, p = w.heap.size := ⟨_, rfl⟩
    obtain ⟨bb, off, rfl, hbb, hcs⟩ := h.2 (by omega)
    have HC := Lib.hid hcs
    have hbp : bb < p := by omega
    have HP := Lib.hid hp
    clear h hl hb hp hcs hbb
    simp only [At.v]
    go_enter Tryz.func14, Tryz.ntmps14
    go_wp2_with fail
    rw [← HP.out]
    go_loopw [5] (fun iv wr => ∃ (a1 : At) (i : Nat), iv = .int .i64 i ∧ i ≤ n + 4 ∧ Hid (wr.heap[p]? = some (attrO a1)) ∧ Hid (wr.heap[p + 1]? = some (attrO .z)) ∧ Hid (Below p w wr) ∧ Hid (sgrOn ⟨f, g, b, u, ii⟩ xs = sgrOn a1 (xs.drop i))) (fun iv _ => n + 5 - (intOf iv).toNat)
    case atStart =>
      refine ⟨⟨f, g, b, u, ii⟩, 0, rfl, Nat.zero_le _, ?_, ?_, ?_, rfl⟩
      · show _ = _
        rw [HP.out]
        exact heap_alloc (heap_alloc_new w _) _
      · show _ = _
        have := heap_alloc_new (w.alloc (attrO ⟨f, g, b, u, ii⟩)) (attrO .z)
        rw [show (w.alloc (attrO ⟨f, g, b, u, ii⟩)).heap.size = p + 1 from by simp [HP.out]] at this
        exact this
      · show Below _ _ _
        rw [HP.out]
        exact box5 ..
    case round =>
      obtain ⟨a1, i, rfl, hk, HA, HZ, HW, HR⟩ := hrel
      obtain ⟨f1, g1, b1, u1, i1⟩ := a1
      have d0 : wr.cell? ⟨p, 0, none⟩ = some (.int .i64 f1) := cell_at HA.out 0
      have d1 : wr.cell? ⟨p, 1, none⟩ = some (.int .i64 g1) := cell_at HA.out 1
      have d2 : wr.cell? ⟨p, 2, none⟩ = some (.bool b1) := cell_at HA.out 2
      have d3 : wr.cell? ⟨p, 3, none⟩ = some (.bool u1) := cell_at HA.out 3
      have d4 : wr.cell? ⟨p, 4, none⟩ = some (.bool i1) := cell_at HA.out 4
      have z0 : wr.cell? ⟨p + 1, 0, none⟩ = some (.int .i64 0) := cell_at HZ.out 0
      have z1 : wr.cell? ⟨p + 1, 1, none⟩ = some (.int .i64 0) := cell_at HZ.out 1
      have z2 : wr.cell? ⟨p + 1, 2, none⟩ = some (.bool false) := cell_at HZ.out 2
      have z3 : wr.cell? ⟨p + 1, 3, none⟩ = some (.bool false) := cell_at HZ.out 3
      have z4 : wr.cell? ⟨p + 1, 4, none⟩ = some (.bool false) := cell_at HZ.out 4
      have e0 := free_at HA.out 0
      have e1 := free_at HA.out 1
      have e2 := free_at HA.out 2
      have e3 := free_at HA.out 3
      have e4 := free_at HA.out 4
      have y0 := free_at HZ.out 0
      have y1 := free_at HZ.out 1
      have y2 := free_at HZ.out 2
      have y3 := free_at HZ.out 3
      have y4 := free_at HZ.out 4
      have hi6 : (i : Int) ≤ 1000004 := by omega
      have hi0 : (0 : Int) ≤ (i : Int) := by omega
      by_cases hm : i < n
      · obtain ⟨x, hx⟩ : ∃ x, xs[i]? = some x := ⟨xs[i]'(by rw [HL.out]; exact hm), List.getElem?_eq_getElem _⟩
        have hcx : wr.cell? ⟨bb, off + i, none⟩ = some (.int .i64 x) := (HW.out.cell (p := ⟨bb, off + i, none⟩) hbp).trans (HC.out i _ (by rw [List.getElem?_map, hx]; rfl))
        have HX := Lib.hid hx
        have hxb := HB.out x (List.mem_of_getElem? hx)
        have hii : (i : Int) < (n : Int) := by omega
        have HCL : Hid ((x = 0 ∨ x = -1 ∨ x = 1 ∨ x = 22 ∨ x = 4 ∨ x = 24 ∨ x = 7 ∨ x = 27 ∨ x = 39 ∨ x = 49 ∨ x = 38 ∨ x = 48 ∨ (30 ≤ x ∧ x ≤ 37) ∨ (90 ≤ x ∧ x ≤ 97) ∨ (40 ≤ x ∧ x ≤ 47) ∨ (100 ≤ x ∧ x ≤ 107)) ∨ ((x ≠ -1 ∧ x ≠ 0 ∧ x ≠ 1 ∧ x ≠ 22 ∧ x ≠ 4 ∧ x ≠ 24 ∧ x ≠ 7 ∧ x ≠ 27 ∧ x ≠ 39 ∧ x ≠ 49 ∧ x ≠ 38 ∧ x ≠ 48) ∧ (x < 30 ∨ (50 ≤ x ∧ x ≤ 89) ∨ (98 ≤ x ∧ x ≤ 99) ∨ 108 ≤ x))) := Lib.hid (by omega)
        clear hx
        rcases HCL.out with (rfl | rfl | rfl | rfl | rfl | rfl | rfl | rfl | rfl | rfl | rfl | rfl | hr | hr | hr | hr) | ⟨hne, hr⟩
        · as_aux_lemma =>
            have HST : Hid (sgrOn ⟨f, g, b, u, ii⟩ xs = sgrOn .z (xs.drop (i + 1))) := Lib.hid (HR.out.trans (by rw [step_plain HX.out (by decide) (by decide), show changeL ⟨f1, g1, b1, u1, i1⟩ (0) = .z from by simp [changeL, At.z]]))
            clear HR HCL
            go_wp2_with fail
            go_roundw
            case rel => exact ⟨.z, i + 1, by go_num, by omega, (heap_set (heap_set (heap_set (heap_set (heap_set HA.out 0 _) 1 _) 2 _) 3 _) 4 _), (heap_far (heap_far (heap_far (heap_far (heap_far HZ.out (show p + 1 ≠ p by omega) _) (show p + 1 ≠ p by omega) _) (show p + 1 ≠ p by omega) _) (show p + 1 ≠ p by omega) _) (show p + 1 ≠ p by omega) _), (by have hw := HW.out; show Below _ _ _; repeat (first | exact hw | (refine Below.setCell ?_ (by simp) _))), HST⟩
            case measure => simp [intOf]; omega
        · as_aux_lemma =>
            have HST : Hid (sgrOn ⟨f, g, b, u, ii⟩ xs = sgrOn .z (xs.drop (i + 1))) := Lib.hid (HR.out.trans (by rw [step_plain HX.out (by decide) (by decide), show changeL ⟨f1, g1, b1, u1, i1⟩ (-1) = .z from by simp [changeL, At.z]]))
            clear HR HCL
            go_wp2_with fail
            go_roundw
            case rel => exact ⟨.z, i + 1, by go_num, by omega, (heap_set (heap_set (heap_set (heap_set (heap_set HA.out 0 _) 1 _) 2 _) 3 _) 4 _), (heap_far (heap_far (heap_far (heap_far (heap_far HZ.out (show p + 1 ≠ p by omega) _) (show p + 1 ≠ p by omega) _) (show p + 1 ≠ p by omega) _) (show p + 1 ≠ p by omega) _) (show p + 1 ≠ p by omega) _), (by have hw := HW.out; show Below _ _ _; repeat (first | exact hw | (refine Below.setCell ?_ (by simp) _))), HST⟩
            case measure => simp [intOf]; omega
        · as_aux_lemma =>
            have HST : Hid (sgrOn ⟨f, g, b, u, ii⟩ xs = sgrOn ⟨f1, g1, true, u1, i1⟩ (xs.drop (i + 1))) := Lib.hid (HR.out.trans (by rw [step_plain HX.out (by decide) (by decide), show changeL ⟨f1, g1, b1, u1, i1⟩ (1) = ⟨f1, g1, true, u1, i1⟩ from by simp [changeL, At.z]]))
            clear HR HCL
            go_wp2_with fail
            go_roundw
            case rel => exact ⟨⟨f1, g1, true, u1, i1⟩, i + 1, by go_num, by omega, (heap_set HA.out 2 _), (heap_far HZ.out (show p + 1 ≠ p by omega) _), (by have hw := HW.out; show Below _ _ _; repeat (first | exact hw | (refine Below.setCell ?_ (by simp) _))), HST⟩
            case measure => simp [intOf]; omega
        · as_aux_lemma =>
            have HST : Hid (sgrOn ⟨f, g, b, u, ii⟩ xs = sgrOn ⟨f1, g1, false, u1, i1⟩ (xs.drop (i + 1))) := Lib.hid (HR.out.trans (by rw [step_plain HX.out (by decide) (by decide), show changeL ⟨f1, g1, b1, u1, i1⟩ (22) = ⟨f1, g1, false, u1, i1⟩ from by simp [changeL, At.z]]))
            clear HR HCL
            go_wp2_with fail
            go_roundw
            case rel => exact ⟨⟨f1, g1, false, u1, i1⟩, i + 1, by go_num, by omega, (heap_set HA.out 2 _), (heap_far HZ.out (show p + 1 ≠ p by omega) _), (by have hw := HW.out; show Below _ _ _; repeat (first | exact hw | (refine Below.setCell ?_ (by simp) _))), HST⟩
            case measure => simp [intOf]; omega
        · as_aux_lemma =>
            have HST : Hid (sgrOn ⟨f, g, b, u, ii⟩ xs = sgrOn ⟨f1, g1, b1, true, i1⟩ (xs.drop (i + 1))) := Lib.hid (HR.out.trans (by rw [step_plain HX.out (by decide) (by decide), show changeL ⟨f1, g1, b1, u1, i1⟩ (4) = ⟨f1, g1, b1, true, i1⟩ from by simp [changeL, At.z]]))
            clear HR HCL
            go_wp2_with fail
            go_roundw
            case rel => exact ⟨⟨f1, g1, b1, true, i1⟩, i + 1, by go_num, by omega, (heap_set HA.out 3 _), (heap_far HZ.out (show p + 1 ≠ p by omega) _), (by have hw := HW.out; show Below _ _ _; repeat (first | exact hw | (refine Below.setCell ?_ (by simp) _))), HST⟩
            case measure => simp [intOf]; omega
        · as_aux_lemma =>
            have HST : Hid (sgrOn ⟨f, g, b, u, ii⟩ xs = sgrOn ⟨f1, g1, b1, false, i1⟩ (xs.drop (i + 1))) := Lib.hid (HR.out.trans (by rw [step_plain HX.out (by decide) (by decide), show changeL ⟨f1, g1, b1, u1, i1⟩ (24) = ⟨f1, g1, b1, false, i1⟩ from by simp [changeL, At.z]]))
            clear HR HCL
            go_wp2_with fail
            go_roundw
            case rel => exact ⟨⟨f1, g1, b1, false, i1⟩, i + 1, by go_num, by omega, (heap_set HA.out 3 _), (heap_far HZ.out (show p + 1 ≠ p by omega) _), (by have hw := HW.out; show Below _ _ _; repeat (first | exact hw | (refine Below.setCell ?_ (by simp) _))), HST⟩
            case measure => simp [intOf]; omega
        · as_aux_lemma =>
            have HST : Hid (sgrOn ⟨f, g, b, u, ii⟩ xs = sgrOn ⟨f1, g1, b1, u1, true⟩ (xs.drop (i + 1))) := Lib.hid (HR.out.trans (by rw [step_plain HX.out (by decide) (by decide), show changeL ⟨f1, g1, b1, u1, i1⟩ (7) = ⟨f1, g1, b1, u1, true⟩ from by simp [changeL, At.z]]))
            clear HR HCL
            go_wp2_with fail
            go_roundw
            case rel => exact ⟨⟨f1, g1, b1, u1, true⟩, i + 1, by go_num, by omega, (heap_set HA.out 4 _), (heap_far HZ.out (show p + 1 ≠ p by omega) _), (by have hw := HW.out; show Below _ _ _; repeat (first | exact hw | (refine Below.setCell ?_ (by simp) _))), HST⟩
            case measure => simp [intOf]; omega
        · as_aux_lemma =>
            have HST : Hid (sgrOn ⟨f, g, b, u, ii⟩ xs = sgrOn ⟨f1, g1, b1, u1, false⟩ (xs.drop (i + 1))) := Lib.hid (HR.out.trans (by rw [step_plain HX.out (by decide) (by decide), show changeL ⟨f1, g1, b1, u1, i1⟩ (27) = ⟨f1, g1, b1, u1, false⟩ from by simp [changeL, At.z]]))
            clear HR HCL
            go_wp2_with fail
            go_roundw
            case rel => exact ⟨⟨f1, g1, b1, u1, false⟩, i + 1, by go_num, by omega, (heap_set HA.out 4 _), (heap_far HZ.out (show p + 1 ≠ p by omega) _), (by have hw := HW.out; show Below _ _ _; repeat (first | exact hw | (refine Below.setCell ?_ (by simp) _))), HST⟩
            case measure => simp [intOf]; omega
        · as_aux_lemma =>
            have HST : Hid (sgrOn ⟨f, g, b, u, ii⟩ xs = sgrOn ⟨0, g1, b1, u1, i1⟩ (xs.drop (i + 1))) := Lib.hid (HR.out.trans (by rw [step_plain HX.out (by decide) (by decide), show changeL ⟨f1, g1, b1, u1, i1⟩ (39) = ⟨0, g1, b1, u1, i1⟩ from by simp [changeL, At.z]]))
            clear HR HCL
            go_wp2_with fail
            go_roundw
            case rel => exact ⟨⟨0, g1, b1, u1, i1⟩, i + 1, by go_num, by omega, (heap_set HA.out 0 _), (heap_far HZ.out (show p + 1 ≠ p by omega) _), (by have hw := HW.out; show Below _ _ _; repeat (first | exact hw | (refine Below.setCell ?_ (by simp) _))), HST⟩
            case measure => simp [intOf]; omega
        · as_aux_lemma =>
            have HST : Hid (sgrOn ⟨f, g, b, u, ii⟩ xs = sgrOn ⟨f1, 0, b1, u1, i1⟩ (xs.drop (i + 1))) := Lib.hid (HR.out.trans (by rw [step_plain HX.out (by decide) (by decide), show changeL ⟨f1, g1, b1, u1, i1⟩ (49) = ⟨f1, 0, b1, u1, i1⟩ from by simp [changeL, At.z]]))
            clear HR HCL
            go_wp2_with fail
            go_roundw
            case rel => exact ⟨⟨f1, 0, b1, u1, i1⟩, i + 1, by go_num, by omega, (heap_set HA.out 1 _), (heap_far HZ.out (show p + 1 ≠ p by omega) _), (by have hw := HW.out; show Below _ _ _; repeat (first | exact hw | (refine Below.setCell ?_ (by simp) _))), HST⟩
            case measure => simp [intOf]; omega
        · as_aux_lemma =>
            by_cases q1 : i + 1 < n
            · obtain ⟨y, hy⟩ : ∃ y, xs[i + 1]? = some y := ⟨xs[i + 1]'(by rw [HL.out]; exact q1), List.getElem?_eq_getElem _⟩
              have hcy : wr.cell? ⟨bb, off + (i + 1), none⟩ = some (.int .i64 y) := (HW.out.cell (p := ⟨bb, off + (i + 1), none⟩) hbp).trans (HC.out (i + 1) _ (by rw [List.getElem?_map, hy]; rfl))
              have HY := Lib.hid hy
              have q1i : (i : Int) + 1 < (n : Int) := by omega
              have q10 : (0 : Int) ≤ (i : Int) + 1 := by omega
              clear hy
              by_cases y2 : y = 2
              · subst y2
                have HST : Hid (sgrOn ⟨f, g, b, u, ii⟩ xs = sgrOn ⟨f1, g1, b1, u1, i1⟩ (xs.drop (i + 5))) := Lib.hid (HR.out.trans (by rw [step_front HX.out]; simp only; rw [choose_two _ _ _ HY.out]))
                clear HR HCL
                go_wp2_with fail
                go_roundw
                case rel => exact ⟨⟨f1, g1, b1, u1, i1⟩, i + 5, by go_num, by omega, HA.out, HZ.out, (by have hw := HW.out; show Below _ _ _; repeat (first | exact hw | (refine Below.setCell ?_ (by simp) _))), HST⟩
                case measure => simp [intOf]; omega
              · by_cases y5 : y = 5
                · subst y5
                  by_cases q2 : i + 2 < n
                  · obtain ⟨z, hz⟩ : ∃ z, xs[i + 2]? = some z := ⟨xs[i + 2]'(by rw [HL.out]; exact q2), List.getElem?_eq_getElem _⟩
                    have hcz : wr.cell? ⟨bb, off + (i + 2), none⟩ = some (.int .i64 z) := (HW.out.cell (p := ⟨bb, off + (i + 2), none⟩) hbp).trans (HC.out (i + 2) _ (by rw [List.getElem?_map, hz]; rfl))
                    have hzb := HB.out z (List.mem_of_getElem? hz)
                    have HG : Hid (xs.getD (i + 2) 0 = z) := Lib.hid (by rw [List.getD_eq_getElem?_getD, hz]; rfl)
                    have q2i : (i : Int) + 2 < (n : Int) := by omega
                    have q20 : (0 : Int) ≤ (i : Int) + 2 := by omega
                    clear hz
                    by_cases z0' : z ≥ 0
                    · by_cases z15 : z ≤ 15
                      · have HST : Hid (sgrOn ⟨f, g, b, u, ii⟩ xs = sgrOn ⟨z + 1, g1, b1, u1, i1⟩ (xs.drop (i + 3))) := Lib.hid (HR.out.trans (by rw [step_front HX.out]; simp only; rw [choose_five _ _ _ HY.out, HG.out, if_pos ⟨by rw [HL.out]; omega, z0', z15⟩]))
                        clear HR HCL
                        go_wp2_with fail
                        go_roundw
                        case rel => exact ⟨⟨z + 1, g1, b1, u1, i1⟩, i + 3, by go_num, by omega, (heap_set HA.out 0 _), (heap_far HZ.out (show p + 1 ≠ p by omega) _), (by have hw := HW.out; show Below _ _ _; repeat (first | exact hw | (refine Below.setCell ?_ (by simp) _))), HST⟩
                        case measure => simp [intOf]; omega
                      · have HST : Hid (sgrOn ⟨f, g, b, u, ii⟩ xs = sgrOn ⟨f1, g1, b1, u1, i1⟩ (xs.drop (i + 3))) := Lib.hid (HR.out.trans (by rw [step_front HX.out]; simp only; rw [choose_five _ _ _ HY.out, HG.out, if_neg (fun e => z15 e.2.2)]))
                        clear HR HCL
                        go_wp2_with fail
                        go_roundw
                        case rel => exact ⟨⟨f1, g1, b1, u1, i1⟩, i + 3, by go_num, by omega, HA.out, HZ.out, (by have hw := HW.out; show Below _ _ _; repeat (first | exact hw | (refine Below.setCell ?_ (by simp) _))), HST⟩
                        case measure => simp [intOf]; omega
                    · have HST : Hid (sgrOn ⟨f, g, b, u, ii⟩ xs = sgrOn ⟨f1, g1, b1, u1, i1⟩ (xs.drop (i + 3))) := Lib.hid (HR.out.trans (by rw [step_front HX.out]; simp only; rw [choose_five _ _ _ HY.out, HG.out, if_neg (fun e => z0' e.2.1)]))
                      clear HR HCL
                      go_wp2_with fail
                      go_roundw
                      case rel => exact ⟨⟨f1, g1, b1, u1, i1⟩, i + 3, by go_num, by omega, HA.out, HZ.out, (by have hw := HW.out; show Below _ _ _; repeat (first | exact hw | (refine Below.setCell ?_ (by simp) _))), HST⟩
                      case measure => simp [intOf]; omega
                  · have q2i : ¬ ((i : Int) + 2 < (n : Int)) := by omega
                    have HST : Hid (sgrOn ⟨f, g, b, u, ii⟩ xs = sgrOn ⟨f1, g1, b1, u1, i1⟩ (xs.drop (i + 3))) := Lib.hid (HR.out.trans (by rw [step_front HX.out]; simp only; rw [choose_five _ _ _ HY.out, if_neg (fun e => by have := e.1; rw [HL.out] at this; omega)]))
                    clear HR HCL
                    go_wp2_with fail
                    go_roundw
                    case rel => exact ⟨⟨f1, g1, b1, u1, i1⟩, i + 3, by go_num, by omega, HA.out, HZ.out, (by have hw := HW.out; show Below _ _ _; repeat (first | exact hw | (refine Below.setCell ?_ (by simp) _))), HST⟩
                    case measure => simp [intOf]; omega
                · have y2b : (y == 2) = false := by simpa using y2
                  have y5b : (y == 5) = false := by simpa using y5
                  have HST : Hid (sgrOn ⟨f, g, b, u, ii⟩ xs = sgrOn ⟨f1, g1, b1, u1, i1⟩ (xs.drop (i + 1))) := Lib.hid (HR.out.trans (by rw [step_front HX.out]; simp only; rw [choose_else _ _ _ _ HY.out y2 y5]))
                  clear HR HCL
                  go_wp2_with fail
                  go_roundw
                  case rel => exact ⟨⟨f1, g1, b1, u1, i1⟩, i + 1, by go_num, by omega, HA.out, HZ.out, (by have hw := HW.out; show Below _ _ _; repeat (first | exact hw | (refine Below.setCell ?_ (by simp) _))), HST⟩
                  case measure => simp [intOf]; omega
            · have q1i : ¬ ((i : Int) + 1 < (n : Int)) := by omega
              have HST : Hid (sgrOn ⟨f, g, b, u, ii⟩ xs = sgrOn ⟨f1, g1, b1, u1, i1⟩ (xs.drop (i + 1))) := Lib.hid (HR.out.trans (by rw [step_front HX.out]; simp only; rw [choose_end _ _ _ (by rw [HL.out]; omega)]))
              clear HR HCL
              go_wp2_with fail
              go_roundw
              case rel => exact ⟨⟨f1, g1, b1, u1, i1⟩, i + 1, by go_num, by omega, HA.out, HZ.out, (by have hw := HW.out; show Below _ _ _; repeat (first | exact hw | (refine Below.setCell ?_ (by simp) _))), HST⟩
              case measure => simp [intOf]; omega
        · as_aux_lemma =>
            by_cases q1 : i + 1 < n
            · obtain ⟨y, hy⟩ : ∃ y, xs[i + 1]? = some y := ⟨xs[i + 1]'(by rw [HL.out]; exact q1), List.getElem?_eq_getElem _⟩
              have hcy : wr.cell? ⟨bb, off + (i + 1), none⟩ = some (.int .i64 y) := (HW.out.cell (p := ⟨bb, off + (i + 1), none⟩) hbp).trans (HC.out (i + 1) _ (by rw [List.getElem?_map, hy]; rfl))
              have HY := Lib.hid hy
              have q1i : (i : Int) + 1 < (n : Int) := by omega
              have q10 : (0 : Int) ≤ (i : Int) + 1 := by omega
              clear hy
              by_cases y2 : y = 2
              · subst y2
                have HST : Hid (sgrOn ⟨f, g, b, u, ii⟩ xs = sgrOn ⟨f1, g1, b1, u1, i1⟩ (xs.drop (i + 5))) := Lib.hid (HR.out.trans (by rw [step_back HX.out]; simp only; rw [choose_two _ _ _ HY.out]))
                clear HR HCL
                go_wp2_with fail
                go_roundw
                case rel => exact ⟨⟨f1, g1, b1, u1, i1⟩, i + 5, by go_num, by omega, HA.out, HZ.out, (by have hw := HW.out; show Below _ _ _; repeat (first | exact hw | (refine Below.setCell ?_ (by simp) _))), HST⟩
                case measure => simp [intOf]; omega
              · by_cases y5 : y = 5
                · subst y5
                  by_cases q2 : i + 2 < n
                  · obtain ⟨z, hz⟩ : ∃ z, xs[i + 2]? = some z := ⟨xs[i + 2]'(by rw [HL.out]; exact q2), List.getElem?_eq_getElem _⟩
                    have hcz : wr.cell? ⟨bb, off + (i + 2), none⟩ = some (.int .i64 z) := (HW.out.cell (p := ⟨bb, off + (i + 2), none⟩) hbp).trans (HC.out (i + 2) _ (by rw [List.getElem?_map, hz]; rfl))
                    have hzb := HB.out z (List.mem_of_getElem? hz)
                    have HG : Hid (xs.getD (i + 2) 0 = z) := Lib.hid (by rw [List.getD_eq_getElem?_getD, hz]; rfl)
                    have q2i : (i : Int) + 2 < (n : Int) := by omega
                    have q20 : (0 : Int) ≤ (i : Int) + 2 := by omega
                    clear hz
                    by_cases z0' : z ≥ 0
                    · by_cases z15 : z ≤ 15
                      · have HST : Hid (sgrOn ⟨f, g, b, u, ii⟩ xs = sgrOn ⟨f1, z + 1, b1, u1, i1⟩ (xs.drop (i + 3))) := Lib.hid (HR.out.trans (by rw [step_back HX.out]; simp only; rw [choose_five _ _ _ HY.out, HG.out, if_pos ⟨by rw [HL.out]; omega, z0', z15⟩]))
                        clear HR HCL
                        go_wp2_with fail
                        go_roundw
                        case rel => exact ⟨⟨f1, z + 1, b1, u1, i1⟩, i + 3, by go_num, by omega, (heap_set HA.out 1 _), (heap_far HZ.out (show p + 1 ≠ p by omega) _), (by have hw := HW.out; show Below _ _ _; repeat (first | exact hw | (refine Below.setCell ?_ (by simp) _))), HST⟩
                        case measure => simp [intOf]; omega
                      · have HST : Hid (sgrOn ⟨f, g, b, u, ii⟩ xs = sgrOn ⟨f1, g1, b1, u1, i1⟩ (xs.drop (i + 3))) := Lib.hid (HR.out.trans (by rw [step_back HX.out]; simp only; rw [choose_five _ _ _ HY.out, HG.out, if_neg (fun e => z15 e.2.2)]))
                        clear HR HCL
                        go_wp2_with fail
                        go_roundw
                        case rel => exact ⟨⟨f1, g1, b1, u1, i1⟩, i + 3, by go_num, by omega, HA.out, HZ.out, (by have hw := HW.out; show Below _ _ _; repeat (first | exact hw | (refine Below.setCell ?_ (by simp) _))), HST⟩
                        case measure => simp [intOf]; omega
                    · have HST : Hid (sgrOn ⟨f, g, b, u, ii⟩ xs = sgrOn ⟨f1, g1, b1, u1, i1⟩ (xs.drop (i + 3))) := Lib.hid (HR.out.trans (by rw [step_back HX.out]; simp only; rw [choose_five _ _ _ HY.out, HG.out, if_neg (fun e => z0' e.2.1)]))
                      clear HR HCL
                      go_wp2_with fail
                      go_roundw
                      case rel => exact ⟨⟨f1, g1, b1, u1, i1⟩, i + 3, by go_num, by omega, HA.out, HZ.out, (by have hw := HW.out; show Below _ _ _; repeat (first | exact hw | (refine Below.setCell ?_ (by simp) _))), HST⟩
                      case measure => simp [intOf]; omega
                  · have q2i : ¬ ((i : Int) + 2 < (n : Int)) := by omega
                    have HST : Hid (sgrOn ⟨f, g, b, u, ii⟩ xs = sgrOn ⟨f1, g1, b1, u1, i1⟩ (xs.drop (i + 3))) := Lib.hid (HR.out.trans (by rw [step_back HX.out]; simp only; rw [choose_five _ _ _ HY.out, if_neg (fun e => by have := e.1; rw [HL.out] at this; omega)]))
                    clear HR HCL
                    go_wp2_with fail
                    go_roundw
                    case rel => exact ⟨⟨f1, g1, b1, u1, i1⟩, i + 3, by go_num, by omega, HA.out, HZ.out, (by have hw := HW.out; show Below _ _ _; repeat (first | exact hw | (refine Below.setCell ?_ (by simp) _))), HST⟩
                    case measure => simp [intOf]; omega
                · have y2b : (y == 2) = false := by simpa using y2
                  have y5b : (y == 5) = false := by simpa using y5
                  have HST : Hid (sgrOn ⟨f, g, b, u, ii⟩ xs = sgrOn ⟨f1, g1, b1, u1, i1⟩ (xs.drop (i + 1))) := Lib.hid (HR.out.trans (by rw [step_back HX.out]; simp only; rw [choose_else _ _ _ _ HY.out y2 y5]))
                  clear HR HCL
                  go_wp2_with fail
                  go_roundw
                  case rel => exact ⟨⟨f1, g1, b1, u1, i1⟩, i + 1, by go_num, by omega, HA.out, HZ.out, (by have hw := HW.out; show Below _ _ _; repeat (first | exact hw | (refine Below.setCell ?_ (by simp) _))), HST⟩
                  case measure => simp [intOf]; omega
            · have q1i : ¬ ((i : Int) + 1 < (n : Int)) := by omega
              have HST : Hid (sgrOn ⟨f, g, b, u, ii⟩ xs = sgrOn ⟨f1, g1, b1, u1, i1⟩ (xs.drop (i + 1))) := Lib.hid (HR.out.trans (by rw [step_back HX.out]; simp only; rw [choose_end _ _ _ (by rw [HL.out]; omega)]))
              clear HR HCL
              go_wp2_with fail
              go_roundw
              case rel => exact ⟨⟨f1, g1, b1, u1, i1⟩, i + 1, by go_num, by omega, HA.out, HZ.out, (by have hw := HW.out; show Below _ _ _; repeat (first | exact hw | (refine Below.setCell ?_ (by simp) _))), HST⟩
              case measure => simp [intOf]; omega
        · as_aux_lemma =>
            have n0 : (x == (-1)) = false := by simp; omega
            have n1 : (x == (0)) = false := by simp; omega
            have n2 : (x == (1)) = false := by simp; omega
            have n3 : (x == (22)) = false := by simp; omega
            have n4 : (x == (4)) = false := by simp; omega
            have n5 : (x == (24)) = false := by simp; omega
            have n6 : (x == (7)) = false := by simp; omega
            have n7 : (x == (27)) = false := by simp; omega
            have m0 : x ≥ 30 := by omega
            have m1 : x ≤ 37 := by omega
            have HRR := Lib.hid hr
            have HST : Hid (sgrOn ⟨f, g, b, u, ii⟩ xs = sgrOn ⟨x - 29, g1, b1, u1, i1⟩ (xs.drop (i + 1))) := Lib.hid (HR.out.trans (by rw [step_plain HX.out (by have := HRR.out; omega) (by have := HRR.out; omega), show changeL ⟨f1, g1, b1, u1, i1⟩ x = ⟨x - 29, g1, b1, u1, i1⟩ from by (unfold changeL; (repeat' split); all_goals (first | rfl | (exfalso; have := HRR.out; omega)))]))
            clear hr
            clear HR HCL
            go_wp2_with fail
            go_roundw
            case rel => exact ⟨⟨x - 29, g1, b1, u1, i1⟩, i + 1, by go_num, by omega, (heap_set HA.out 0 _), (heap_far HZ.out (show p + 1 ≠ p by omega) _), (by have hw := HW.out; show Below _ _ _; repeat (first | exact hw | (refine Below.setCell ?_ (by simp) _))), HST⟩
            case measure => simp [intOf]; omega
        · as_aux_lemma =>
            have n0 : (x == (-1)) = false := by simp; omega
            have n1 : (x == (0)) = false := by simp; omega
            have n2 : (x == (1)) = false := by simp; omega
            have n3 : (x == (22)) = false := by simp; omega
            have n4 : (x == (4)) = false := by simp; omega
            have n5 : (x == (24)) = false := by simp; omega
            have n6 : (x == (7)) = false := by simp; omega
            have n7 : (x == (27)) = false := by simp; omega
            have m0 : x ≥ 30 := by omega
            have m1 : ¬ x ≤ 37 := by omega
            have m2 : x ≥ 90 := by omega
            have m3 : x ≤ 97 := by omega
            have HRR := Lib.hid hr
            have HST : Hid (sgrOn ⟨f, g, b, u, ii⟩ xs = sgrOn ⟨x - 81, g1, b1, u1, i1⟩ (xs.drop (i + 1))) := Lib.hid (HR.out.trans (by rw [step_plain HX.out (by have := HRR.out; omega) (by have := HRR.out; omega), show changeL ⟨f1, g1, b1, u1, i1⟩ x = ⟨x - 81, g1, b1, u1, i1⟩ from by (unfold changeL; (repeat' split); all_goals (first | rfl | (exfalso; have := HRR.out; omega)))]))
            clear hr
            clear HR HCL
            go_wp2_with fail
            go_roundw
            case rel => exact ⟨⟨x - 81, g1, b1, u1, i1⟩, i + 1, by go_num, by omega, (heap_set HA.out 0 _), (heap_far HZ.out (show p + 1 ≠ p by omega) _), (by have hw := HW.out; show Below _ _ _; repeat (first | exact hw | (refine Below.setCell ?_ (by simp) _))), HST⟩
            case measure => simp [intOf]; omega
        · as_aux_lemma =>
            have n0 : (x == (-1)) = false := by simp; omega
            have n1 : (x == (0)) = false := by simp; omega
            have n2 : (x == (1)) = false := by simp; omega
            have n3 : (x == (22)) = false := by simp; omega
            have n4 : (x == (4)) = false := by simp; omega
            have n5 : (x == (24)) = false := by simp; omega
            have n6 : (x == (7)) = false := by simp; omega
            have n7 : (x == (27)) = false := by simp; omega
            have m0 : x ≥ 30 := by omega
            have m1 : ¬ x ≤ 37 := by omega
            have m2 : ¬ x ≥ 90 := by omega
            have m3 : x ≥ 40 := by omega
            have m4 : x ≤ 47 := by omega
            have HRR := Lib.hid hr
            have HST : Hid (sgrOn ⟨f, g, b, u, ii⟩ xs = sgrOn ⟨f1, x - 39, b1, u1, i1⟩ (xs.drop (i + 1))) := Lib.hid (HR.out.trans (by rw [step_plain HX.out (by have := HRR.out; omega) (by have := HRR.out; omega), show changeL ⟨f1, g1, b1, u1, i1⟩ x = ⟨f1, x - 39, b1, u1, i1⟩ from by (unfold changeL; (repeat' split); all_goals (first | rfl | (exfalso; have := HRR.out; omega)))]))
            clear hr
            clear HR HCL
            go_wp2_with fail
            go_roundw
            case rel => exact ⟨⟨f1, x - 39, b1, u1, i1⟩, i + 1, by go_num, by omega, (heap_set HA.out 1 _), (heap_far HZ.out (show p + 1 ≠ p by omega) _), (by have hw := HW.out; show Below _ _ _; repeat (first | exact hw | (refine Below.setCell ?_ (by simp) _))), HST⟩
            case measure => simp [intOf]; omega
        · as_aux_lemma =>
            have n0 : (x == (-1)) = false := by simp; omega
            have n1 : (x == (0)) = false := by simp; omega
            have n2 : (x == (1)) = false := by simp; omega
            have n3 : (x == (22)) = false := by simp; omega
            have n4 : (x == (4)) = false := by simp; omega
            have n5 : (x == (24)) = false := by simp; omega
            have n6 : (x == (7)) = false := by simp; omega
            have n7 : (x == (27)) = false := by simp; omega
            have m0 : x ≥ 30 := by omega
            have m1 : ¬ x ≤ 37 := by omega
            have m2 : x ≥ 90 := by omega
            have m3 : ¬ x ≤ 97 := by omega
            have m4 : x ≥ 40 := by omega
            have m5 : ¬ x ≤ 47 := by omega
            have m6 : x ≥ 100 := by omega
            have m7 : x ≤ 107 := by omega
            have HRR := Lib.hid hr
            have HST : Hid (sgrOn ⟨f, g, b, u, ii⟩ xs = sgrOn ⟨f1, x - 91, b1, u1, i1⟩ (xs.drop (i + 1))) := Lib.hid (HR.out.trans (by rw [step_plain HX.out (by have := HRR.out; omega) (by have := HRR.out; omega), show changeL ⟨f1, g1, b1, u1, i1⟩ x = ⟨f1, x - 91, b1, u1, i1⟩ from by (unfold changeL; (repeat' split); all_goals (first | rfl | (exfalso; have := HRR.out; omega)))]))
            clear hr
            clear HR HCL
            go_wp2_with fail
            go_roundw
            case rel => exact ⟨⟨f1, x - 91, b1, u1, i1⟩, i + 1, by go_num, by omega, (heap_set HA.out 1 _), (heap_far HZ.out (show p + 1 ≠ p by omega) _), (by have hw := HW.out; show Below _ _ _; repeat (first | exact hw | (refine Below.setCell ?_ (by simp) _))), HST⟩
            case measure => simp [intOf]; omega
        · as_aux_lemma =>
            rcases hr with hr | hr | hr | hr
            · have n0 : (x == (-1)) = false := by simp; omega
              have n1 : (x == (0)) = false := by simp; omega
              have n2 : (x == (1)) = false := by simp; omega
              have n3 : (x == (22)) = false := by simp; omega
              have n4 : (x == (4)) = false := by simp; omega
              have n5 : (x == (24)) = false := by simp; omega
              have n6 : (x == (7)) = false := by simp; omega
              have n7 : (x == (27)) = false := by simp; omega
              have n8 : (x == (39)) = false := by simp; omega
              have n9 : (x == (49)) = false := by simp; omega
              have n10 : (x == (38)) = false := by simp; omega
              have n11 : (x == (48)) = false := by simp; omega
              have m0 : ¬ x ≥ 30 := by omega
              have m1 : ¬ x ≥ 90 := by omega
              have m2 : ¬ x ≥ 40 := by omega
              have m3 : ¬ x ≥ 100 := by omega
              have HRR := Lib.hid hr
              have HNE := Lib.hid hne
              have HST : Hid (sgrOn ⟨f, g, b, u, ii⟩ xs = sgrOn ⟨f1, g1, b1, u1, i1⟩ (xs.drop (i + 1))) := Lib.hid (HR.out.trans (by rw [step_plain HX.out (by have := HNE.out; omega) (by have := HNE.out; omega), show changeL ⟨f1, g1, b1, u1, i1⟩ x = ⟨f1, g1, b1, u1, i1⟩ from by (unfold changeL; (repeat' split); all_goals (first | rfl | (exfalso; have := HRR.out; have := HNE.out; omega)))]))
              clear hr hne
              clear HR HCL
              go_wp2_with fail
              go_roundw
              case rel => exact ⟨⟨f1, g1, b1, u1, i1⟩, i + 1, by go_num, by omega, HA.out, HZ.out, (by have hw := HW.out; show Below _ _ _; repeat (first | exact hw | (refine Below.setCell ?_ (by simp) _))), HST⟩
              case measure => simp [intOf]; omega
            · have n0 : (x == (-1)) = false := by simp; omega
              have n1 : (x == (0)) = false := by simp; omega
              have n2 : (x == (1)) = false := by simp; omega
              have n3 : (x == (22)) = false := by simp; omega
              have n4 : (x == (4)) = false := by simp; omega
              have n5 : (x == (24)) = false := by simp; omega
              have n6 : (x == (7)) = false := by simp; omega
              have n7 : (x == (27)) = false := by simp; omega
              have n8 : (x == (39)) = false := by simp; omega
              have n9 : (x == (49)) = false := by simp; omega
              have n10 : (x == (38)) = false := by simp; omega
              have n11 : (x == (48)) = false := by simp; omega
              have m0 : x ≥ 30 := by omega
              have m1 : ¬ x ≤ 37 := by omega
              have m2 : ¬ x ≥ 90 := by omega
              have m3 : x ≥ 40 := by omega
              have m4 : ¬ x ≤ 47 := by omega
              have m5 : ¬ x ≥ 100 := by omega
              have HRR := Lib.hid hr
              have HNE := Lib.hid hne
              have HST : Hid (sgrOn ⟨f, g, b, u, ii⟩ xs = sgrOn ⟨f1, g1, b1, u1, i1⟩ (xs.drop (i + 1))) := Lib.hid (HR.out.trans (by rw [step_plain HX.out (by have := HNE.out; omega) (by have := HNE.out; omega), show changeL ⟨f1, g1, b1, u1, i1⟩ x = ⟨f1, g1, b1, u1, i1⟩ from by (unfold changeL; (repeat' split); all_goals (first | rfl | (exfalso; have := HRR.out; have := HNE.out; omega)))]))
              clear hr hne
              clear HR HCL
              go_wp2_with fail
              go_roundw
              case rel => exact ⟨⟨f1, g1, b1, u1, i1⟩, i + 1, by go_num, by omega, HA.out, HZ.out, (by have hw := HW.out; show Below _ _ _; repeat (first | exact hw | (refine Below.setCell ?_ (by simp) _))), HST⟩
              case measure => simp [intOf]; omega
            · have n0 : (x == (-1)) = false := by simp; omega
              have n1 : (x == (0)) = false := by simp; omega
              have n2 : (x == (1)) = false := by simp; omega
              have n3 : (x == (22)) = false := by simp; omega
              have n4 : (x == (4)) = false := by simp; omega
              have n5 : (x == (24)) = false := by simp; omega
              have n6 : (x == (7)) = false := by simp; omega
              have n7 : (x == (27)) = false := by simp; omega
              have n8 : (x == (39)) = false := by simp; omega
              have n9 : (x == (49)) = false := by simp; omega
              have n10 : (x == (38)) = false := by simp; omega
              have n11 : (x == (48)) = false := by simp; omega
              have m0 : x ≥ 30 := by omega
              have m1 : ¬ x ≤ 37 := by omega
              have m2 : x ≥ 90 := by omega
              have m3 : ¬ x ≤ 97 := by omega
              have m4 : x ≥ 40 := by omega
              have m5 : ¬ x ≤ 47 := by omega
              have m6 : ¬ x ≥ 100 := by omega
              have HRR := Lib.hid hr
              have HNE := Lib.hid hne
              have HST : Hid (sgrOn ⟨f, g, b, u, ii⟩ xs = sgrOn ⟨f1, g1, b1, u1, i1⟩ (xs.drop (i + 1))) := Lib.hid (HR.out.trans (by rw [step_plain HX.out (by have := HNE.out; omega) (by have := HNE.out; omega), show changeL ⟨f1, g1, b1, u1, i1⟩ x = ⟨f1, g1, b1, u1, i1⟩ from by (unfold changeL; (repeat' split); all_goals (first | rfl | (exfalso; have := HRR.out; have := HNE.out; omega)))]))
              clear hr hne
              clear HR HCL
              go_wp2_with fail
              go_roundw
              case rel => exact ⟨⟨f1, g1, b1, u1, i1⟩, i + 1, by go_num, by omega, HA.out, HZ.out, (by have hw := HW.out; show Below _ _ _; repeat (first | exact hw | (refine Below.setCell ?_ (by simp) _))), HST⟩
              case measure => simp [intOf]; omega
            · have n0 : (x == (-1)) = false := by simp; omega
              have n1 : (x == (0)) = false := by simp; omega
              have n2 : (x == (1)) = false := by simp; omega
              have n3 : (x == (22)) = false := by simp; omega
              have n4 : (x == (4)) = false := by simp; omega
              have n5 : (x == (24)) = false := by simp; omega
              have n6 : (x == (7)) = false := by simp; omega
              have n7 : (x == (27)) = false := by simp; omega
              have n8 : (x == (39)) = false := by simp; omega
              have n9 : (x == (49)) = false := by simp; omega
              have n10 : (x == (38)) = false := by simp; omega
              have n11 : (x == (48)) = false := by simp; omega
              have m0 : x ≥ 30 := by omega
              have m1 : ¬ x ≤ 37 := by omega
              have m2 : x ≥ 90 := by omega
              have m3 : ¬ x ≤ 97 := by omega
              have m4 : x ≥ 40 := by omega
              have m5 : ¬ x ≤ 47 := by omega
              have m6 : x ≥ 100 := by omega
              have m7 : ¬ x ≤ 107 := by omega
              have HRR := Lib.hid hr
              have HNE := Lib.hid hne
              have HST : Hid (sgrOn ⟨f, g, b, u, ii⟩ xs = sgrOn ⟨f1, g1, b1, u1, i1⟩ (xs.drop (i + 1))) := Lib.hid (HR.out.trans (by rw [step_plain HX.out (by have := HNE.out; omega) (by have := HNE.out; omega), show changeL ⟨f1, g1, b1, u1, i1⟩ x = ⟨f1, g1, b1, u1, i1⟩ from by (unfold changeL; (repeat' split); all_goals (first | rfl | (exfalso; have := HRR.out; have := HNE.out; omega)))]))
              clear hr hne
              clear HR HCL
              go_wp2_with fail
              go_roundw
              case rel => exact ⟨⟨f1, g1, b1, u1, i1⟩, i + 1, by go_num, by omega, HA.out, HZ.out, (by have hw := HW.out; show Below _ _ _; repeat (first | exact hw | (refine Below.setCell ?_ (by simp) _))), HST⟩
              case measure => simp [intOf]; omega
      · have HR2 : Hid (sgrOn ⟨f, g, b, u, ii⟩ xs = ⟨f1, g1, b1, u1, i1⟩) := Lib.hid (by
          have := HR.out
          rwa [List.drop_of_length_le (by rw [HL.out]; omega), sgrOn_nil] at this)
        have hii : ¬ ((i : Int) < (n : Int)) := by omega
        clear HR
        have hq := heap_set (heap_set (heap_set (heap_set (heap_set HZ.out 0 (.int .i64 f1)) 1 (.int .i64 g1)) 2 (.bool b1)) 3 (.bool u1)) 4 (.bool i1)
        have r0 := cell_at hq 0
        have r1 := cell_at hq 1
        have r2 := cell_at hq 2
        have r3 := cell_at hq 3
        have r4 := cell_at hq 4
        have HQ := Lib.hid (And.intro r0 (And.intro r1 (And.intro r2 (And.intro r3 r4))))
        clear hq r0 r1 r2 r3 r4
        go_wp2_with fail
        have r0 := HQ.out.1
        have r1 := HQ.out.2.1
        have r2 := HQ.out.2.2.1
        have r3 := HQ.out.2.2.2.1
        have r4 := HQ.out.2.2.2.2
        refine bodyPost_ret (v := .agg #[.int .i64 f1, .int .i64 g1, .bool b1, .bool u1, .bool i1]) (by simp [results, Tryz.results14, go_sem, r0, r1, r2, r3, r4]) rfl ⟨by rw [HR2.out], ?_⟩
        rw [← HP.out]
        have hw := HW.out
        repeat (first | exact hw | (refine Below.setCell ?_ (by simp) _))

end Go.Proofs.YtnminmaklbhakaaGreatDoor
