/- Law CellColors: the walk, arm A. By program (rgn/XCellColorsWalk.py). Own work. -/
import Derived.Test.YtadlmbheppnjfaaCellColorsP
namespace Go.Proofs.Ytadlmbheppnjfaa
set_option linter.unusedVariables false
set_option linter.unusedSimpArgs false
open Go.RowKit

set_option maxRecDepth 100000 in
set_option maxHeartbeats 40000000 in
theorem colors_A (a : At) (wa : a.wf) (n : Int) (wn : (Lit.int .i64 n).wf = true) (h8k : kOf n < 8) (w : World) :
    Calls Try.prog 6 #[a.v, .int .i64 n] w fun e w' => e = .returned (.bool true) ∧ Below w.heap.size w w' := by
  obtain ⟨f, g, b, u, i⟩ := a
  simp only [At.v]
  by_cases h3 : ¬ At.ok ⟨f, g, b, u, i⟩
  · go_enter Try.func6, Try.ntmps6
    go_wp2_with fail
    refine (ref_valid ⟨f, g, b, u, i⟩ _ false (decide_eq_false h3)).mono ?_
    rintro e w1 ⟨rfl, hb⟩
    have HB1 : Hid (Below w.heap.size w w1) := Lib.hid ((below_box ..).trans (hb.mono (by simp)))
    clear hb
    go_wp2_with fail
    refine (alive_any _).mono ?_
    rintro e w2 ⟨rfl, hb⟩
    have HB2 : Hid (Below w.heap.size w w2) := Lib.hid (HB1.out.trans (hb.mono HB1.out.size))
    clear hb
    go_wp2_with fail
    go_ret
    exact ⟨rfl, HB2.out⟩
  have h3 := Decidable.not_not.1 h3
  have HOK := Lib.hid h3
  have hnb := wf_bounds wn
  obtain ⟨p, hp⟩ : ∃ p, p = w.heap.size := ⟨_, rfl⟩
  have HP := Lib.hid hp
  clear h3 hp wa wn
  go_enter Try.func6, Try.ntmps6
  go_wp2_with fail
  refine (ref_valid ⟨f, g, b, u, i⟩ _ true (decide_eq_true HOK.out)).mono ?_
  rintro e w1 ⟨rfl, hb⟩
  have HB1 : Hid (Below w.heap.size w w1) := Lib.hid ((below_box ..).trans (hb.mono (by simp)))
  have HX1 : Hid (w1.heap[p]? = some (attrO ⟨f, g, b, u, i⟩)) := Lib.hid (by rw [HP.out]; exact (hb.block _ (by simp)).trans (heap_alloc_new w _))
  clear hb
  go_wp2_with fail
  refine (alive_any _).mono ?_
  rintro e w2 ⟨rfl, hb⟩
  have HB2 : Hid (Below w.heap.size w w2) := Lib.hid (HB1.out.trans (hb.mono HB1.out.size))
  have HX2 : Hid (w2.heap[p]? = some (attrO ⟨f, g, b, u, i⟩)) := Lib.hid ((hb.block _ (lt_heap HX1.out)).trans HX1.out)
  clear hb
  rw [← HP.out]
  go_upto_region 4 with fail
  obtain ⟨k, hk, hk0, hk1⟩ : ∃ k, (wrap64 (n.tmod 16 + 16)).tmod 16 = k ∧ 0 ≤ k ∧ k ≤ 15 := by
    have h1 := Int.lt_tmod_of_pos n (show (0 : Int) < 16 by decide)
    have h2 := Int.tmod_lt_of_pos n (show (0 : Int) < 16 by decide)
    have h3 : wrap64 (n.tmod 16 + 16) = n.tmod 16 + 16 := by unfold wrap64; omega
    rw [h3]
    exact ⟨_, rfl, Int.tmod_nonneg _ (by omega), by have := Int.tmod_lt_of_pos (n.tmod 16 + 16) (show (0 : Int) < 16 by decide); omega⟩
  rw [hk]
  have h8 : k < 8 := by rw [← hk]; exact h8k
  clear hk h8k
  obtain ⟨d0, d1, d2, d3, d4⟩ : w2.cell? ⟨p, 0, none⟩ = some (.int .i64 f) ∧ w2.cell? ⟨p, 1, none⟩ = some (.int .i64 g) ∧ w2.cell? ⟨p, 2, none⟩ = some (.bool b) ∧ w2.cell? ⟨p, 3, none⟩ = some (.bool u) ∧ w2.cell? ⟨p, 4, none⟩ = some (.bool i) :=
    ⟨cell_at HX2.out 0, cell_at HX2.out 1, cell_at HX2.out 2, cell_at HX2.out 3, cell_at HX2.out 4⟩
  have hpl : p < w2.heap.size := lt_heap HX2.out
  have HT := Lib.hid (alloc_two w2 (attrO ⟨f, g, b, u, i⟩) (attrO ⟨f, g, b, u, i⟩))
  have hB2 : Hid (Below w.heap.size w ((w2.alloc (attrO ⟨f, g, b, u, i⟩)).alloc (attrO ⟨f, g, b, u, i⟩))) := Lib.hid ((HB2.out.alloc HB2.out.size _).alloc (by have := HB2.out.size; simp; omega) _)
  have hwz : w.heap.size ≤ w2.heap.size := HB2.out.size
  have hp2 : Hid (((w2.alloc (attrO ⟨f, g, b, u, i⟩)).alloc (attrO ⟨f, g, b, u, i⟩)).heap[p]? = some (attrO ⟨f, g, b, u, i⟩)) := Lib.hid (heap_alloc (heap_alloc HX2.out _) _)
  have hlow : ∃ low, (k < 8 ∧ low = 30 + k) ∨ (8 ≤ k ∧ low = 82 + k) := by
    by_cases h : k < 8
    · exact ⟨30 + k, .inl ⟨h, rfl⟩⟩
    · exact ⟨82 + k, .inr ⟨by omega, rfl⟩⟩
  · have h8' : ¬ k ≥ 8 := by omega
    have h8d : decide (k ≥ 8) = false := decide_eq_false h8'
    have h8e : decide (8 ≤ k) = false := decide_eq_false h8'
    go_upto_region 7 with fail
    go_cut [7, 8] from 28 to 114 (fun x y wx => ∃ p7 p8 : Nat, x = .pointer (some ⟨p7, 0, none⟩) ∧ y = .pointer (some ⟨p8, 0, none⟩) ∧ p7 ≠ p8 ∧ w.heap.size ≤ p7 ∧ w.heap.size ≤ p8 ∧ p ≠ p7 ∧ p ≠ p8 ∧ Hid (wx.heap[p7]? = some (attrO ⟨f, g, b, u, i⟩) ∧ wx.heap[p8]? = some (attrO ⟨f, g, b, u, i⟩) ∧ wx.heap[p]? = some (attrO ⟨f, g, b, u, i⟩) ∧ Below w.heap.size w wx))
    case first =>
      go_region_law (first | fail)
      all_goals
        go_wp2_with fail
        go_meet
        first
          | exact ⟨w2.heap.size, w2.heap.size + 1, rfl, rfl, by omega, by omega, by omega, by omega, by omega, HT.out.1, HT.out.2, hp2.out, hB2.out.drew⟩
          | exact ⟨w2.heap.size + 1, w2.heap.size, rfl, rfl, by omega, by omega, by omega, by omega, by omega, HT.out.2, HT.out.1, hp2.out, hB2.out.drew⟩
    case rest =>
      obtain ⟨p7, p8, rfl, rfl, h78, hw7, hw8, hp7, hp8, HC⟩ := hcut
      obtain ⟨low, hl⟩ : ∃ low, 30 + k = low := ⟨_, rfl⟩
      rw [hl]
      have HLW : Hid ((k < 8 ∧ low = 30 + k) ∨ (8 ≤ k ∧ low = 82 + k)) := Lib.hid (by omega)
      have hlb : 30 ≤ low ∧ low ≤ 97 := by omega
      clear hl h8 h8' h8d h8e d0 d1 d2 d3 d4 hpl hlow HT hB2 hp2 HX2 HB2 hwz hnb
      have HCC : Four wc p p7 p8 p ⟨f, g, b, u, i⟩ ⟨f, g, b, u, i⟩ ⟨f, g, b, u, i⟩ ⟨f, g, b, u, i⟩ := ⟨HC.out.2.2.1, HC.out.1, HC.out.2.1, HC.out.2.2.1⟩
      have aa0 : wc.cell? ⟨p, 0, none⟩ = some (.int .i64 f) := cell_at HCC.a 0
      have aa1 : wc.cell? ⟨p, 1, none⟩ = some (.int .i64 g) := cell_at HCC.a 1
      have aa2 : wc.cell? ⟨p, 2, none⟩ = some (.bool b) := cell_at HCC.a 2
      have aa3 : wc.cell? ⟨p, 3, none⟩ = some (.bool u) := cell_at HCC.a 3
      have aa4 : wc.cell? ⟨p, 4, none⟩ = some (.bool i) := cell_at HCC.a 4
      have bb0 : wc.cell? ⟨p7, 0, none⟩ = some (.int .i64 f) := cell_at HCC.b 0
      have bb1 : wc.cell? ⟨p7, 1, none⟩ = some (.int .i64 g) := cell_at HCC.b 1
      have bb2 : wc.cell? ⟨p7, 2, none⟩ = some (.bool b) := cell_at HCC.b 2
      have bb3 : wc.cell? ⟨p7, 3, none⟩ = some (.bool u) := cell_at HCC.b 3
      have bb4 : wc.cell? ⟨p7, 4, none⟩ = some (.bool i) := cell_at HCC.b 4
      have cc0 : wc.cell? ⟨p8, 0, none⟩ = some (.int .i64 f) := cell_at HCC.c 0
      have cc1 : wc.cell? ⟨p8, 1, none⟩ = some (.int .i64 g) := cell_at HCC.c 1
      have cc2 : wc.cell? ⟨p8, 2, none⟩ = some (.bool b) := cell_at HCC.c 2
      have cc3 : wc.cell? ⟨p8, 3, none⟩ = some (.bool u) := cell_at HCC.c 3
      have cc4 : wc.cell? ⟨p8, 4, none⟩ = some (.bool i) := cell_at HCC.c 4
      have fb := free_at HC.out.1 0
      have fc := free_at HC.out.2.1 1
      have n1 : ¬ p = p7 := hp7
      have n2 : ¬ p7 = p := fun e => hp7 e.symm
      have n3 : ¬ p = p8 := hp8
      have n4 : ¬ p8 = p := fun e => hp8 e.symm
      have n5 : ¬ p7 = p8 := h78
      have n6 : ¬ p8 = p7 := fun e => h78 e.symm
      have hpl := lt_heap HC.out.2.2.1
      go_upto_region 10 with fail
      obtain ⟨p9, h9⟩ : ∃ p9, p9 = wc.heap.size := ⟨_, rfl⟩
      obtain ⟨W, hW⟩ : ∃ W : World, W = ((wc.setCell ⟨p7, 0, none⟩ (.int .i64 (k + 1))).setCell ⟨p8, 1, none⟩ (.int .i64 (k + 1))).alloc (.cells #[.int .i64 f, .int .i64 g, .bool b, .bool u, .bool i] 23) := ⟨_, rfl⟩
      rw [← hW, ← h9]
      have HF : Hid (Four W p p7 p8 p9 ⟨f, g, b, u, i⟩ ⟨k + 1, g, b, u, i⟩ ⟨f, k + 1, b, u, i⟩ ⟨f, g, b, u, i⟩) := Lib.hid (by
        rw [hW]
        refine ⟨heap_alloc (heap_far (heap_far HC.out.2.2.1 hp7 _) hp8 _) _, heap_alloc (heap_far (heap_set HC.out.1 0 _) h78 _) _, heap_alloc (heap_set (heap_far HC.out.2.1 (Ne.symm h78) _) 1 _) _, ?_⟩
        rw [h9]
        have := heap_alloc_new ((wc.setCell ⟨p7, 0, none⟩ (.int .i64 (k + 1))).setCell ⟨p8, 1, none⟩ (.int .i64 (k + 1))) (attrO ⟨f, g, b, u, i⟩)
        rwa [show ((wc.setCell ⟨p7, 0, none⟩ (.int .i64 (k + 1))).setCell ⟨p8, 1, none⟩ (.int .i64 (k + 1))).heap.size = wc.heap.size from by simp [World.setCell]] at this)
      have HBW : Hid (Below w.heap.size w W) := Lib.hid (by rw [hW]; exact ((HC.out.2.2.2.setCell hw7 _).setCell hw8 _).alloc (by have := HC.out.2.2.2.size; simp [World.setCell]; omega) _)
      have m1 : ¬ p = p9 := by omega
      have m2 : ¬ p9 = p := by omega
      have m3 : ¬ p7 = p9 := by have := lt_heap HC.out.1; omega
      have m4 : ¬ p9 = p7 := fun e => m3 e.symm
      have m5 : ¬ p8 = p9 := by have := lt_heap HC.out.2.1; omega
      have m6 : ¬ p9 = p8 := fun e => m5 e.symm
      have hw9 : w.heap.size ≤ p9 := by have := HC.out.2.2.2.size; omega
      clear h9 hW HC HCC aa0 aa1 aa2 aa3 aa4 bb0 bb1 bb2 bb3 bb4 cc0 cc1 cc2 cc3 cc4 fb fc hpl
      have aa0 : W.cell? ⟨p, 0, none⟩ = some (.int .i64 (f)) := cell_at HF.out.a 0
      have aa1 : W.cell? ⟨p, 1, none⟩ = some (.int .i64 (g)) := cell_at HF.out.a 1
      have aa2 : W.cell? ⟨p, 2, none⟩ = some (.bool b) := cell_at HF.out.a 2
      have aa3 : W.cell? ⟨p, 3, none⟩ = some (.bool u) := cell_at HF.out.a 3
      have aa4 : W.cell? ⟨p, 4, none⟩ = some (.bool i) := cell_at HF.out.a 4
      have bb0 : W.cell? ⟨p7, 0, none⟩ = some (.int .i64 (k + 1)) := cell_at HF.out.b 0
      have bb1 : W.cell? ⟨p7, 1, none⟩ = some (.int .i64 (g)) := cell_at HF.out.b 1
      have bb2 : W.cell? ⟨p7, 2, none⟩ = some (.bool b) := cell_at HF.out.b 2
      have bb3 : W.cell? ⟨p7, 3, none⟩ = some (.bool u) := cell_at HF.out.b 3
      have bb4 : W.cell? ⟨p7, 4, none⟩ = some (.bool i) := cell_at HF.out.b 4
      have cc0 : W.cell? ⟨p8, 0, none⟩ = some (.int .i64 (f)) := cell_at HF.out.c 0
      have cc1 : W.cell? ⟨p8, 1, none⟩ = some (.int .i64 (k + 1)) := cell_at HF.out.c 1
      have cc2 : W.cell? ⟨p8, 2, none⟩ = some (.bool b) := cell_at HF.out.c 2
      have cc3 : W.cell? ⟨p8, 3, none⟩ = some (.bool u) := cell_at HF.out.c 3
      have cc4 : W.cell? ⟨p8, 4, none⟩ = some (.bool i) := cell_at HF.out.c 4
      have dd0 : W.cell? ⟨p9, 0, none⟩ = some (.int .i64 (f)) := cell_at HF.out.d 0
      have dd1 : W.cell? ⟨p9, 1, none⟩ = some (.int .i64 (g)) := cell_at HF.out.d 1
      have dd2 : W.cell? ⟨p9, 2, none⟩ = some (.bool b) := cell_at HF.out.d 2
      have dd3 : W.cell? ⟨p9, 3, none⟩ = some (.bool u) := cell_at HF.out.d 3
      have dd4 : W.cell? ⟨p9, 4, none⟩ = some (.bool i) := cell_at HF.out.d 4
      have fd := free_at HF.out.d 0
      have HF0 : Hid (Four (W.setCell ⟨p9, 0, none⟩ (.int .i64 0)) p p7 p8 p9 ⟨f, g, b, u, i⟩ ⟨k + 1, g, b, u, i⟩ ⟨f, k + 1, b, u, i⟩ ⟨0, g, b, u, i⟩) := Lib.hid ⟨heap_far HF.out.a m1 _, heap_far HF.out.b m3 _, heap_far HF.out.c m5 _, heap_set HF.out.d 0 _⟩
      have HB0 : Hid (Below w.heap.size w (W.setCell ⟨p9, 0, none⟩ (.int .i64 0))) := Lib.hid (HBW.out.setCell hw9 _)
      have HS0 : Hid (∀ W' gg, Src W' (some ⟨gg, 0, none⟩) 1 [.int .i64 (low)] → Calls Try.prog 16 #[.agg #[.int .i64 (f), .int .i64 (g), .bool b, .bool u, .bool i], .slice (some ⟨gg, 0, none⟩) 1 1] W' fun e w' => e = .returned (.agg #[.int .i64 (k + 1), .int .i64 (g), .bool b, .bool u, .bool i]) ∧ Below W'.heap.size W' w') :=
        Lib.hid (fun W' gg hsx => by have := cell_sgr ⟨f, g, b, u, i⟩ (some ⟨gg, 0, none⟩) 1 1 [low] W' hsx (by omega) (by omega) (by intro z hz; simp only [List.mem_cons, List.not_mem_nil, or_false] at hz; omega); rw [show sgrL ⟨f, g, b, u, i⟩ [low] = ⟨k + 1, g, b, u, i⟩ from ch_fg _ k low hk0 hk1 HLW.out] at this; exact this)
      have HS1 : Hid (∀ W' gg, Src W' (some ⟨gg, 0, none⟩) 1 [.int .i64 (low + 10)] → Calls Try.prog 16 #[.agg #[.int .i64 (f), .int .i64 (g), .bool b, .bool u, .bool i], .slice (some ⟨gg, 0, none⟩) 1 1] W' fun e w' => e = .returned (.agg #[.int .i64 (f), .int .i64 (k + 1), .bool b, .bool u, .bool i]) ∧ Below W'.heap.size W' w') :=
        Lib.hid (fun W' gg hsx => by have := cell_sgr ⟨f, g, b, u, i⟩ (some ⟨gg, 0, none⟩) 1 1 [low + 10] W' hsx (by omega) (by omega) (by intro z hz; simp only [List.mem_cons, List.not_mem_nil, or_false] at hz; omega); rw [show sgrL ⟨f, g, b, u, i⟩ [low + 10] = ⟨f, k + 1, b, u, i⟩ from ch_bg _ k low hk0 hk1 HLW.out] at this; exact this)
      have HS2 : Hid (∀ W' gg, Src W' (some ⟨gg, 0, none⟩) 3 [.int .i64 (38), .int .i64 (5), .int .i64 (k)] → Calls Try.prog 16 #[.agg #[.int .i64 (f), .int .i64 (g), .bool b, .bool u, .bool i], .slice (some ⟨gg, 0, none⟩) 3 3] W' fun e w' => e = .returned (.agg #[.int .i64 (k + 1), .int .i64 (g), .bool b, .bool u, .bool i]) ∧ Below W'.heap.size W' w') :=
        Lib.hid (fun W' gg hsx => by have := cell_sgr ⟨f, g, b, u, i⟩ (some ⟨gg, 0, none⟩) 3 3 [38, 5, k] W' hsx (by omega) (by omega) (by intro z hz; simp only [List.mem_cons, List.not_mem_nil, or_false] at hz; omega); rw [show sgrL ⟨f, g, b, u, i⟩ [38, 5, k] = ⟨k + 1, g, b, u, i⟩ from (ch_5 _ k hk0 hk1).1] at this; exact this)
      have HS3 : Hid (∀ W' gg, Src W' (some ⟨gg, 0, none⟩) 3 [.int .i64 (48), .int .i64 (5), .int .i64 (k)] → Calls Try.prog 16 #[.agg #[.int .i64 (f), .int .i64 (g), .bool b, .bool u, .bool i], .slice (some ⟨gg, 0, none⟩) 3 3] W' fun e w' => e = .returned (.agg #[.int .i64 (f), .int .i64 (k + 1), .bool b, .bool u, .bool i]) ∧ Below W'.heap.size W' w') :=
        Lib.hid (fun W' gg hsx => by have := cell_sgr ⟨f, g, b, u, i⟩ (some ⟨gg, 0, none⟩) 3 3 [48, 5, k] W' hsx (by omega) (by omega) (by intro z hz; simp only [List.mem_cons, List.not_mem_nil, or_false] at hz; omega); rw [show sgrL ⟨f, g, b, u, i⟩ [48, 5, k] = ⟨f, k + 1, b, u, i⟩ from (ch_5 _ k hk0 hk1).2] at this; exact this)
      have HS4 : Hid (∀ W' gg, Src W' (some ⟨gg, 0, none⟩) 1 [.int .i64 (39)] → Calls Try.prog 16 #[.agg #[.int .i64 (f), .int .i64 (g), .bool b, .bool u, .bool i], .slice (some ⟨gg, 0, none⟩) 1 1] W' fun e w' => e = .returned (.agg #[.int .i64 (0), .int .i64 (g), .bool b, .bool u, .bool i]) ∧ Below W'.heap.size W' w') :=
        Lib.hid (fun W' gg hsx => by have := cell_sgr ⟨f, g, b, u, i⟩ (some ⟨gg, 0, none⟩) 1 1 [39] W' hsx (by omega) (by omega) (by intro z hz; simp only [List.mem_cons, List.not_mem_nil, or_false] at hz; omega); rw [show sgrL ⟨f, g, b, u, i⟩ [39] = ⟨0, g, b, u, i⟩ from rfl] at this; exact this)
      have HS5 : Hid (∀ W' gg, Src W' (some ⟨gg, 0, none⟩) 3 [.int .i64 (38), .int .i64 (5), .int .i64 (16 + k)] → Calls Try.prog 16 #[.agg #[.int .i64 (f), .int .i64 (g), .bool b, .bool u, .bool i], .slice (some ⟨gg, 0, none⟩) 3 3] W' fun e w' => e = .returned (.agg #[.int .i64 (f), .int .i64 (g), .bool b, .bool u, .bool i]) ∧ Below W'.heap.size W' w') :=
        Lib.hid (fun W' gg hsx => by have := cell_sgr ⟨f, g, b, u, i⟩ (some ⟨gg, 0, none⟩) 3 3 [38, 5, 16 + k] W' hsx (by omega) (by omega) (by intro z hz; simp only [List.mem_cons, List.not_mem_nil, or_false] at hz; omega); rw [show sgrL ⟨f, g, b, u, i⟩ [38, 5, 16 + k] = ⟨f, g, b, u, i⟩ from ch_far _ k hk0 hk1] at this; exact this)
      have HS6 : Hid (∀ W' gg, Src W' (some ⟨gg, 0, none⟩) 5 [.int .i64 (38), .int .i64 (2), .int .i64 (1), .int .i64 (4), .int .i64 (7)] → Calls Try.prog 16 #[.agg #[.int .i64 (f), .int .i64 (g), .bool b, .bool u, .bool i], .slice (some ⟨gg, 0, none⟩) 5 5] W' fun e w' => e = .returned (.agg #[.int .i64 (f), .int .i64 (g), .bool b, .bool u, .bool i]) ∧ Below W'.heap.size W' w') :=
        Lib.hid (fun W' gg hsx => by have := cell_sgr ⟨f, g, b, u, i⟩ (some ⟨gg, 0, none⟩) 5 5 [38, 2, 1, 4, 7] W' hsx (by omega) (by omega) (by intro z hz; simp only [List.mem_cons, List.not_mem_nil, or_false] at hz; omega); rw [show sgrL ⟨f, g, b, u, i⟩ [38, 2, 1, 4, 7] = ⟨f, g, b, u, i⟩ from rfl] at this; exact this)
      have HS7 : Hid (∀ W' gg, Src W' (some ⟨gg, 0, none⟩) 1 [.int .i64 (38)] → Calls Try.prog 16 #[.agg #[.int .i64 (f), .int .i64 (g), .bool b, .bool u, .bool i], .slice (some ⟨gg, 0, none⟩) 1 1] W' fun e w' => e = .returned (.agg #[.int .i64 (f), .int .i64 (g), .bool b, .bool u, .bool i]) ∧ Below W'.heap.size W' w') :=
        Lib.hid (fun W' gg hsx => by have := cell_sgr ⟨f, g, b, u, i⟩ (some ⟨gg, 0, none⟩) 1 1 [38] W' hsx (by omega) (by omega) (by intro z hz; simp only [List.mem_cons, List.not_mem_nil, or_false] at hz; omega); rw [show sgrL ⟨f, g, b, u, i⟩ [38] = ⟨f, g, b, u, i⟩ from rfl] at this; exact this)
      have HS8 : Hid (∀ W' gg, Src W' (some ⟨gg, 0, none⟩) 1 [.int .i64 (200 + k)] → Calls Try.prog 16 #[.agg #[.int .i64 (f), .int .i64 (g), .bool b, .bool u, .bool i], .slice (some ⟨gg, 0, none⟩) 1 1] W' fun e w' => e = .returned (.agg #[.int .i64 (f), .int .i64 (g), .bool b, .bool u, .bool i]) ∧ Below W'.heap.size W' w') :=
        Lib.hid (fun W' gg hsx => by have := cell_sgr ⟨f, g, b, u, i⟩ (some ⟨gg, 0, none⟩) 1 1 [200 + k] W' hsx (by omega) (by omega) (by intro z hz; simp only [List.mem_cons, List.not_mem_nil, or_false] at hz; omega); rw [show sgrL ⟨f, g, b, u, i⟩ [200 + k] = ⟨f, g, b, u, i⟩ from ch_none _ k hk0 hk1] at this; exact this)
      have HS9 : Hid (∀ W' gg, Src W' (some ⟨gg, 0, none⟩) 2 [.int .i64 (38), .int .i64 (5)] → Calls Try.prog 16 #[.agg #[.int .i64 (f), .int .i64 (g), .bool b, .bool u, .bool i], .slice (some ⟨gg, 0, none⟩) 2 2] W' fun e w' => e = .returned (.agg #[.int .i64 (f), .int .i64 (g), .bool b, .bool u, .bool i]) ∧ Below W'.heap.size W' w') :=
        Lib.hid (fun W' gg hsx => by have := cell_sgr ⟨f, g, b, u, i⟩ (some ⟨gg, 0, none⟩) 2 2 [38, 5] W' hsx (by omega) (by omega) (by intro z hz; simp only [List.mem_cons, List.not_mem_nil, or_false] at hz; omega); rw [show sgrL ⟨f, g, b, u, i⟩ [38, 5] = ⟨f, g, b, u, i⟩ from rfl] at this; exact this)
      go_wp2_with fail
      obtain ⟨W1, hW1⟩ : ∃ W1 : World, W1 = W.setCell ⟨p9, 0, none⟩ (.int .i64 0) := ⟨_, rfl⟩
      rw [← hW1] at HF0 HB0 ⊢
      clear hW1 aa0 aa1 aa2 aa3 aa4 bb0 bb1 bb2 bb3 bb4 cc0 cc1 cc2 cc3 cc4 dd0 dd1 dd2 dd3 dd4 fd
      have aa0 : W1.cell? ⟨p, 0, none⟩ = some (.int .i64 (f)) := cell_at HF0.out.a 0
      have aa1 : W1.cell? ⟨p, 1, none⟩ = some (.int .i64 (g)) := cell_at HF0.out.a 1
      have aa2 : W1.cell? ⟨p, 2, none⟩ = some (.bool b) := cell_at HF0.out.a 2
      have aa3 : W1.cell? ⟨p, 3, none⟩ = some (.bool u) := cell_at HF0.out.a 3
      have aa4 : W1.cell? ⟨p, 4, none⟩ = some (.bool i) := cell_at HF0.out.a 4
      have bb0 : W1.cell? ⟨p7, 0, none⟩ = some (.int .i64 (k + 1)) := cell_at HF0.out.b 0
      have bb1 : W1.cell? ⟨p7, 1, none⟩ = some (.int .i64 (g)) := cell_at HF0.out.b 1
      have bb2 : W1.cell? ⟨p7, 2, none⟩ = some (.bool b) := cell_at HF0.out.b 2
      have bb3 : W1.cell? ⟨p7, 3, none⟩ = some (.bool u) := cell_at HF0.out.b 3
      have bb4 : W1.cell? ⟨p7, 4, none⟩ = some (.bool i) := cell_at HF0.out.b 4
      have cc0 : W1.cell? ⟨p8, 0, none⟩ = some (.int .i64 (f)) := cell_at HF0.out.c 0
      have cc1 : W1.cell? ⟨p8, 1, none⟩ = some (.int .i64 (k + 1)) := cell_at HF0.out.c 1
      have cc2 : W1.cell? ⟨p8, 2, none⟩ = some (.bool b) := cell_at HF0.out.c 2
      have cc3 : W1.cell? ⟨p8, 3, none⟩ = some (.bool u) := cell_at HF0.out.c 3
      have cc4 : W1.cell? ⟨p8, 4, none⟩ = some (.bool i) := cell_at HF0.out.c 4
      have dd0 : W1.cell? ⟨p9, 0, none⟩ = some (.int .i64 (0)) := cell_at HF0.out.d 0
      have dd1 : W1.cell? ⟨p9, 1, none⟩ = some (.int .i64 (g)) := cell_at HF0.out.d 1
      have dd2 : W1.cell? ⟨p9, 2, none⟩ = some (.bool b) := cell_at HF0.out.d 2
      have dd3 : W1.cell? ⟨p9, 3, none⟩ = some (.bool u) := cell_at HF0.out.d 3
      have dd4 : W1.cell? ⟨p9, 4, none⟩ = some (.bool i) := cell_at HF0.out.d 4
      have HSF : Hid (∀ w' : World, Below W1.heap.size W1 w' → w'.cell? ⟨p, 0, none⟩ = some (.int .i64 (f)) ∧ w'.cell? ⟨p, 1, none⟩ = some (.int .i64 (g)) ∧ w'.cell? ⟨p, 2, none⟩ = some (.bool b) ∧ w'.cell? ⟨p, 3, none⟩ = some (.bool u) ∧ w'.cell? ⟨p, 4, none⟩ = some (.bool i) ∧ w'.cell? ⟨p7, 0, none⟩ = some (.int .i64 (k + 1)) ∧ w'.cell? ⟨p7, 1, none⟩ = some (.int .i64 (g)) ∧ w'.cell? ⟨p7, 2, none⟩ = some (.bool b) ∧ w'.cell? ⟨p7, 3, none⟩ = some (.bool u) ∧ w'.cell? ⟨p7, 4, none⟩ = some (.bool i) ∧ w'.cell? ⟨p8, 0, none⟩ = some (.int .i64 (f)) ∧ w'.cell? ⟨p8, 1, none⟩ = some (.int .i64 (k + 1)) ∧ w'.cell? ⟨p8, 2, none⟩ = some (.bool b) ∧ w'.cell? ⟨p8, 3, none⟩ = some (.bool u) ∧ w'.cell? ⟨p8, 4, none⟩ = some (.bool i) ∧ w'.cell? ⟨p9, 0, none⟩ = some (.int .i64 (0)) ∧ w'.cell? ⟨p9, 1, none⟩ = some (.int .i64 (g)) ∧ w'.cell? ⟨p9, 2, none⟩ = some (.bool b) ∧ w'.cell? ⟨p9, 3, none⟩ = some (.bool u) ∧ w'.cell? ⟨p9, 4, none⟩ = some (.bool i)) := Lib.hid (fun w' hb => by
        have hf := HF0.out.below hb
        exact ⟨cell_at hf.a 0, cell_at hf.a 1, cell_at hf.a 2, cell_at hf.a 3, cell_at hf.a 4, cell_at hf.b 0, cell_at hf.b 1, cell_at hf.b 2, cell_at hf.b 3, cell_at hf.b 4, cell_at hf.c 0, cell_at hf.c 1, cell_at hf.c 2, cell_at hf.c 3, cell_at hf.c 4, cell_at hf.d 0, cell_at hf.d 1, cell_at hf.d 2, cell_at hf.d 3, cell_at hf.d 4⟩)
      have HR0 : Hid (Below W1.heap.size W1 W1) := Lib.hid (Below.refl _ _)
      have hs0 : W1.heap.size ≤ W1.heap.size := Nat.le_refl _
      have hx1 : IntKind.i64.wrap (low + 10) = low + 10 := IntWalk.i64_in _ (by omega)
      have hx2 : IntKind.i64.wrap (16 + k) = 16 + k := IntWalk.i64_in _ (by omega)
      have hx3 : IntKind.i64.wrap (200 + k) = 200 + k := IntWalk.i64_in _ (by omega)
      refine wp_region_noPanic ?_
      refine wp_region_held_drew (S := fun w' => w'.cell? ⟨p, 0, none⟩ = some (.int .i64 (f)) ∧ w'.cell? ⟨p, 1, none⟩ = some (.int .i64 (g)) ∧ w'.cell? ⟨p, 2, none⟩ = some (.bool b) ∧ w'.cell? ⟨p, 3, none⟩ = some (.bool u) ∧ w'.cell? ⟨p, 4, none⟩ = some (.bool i) ∧ w'.cell? ⟨p7, 0, none⟩ = some (.int .i64 (k + 1)) ∧ w'.cell? ⟨p7, 1, none⟩ = some (.int .i64 (g)) ∧ w'.cell? ⟨p7, 2, none⟩ = some (.bool b) ∧ w'.cell? ⟨p7, 3, none⟩ = some (.bool u) ∧ w'.cell? ⟨p7, 4, none⟩ = some (.bool i) ∧ w'.cell? ⟨p8, 0, none⟩ = some (.int .i64 (f)) ∧ w'.cell? ⟨p8, 1, none⟩ = some (.int .i64 (k + 1)) ∧ w'.cell? ⟨p8, 2, none⟩ = some (.bool b) ∧ w'.cell? ⟨p8, 3, none⟩ = some (.bool u) ∧ w'.cell? ⟨p8, 4, none⟩ = some (.bool i) ∧ w'.cell? ⟨p9, 0, none⟩ = some (.int .i64 (0)) ∧ w'.cell? ⟨p9, 1, none⟩ = some (.int .i64 (g)) ∧ w'.cell? ⟨p9, 2, none⟩ = some (.bool b) ∧ w'.cell? ⟨p9, 3, none⟩ = some (.bool u) ∧ w'.cell? ⟨p9, 4, none⟩ = some (.bool i)) (by kernel_rfl) (HSF.out _ ((Below.refl _ W1).drew)) (fun hHeld => ?_)
      refine wpAnyH_take (i := 0) (oi := _) (v := ?va0) rfl (by kernel_rfl) (by kernel_rfl) (by kernel_rfl) (fun _ _ _ h => h) (Or.inl ⟨by rfl, ?hya0⟩) (by assumption) ?resta0
      case hya0 => (intro w hSw; (try dsimp only at hSw); (try simp only [List.getElem_toArray, List.getElem_cons_zero, List.getElem_cons_succ]); go_simp; (try with_reducible rfl))
      (try simp only [Act.put, List.setIfInBounds_toArray, List.set_cons_zero, List.set_cons_succ, List.getElem_toArray, List.getElem_cons_zero, List.getElem_cons_succ])
      refine wpAnyH_take (i := 1) (oi := _) (v := ?va1) rfl (by kernel_rfl) (by kernel_rfl) (by kernel_rfl) (fun _ _ _ h => h) (Or.inl ⟨by rfl, ?hya1⟩) (by assumption) ?resta1
      case hya1 => (intro w hSw; (try dsimp only at hSw); (try simp only [List.getElem_toArray, List.getElem_cons_zero, List.getElem_cons_succ]); go_simp; (try with_reducible rfl))
      (try simp only [Act.put, List.setIfInBounds_toArray, List.set_cons_zero, List.set_cons_succ, List.getElem_toArray, List.getElem_cons_zero, List.getElem_cons_succ])
      refine wpAnyH_take (i := 4) (oi := _) (v := ?va4) rfl (by kernel_rfl) (by kernel_rfl) (by kernel_rfl) (fun _ _ _ h => h) (Or.inl ⟨by rfl, ?hya4⟩) (by assumption) ?resta4
      case hya4 => (intro w hSw; (try dsimp only at hSw); (try simp only [List.getElem_toArray, List.getElem_cons_zero, List.getElem_cons_succ]); go_simp; (try with_reducible rfl))
      (try simp only [Act.put, List.setIfInBounds_toArray, List.set_cons_zero, List.set_cons_succ, List.getElem_toArray, List.getElem_cons_zero, List.getElem_cons_succ])
      refine wpAnyH_ready (rs := [2]) (by kernel_rfl) (by simp) ?_
      refine AllReadyH.cons (o := _) rfl (fun K hK => ?_) AllReadyH.nil
      (try simp only [List.getElem_toArray, List.getElem_cons_zero, List.getElem_cons_succ])
      go_simp
      refine hK.out _ _ ?_ (fun hHeld => ?_)
      · exact HSF.out _ (((Below.refl _ W1).drew).alloc (Nat.le_refl _) _)
      clear hK K
      (try simp only [Act.put, List.setIfInBounds_toArray, List.set_cons_zero, List.set_cons_succ, List.getElem_toArray, List.getElem_cons_zero, List.getElem_cons_succ])
      refine wpAnyH_ready (rs := [3]) (by kernel_rfl) (by simp) ?_
      refine AllReadyH.cons (o := _) rfl (fun K hK => ?_) AllReadyH.nil
      (try simp only [List.getElem_toArray, List.getElem_cons_zero, List.getElem_cons_succ])
      go_simp
      refine (HS0.out _ _ (src_new W1.drew [.int .i64 (low)] 3 _ rfl 1 rfl)).mono ?_; rintro e v1 ⟨rfl, hb⟩; have HR1 : Hid (Below W1.heap.size W1 v1) := Lib.hid ((((Below.refl W1.heap.size W1).drew).alloc (Nat.le_refl _) _).trans (hb.mono (by simp))); have hs1 : W1.heap.size ≤ v1.heap.size := HR1.out.size; clear hb
      refine hK.out _ _ ?_ (fun hHeld => ?_)
      · exact HSF.out _ HR1.out
      clear hK K
      (try simp only [Act.put, List.setIfInBounds_toArray, List.set_cons_zero, List.set_cons_succ, List.getElem_toArray, List.getElem_cons_zero, List.getElem_cons_succ])
      refine wpAnyH_take (i := 5) (oi := _) (v := ?va5) rfl (by kernel_rfl) (by kernel_rfl) (by kernel_rfl) (fun _ _ _ h => h) (Or.inl ⟨by rfl, ?hya5⟩) (by assumption) ?resta5
      case hya5 => (intro w hSw; (try dsimp only at hSw); (try simp only [List.getElem_toArray, List.getElem_cons_zero, List.getElem_cons_succ]); go_simp; (try with_reducible rfl))
      (try simp only [Act.put, List.setIfInBounds_toArray, List.set_cons_zero, List.set_cons_succ, List.getElem_toArray, List.getElem_cons_zero, List.getElem_cons_succ])
      refine wpAnyH_take (i := 6) (oi := _) (v := ?va6) rfl (by kernel_rfl) (by kernel_rfl) (by kernel_rfl) (fun _ _ _ h => h) (Or.inl ⟨by rfl, ?hya6⟩) (by assumption) ?resta6
      case hya6 => (intro w hSw; (try dsimp only at hSw); (try simp only [List.getElem_toArray, List.getElem_cons_zero, List.getElem_cons_succ]); go_simp; (try with_reducible rfl))
      (try simp only [Act.put, List.setIfInBounds_toArray, List.set_cons_zero, List.set_cons_succ, List.getElem_toArray, List.getElem_cons_zero, List.getElem_cons_succ])
      refine wpAnyH_take (i := 7) (oi := _) (v := ?va7) rfl (by kernel_rfl) (by kernel_rfl) (by kernel_rfl) (fun _ _ _ h => h) (Or.inl ⟨by rfl, ?hya7⟩) (by assumption) ?resta7
      case hya7 => (intro w hSw; (try dsimp only at hSw); (try simp only [List.getElem_toArray, List.getElem_cons_zero, List.getElem_cons_succ]); go_simp; (try with_reducible rfl))
      (try simp only [Act.put, List.setIfInBounds_toArray, List.set_cons_zero, List.set_cons_succ, List.getElem_toArray, List.getElem_cons_zero, List.getElem_cons_succ])
      refine wpAnyH_take (i := 8) (oi := _) (v := ?va8) rfl (by kernel_rfl) (by kernel_rfl) (by kernel_rfl) (fun _ _ _ h => h) (Or.inl ⟨by rfl, ?hya8⟩) (by assumption) ?resta8
      case hya8 => (intro w hSw; (try dsimp only at hSw); (try simp only [List.getElem_toArray, List.getElem_cons_zero, List.getElem_cons_succ]); go_simp; (try with_reducible rfl))
      (try simp only [Act.put, List.setIfInBounds_toArray, List.set_cons_zero, List.set_cons_succ, List.getElem_toArray, List.getElem_cons_zero, List.getElem_cons_succ])
      refine wpAnyH_take (i := 9) (oi := _) (v := ?va9) rfl (by kernel_rfl) (by kernel_rfl) (by kernel_rfl) (fun _ _ _ h => h) (Or.inl ⟨by rfl, ?hya9⟩) (by assumption) ?resta9
      case hya9 => (intro w hSw; (try dsimp only at hSw); (try simp only [List.getElem_toArray, List.getElem_cons_zero, List.getElem_cons_succ]); go_simp; (try with_reducible rfl))
      (try simp only [Act.put, List.setIfInBounds_toArray, List.set_cons_zero, List.set_cons_succ, List.getElem_toArray, List.getElem_cons_zero, List.getElem_cons_succ])
      refine wpAnyH_take (i := 12) (oi := _) (v := ?va12) rfl (by kernel_rfl) (by kernel_rfl) (by kernel_rfl) (fun _ _ _ h => h) (Or.inl ⟨by rfl, ?hya12⟩) (by assumption) ?resta12
      case hya12 => (intro w hSw; (try dsimp only at hSw); (try simp only [List.getElem_toArray, List.getElem_cons_zero, List.getElem_cons_succ]); go_simp; (try with_reducible rfl))
      (try simp only [Act.put, List.setIfInBounds_toArray, List.set_cons_zero, List.set_cons_succ, List.getElem_toArray, List.getElem_cons_zero, List.getElem_cons_succ])
      refine wpAnyH_ready (rs := [10]) (by kernel_rfl) (by simp) ?_
      refine AllReadyH.cons (o := _) rfl (fun K hK => ?_) AllReadyH.nil
      (try simp only [List.getElem_toArray, List.getElem_cons_zero, List.getElem_cons_succ])
      go_simp
      refine hK.out _ _ ?_ (fun hHeld => ?_)
      · exact HSF.out _ (HR1.out.alloc hs1 _)
      clear hK K
      (try simp only [Act.put, List.setIfInBounds_toArray, List.set_cons_zero, List.set_cons_succ, List.getElem_toArray, List.getElem_cons_zero, List.getElem_cons_succ])
      refine wpAnyH_ready (rs := [11]) (by kernel_rfl) (by simp) ?_
      refine AllReadyH.cons (o := _) rfl (fun K hK => ?_) AllReadyH.nil
      (try simp only [List.getElem_toArray, List.getElem_cons_zero, List.getElem_cons_succ])
      go_simp
      refine (HS1.out _ _ (src_new v1 [.int .i64 (low + 10)] 3 _ rfl 1 rfl)).mono ?_; rintro e v2 ⟨rfl, hb⟩; have HR2 : Hid (Below W1.heap.size W1 v2) := Lib.hid ((HR1.out.alloc hs1 _).trans (hb.mono (by simp; omega))); have hs2 : W1.heap.size ≤ v2.heap.size := HR2.out.size; clear hb
      refine hK.out _ _ ?_ (fun hHeld => ?_)
      · exact HSF.out _ HR2.out
      clear hK K
      (try simp only [Act.put, List.setIfInBounds_toArray, List.set_cons_zero, List.set_cons_succ, List.getElem_toArray, List.getElem_cons_zero, List.getElem_cons_succ])
      refine wpAnyH_take (i := 13) (oi := _) (v := ?va13) rfl (by kernel_rfl) (by kernel_rfl) (by kernel_rfl) (fun _ _ _ h => h) (Or.inl ⟨by rfl, ?hya13⟩) (by assumption) ?resta13
      case hya13 => (intro w hSw; (try dsimp only at hSw); (try simp only [List.getElem_toArray, List.getElem_cons_zero, List.getElem_cons_succ]); go_simp; (try with_reducible rfl))
      (try simp only [Act.put, List.setIfInBounds_toArray, List.set_cons_zero, List.set_cons_succ, List.getElem_toArray, List.getElem_cons_zero, List.getElem_cons_succ])
      refine wpAnyH_take (i := 14) (oi := _) (v := ?va14) rfl (by kernel_rfl) (by kernel_rfl) (by kernel_rfl) (fun _ _ _ h => h) (Or.inl ⟨by rfl, ?hya14⟩) (by assumption) ?resta14
      case hya14 => (intro w hSw; (try dsimp only at hSw); (try simp only [List.getElem_toArray, List.getElem_cons_zero, List.getElem_cons_succ]); go_simp; (try with_reducible rfl))
      (try simp only [Act.put, List.setIfInBounds_toArray, List.set_cons_zero, List.set_cons_succ, List.getElem_toArray, List.getElem_cons_zero, List.getElem_cons_succ])
      refine wpAnyH_take (i := 15) (oi := _) (v := ?va15) rfl (by kernel_rfl) (by kernel_rfl) (by kernel_rfl) (fun _ _ _ h => h) (Or.inl ⟨by rfl, ?hya15⟩) (by assumption) ?resta15
      case hya15 => (intro w hSw; (try dsimp only at hSw); (try simp only [List.getElem_toArray, List.getElem_cons_zero, List.getElem_cons_succ]); go_simp; (try with_reducible rfl))
      (try simp only [Act.put, List.setIfInBounds_toArray, List.set_cons_zero, List.set_cons_succ, List.getElem_toArray, List.getElem_cons_zero, List.getElem_cons_succ])
      refine wpAnyH_take (i := 16) (oi := _) (v := ?va16) rfl (by kernel_rfl) (by kernel_rfl) (by kernel_rfl) (fun _ _ _ h => h) (Or.inl ⟨by rfl, ?hya16⟩) (by assumption) ?resta16
      case hya16 => (intro w hSw; (try dsimp only at hSw); (try simp only [List.getElem_toArray, List.getElem_cons_zero, List.getElem_cons_succ]); go_simp; (try with_reducible rfl))
      (try simp only [Act.put, List.setIfInBounds_toArray, List.set_cons_zero, List.set_cons_succ, List.getElem_toArray, List.getElem_cons_zero, List.getElem_cons_succ])
      refine wpAnyH_take (i := 17) (oi := _) (v := ?va17) rfl (by kernel_rfl) (by kernel_rfl) (by kernel_rfl) (fun _ _ _ h => h) (Or.inl ⟨by rfl, ?hya17⟩) (by assumption) ?resta17
      case hya17 => (intro w hSw; (try dsimp only at hSw); (try simp only [List.getElem_toArray, List.getElem_cons_zero, List.getElem_cons_succ]); go_simp; (try with_reducible rfl))
      (try simp only [Act.put, List.setIfInBounds_toArray, List.set_cons_zero, List.set_cons_succ, List.getElem_toArray, List.getElem_cons_zero, List.getElem_cons_succ])
      refine wpAnyH_take (i := 20) (oi := _) (v := ?va20) rfl (by kernel_rfl) (by kernel_rfl) (by kernel_rfl) (fun _ _ _ h => h) (Or.inl ⟨by rfl, ?hya20⟩) (by assumption) ?resta20
      case hya20 => (intro w hSw; (try dsimp only at hSw); (try simp only [List.getElem_toArray, List.getElem_cons_zero, List.getElem_cons_succ]); go_simp; (try with_reducible rfl))
      (try simp only [Act.put, List.setIfInBounds_toArray, List.set_cons_zero, List.set_cons_succ, List.getElem_toArray, List.getElem_cons_zero, List.getElem_cons_succ])
      refine wpAnyH_ready (rs := [18]) (by kernel_rfl) (by simp) ?_
      refine AllReadyH.cons (o := _) rfl (fun K hK => ?_) AllReadyH.nil
      (try simp only [List.getElem_toArray, List.getElem_cons_zero, List.getElem_cons_succ])
      go_simp
      refine hK.out _ _ ?_ (fun hHeld => ?_)
      · exact HSF.out _ (HR2.out.alloc hs2 _)
      clear hK K
      (try simp only [Act.put, List.setIfInBounds_toArray, List.set_cons_zero, List.set_cons_succ, List.getElem_toArray, List.getElem_cons_zero, List.getElem_cons_succ])
      refine wpAnyH_ready (rs := [19]) (by kernel_rfl) (by simp) ?_
      refine AllReadyH.cons (o := _) rfl (fun K hK => ?_) AllReadyH.nil
      (try simp only [List.getElem_toArray, List.getElem_cons_zero, List.getElem_cons_succ])
      go_simp
      refine (HS2.out _ _ (src_new v2 [.int .i64 (38), .int .i64 (5), .int .i64 (k)] 3 _ rfl 3 rfl)).mono ?_; rintro e v3 ⟨rfl, hb⟩; have HR3 : Hid (Below W1.heap.size W1 v3) := Lib.hid ((HR2.out.alloc hs2 _).trans (hb.mono (by simp; omega))); have hs3 : W1.heap.size ≤ v3.heap.size := HR3.out.size; clear hb
      refine hK.out _ _ ?_ (fun hHeld => ?_)
      · exact HSF.out _ HR3.out
      clear hK K
      (try simp only [Act.put, List.setIfInBounds_toArray, List.set_cons_zero, List.set_cons_succ, List.getElem_toArray, List.getElem_cons_zero, List.getElem_cons_succ])
      refine wpAnyH_take (i := 21) (oi := _) (v := ?va21) rfl (by kernel_rfl) (by kernel_rfl) (by kernel_rfl) (fun _ _ _ h => h) (Or.inl ⟨by rfl, ?hya21⟩) (by assumption) ?resta21
      case hya21 => (intro w hSw; (try dsimp only at hSw); (try simp only [List.getElem_toArray, List.getElem_cons_zero, List.getElem_cons_succ]); go_simp; (try with_reducible rfl))
      (try simp only [Act.put, List.setIfInBounds_toArray, List.set_cons_zero, List.set_cons_succ, List.getElem_toArray, List.getElem_cons_zero, List.getElem_cons_succ])
      refine wpAnyH_take (i := 22) (oi := _) (v := ?va22) rfl (by kernel_rfl) (by kernel_rfl) (by kernel_rfl) (fun _ _ _ h => h) (Or.inl ⟨by rfl, ?hya22⟩) (by assumption) ?resta22
      case hya22 => (intro w hSw; (try dsimp only at hSw); (try simp only [List.getElem_toArray, List.getElem_cons_zero, List.getElem_cons_succ]); go_simp; (try with_reducible rfl))
      (try simp only [Act.put, List.setIfInBounds_toArray, List.set_cons_zero, List.set_cons_succ, List.getElem_toArray, List.getElem_cons_zero, List.getElem_cons_succ])
      refine wpAnyH_take (i := 23) (oi := _) (v := ?va23) rfl (by kernel_rfl) (by kernel_rfl) (by kernel_rfl) (fun _ _ _ h => h) (Or.inl ⟨by rfl, ?hya23⟩) (by assumption) ?resta23
      case hya23 => (intro w hSw; (try dsimp only at hSw); (try simp only [List.getElem_toArray, List.getElem_cons_zero, List.getElem_cons_succ]); go_simp; (try with_reducible rfl))
      (try simp only [Act.put, List.setIfInBounds_toArray, List.set_cons_zero, List.set_cons_succ, List.getElem_toArray, List.getElem_cons_zero, List.getElem_cons_succ])
      refine wpAnyH_take (i := 24) (oi := _) (v := ?va24) rfl (by kernel_rfl) (by kernel_rfl) (by kernel_rfl) (fun _ _ _ h => h) (Or.inl ⟨by rfl, ?hya24⟩) (by assumption) ?resta24
      case hya24 => (intro w hSw; (try dsimp only at hSw); (try simp only [List.getElem_toArray, List.getElem_cons_zero, List.getElem_cons_succ]); go_simp; (try with_reducible rfl))
      (try simp only [Act.put, List.setIfInBounds_toArray, List.set_cons_zero, List.set_cons_succ, List.getElem_toArray, List.getElem_cons_zero, List.getElem_cons_succ])
      refine wpAnyH_take (i := 25) (oi := _) (v := ?va25) rfl (by kernel_rfl) (by kernel_rfl) (by kernel_rfl) (fun _ _ _ h => h) (Or.inl ⟨by rfl, ?hya25⟩) (by assumption) ?resta25
      case hya25 => (intro w hSw; (try dsimp only at hSw); (try simp only [List.getElem_toArray, List.getElem_cons_zero, List.getElem_cons_succ]); go_simp; (try with_reducible rfl))
      (try simp only [Act.put, List.setIfInBounds_toArray, List.set_cons_zero, List.set_cons_succ, List.getElem_toArray, List.getElem_cons_zero, List.getElem_cons_succ])
      refine wpAnyH_take (i := 28) (oi := _) (v := ?va28) rfl (by kernel_rfl) (by kernel_rfl) (by kernel_rfl) (fun _ _ _ h => h) (Or.inl ⟨by rfl, ?hya28⟩) (by assumption) ?resta28
      case hya28 => (intro w hSw; (try dsimp only at hSw); (try simp only [List.getElem_toArray, List.getElem_cons_zero, List.getElem_cons_succ]); go_simp; (try with_reducible rfl))
      (try simp only [Act.put, List.setIfInBounds_toArray, List.set_cons_zero, List.set_cons_succ, List.getElem_toArray, List.getElem_cons_zero, List.getElem_cons_succ])
      refine wpAnyH_ready (rs := [26]) (by kernel_rfl) (by simp) ?_
      refine AllReadyH.cons (o := _) rfl (fun K hK => ?_) AllReadyH.nil
      (try simp only [List.getElem_toArray, List.getElem_cons_zero, List.getElem_cons_succ])
      go_simp
      refine hK.out _ _ ?_ (fun hHeld => ?_)
      · exact HSF.out _ (HR3.out.alloc hs3 _)
      clear hK K
      (try simp only [Act.put, List.setIfInBounds_toArray, List.set_cons_zero, List.set_cons_succ, List.getElem_toArray, List.getElem_cons_zero, List.getElem_cons_succ])
      refine wpAnyH_ready (rs := [27]) (by kernel_rfl) (by simp) ?_
      refine AllReadyH.cons (o := _) rfl (fun K hK => ?_) AllReadyH.nil
      (try simp only [List.getElem_toArray, List.getElem_cons_zero, List.getElem_cons_succ])
      go_simp
      refine (HS3.out _ _ (src_new v3 [.int .i64 (48), .int .i64 (5), .int .i64 (k)] 3 _ rfl 3 rfl)).mono ?_; rintro e v4 ⟨rfl, hb⟩; have HR4 : Hid (Below W1.heap.size W1 v4) := Lib.hid ((HR3.out.alloc hs3 _).trans (hb.mono (by simp; omega))); have hs4 : W1.heap.size ≤ v4.heap.size := HR4.out.size; clear hb
      refine hK.out _ _ ?_ (fun hHeld => ?_)
      · exact HSF.out _ HR4.out
      clear hK K
      (try simp only [Act.put, List.setIfInBounds_toArray, List.set_cons_zero, List.set_cons_succ, List.getElem_toArray, List.getElem_cons_zero, List.getElem_cons_succ])
      refine wpAnyH_take (i := 29) (oi := _) (v := ?va29) rfl (by kernel_rfl) (by kernel_rfl) (by kernel_rfl) (fun _ _ _ h => h) (Or.inl ⟨by rfl, ?hya29⟩) (by assumption) ?resta29
      case hya29 => (intro w hSw; (try dsimp only at hSw); (try simp only [List.getElem_toArray, List.getElem_cons_zero, List.getElem_cons_succ]); go_simp; (try with_reducible rfl))
      (try simp only [Act.put, List.setIfInBounds_toArray, List.set_cons_zero, List.set_cons_succ, List.getElem_toArray, List.getElem_cons_zero, List.getElem_cons_succ])
      refine wpAnyH_take (i := 30) (oi := _) (v := ?va30) rfl (by kernel_rfl) (by kernel_rfl) (by kernel_rfl) (fun _ _ _ h => h) (Or.inl ⟨by rfl, ?hya30⟩) (by assumption) ?resta30
      case hya30 => (intro w hSw; (try dsimp only at hSw); (try simp only [List.getElem_toArray, List.getElem_cons_zero, List.getElem_cons_succ]); go_simp; (try with_reducible rfl))
      (try simp only [Act.put, List.setIfInBounds_toArray, List.set_cons_zero, List.set_cons_succ, List.getElem_toArray, List.getElem_cons_zero, List.getElem_cons_succ])
      refine wpAnyH_take (i := 31) (oi := _) (v := ?va31) rfl (by kernel_rfl) (by kernel_rfl) (by kernel_rfl) (fun _ _ _ h => h) (Or.inl ⟨by rfl, ?hya31⟩) (by assumption) ?resta31
      case hya31 => (intro w hSw; (try dsimp only at hSw); (try simp only [List.getElem_toArray, List.getElem_cons_zero, List.getElem_cons_succ]); go_simp; (try with_reducible rfl))
      (try simp only [Act.put, List.setIfInBounds_toArray, List.set_cons_zero, List.set_cons_succ, List.getElem_toArray, List.getElem_cons_zero, List.getElem_cons_succ])
      refine wpAnyH_take (i := 32) (oi := _) (v := ?va32) rfl (by kernel_rfl) (by kernel_rfl) (by kernel_rfl) (fun _ _ _ h => h) (Or.inl ⟨by rfl, ?hya32⟩) (by assumption) ?resta32
      case hya32 => (intro w hSw; (try dsimp only at hSw); (try simp only [List.getElem_toArray, List.getElem_cons_zero, List.getElem_cons_succ]); go_simp; (try with_reducible rfl))
      (try simp only [Act.put, List.setIfInBounds_toArray, List.set_cons_zero, List.set_cons_succ, List.getElem_toArray, List.getElem_cons_zero, List.getElem_cons_succ])
      refine wpAnyH_take (i := 35) (oi := _) (v := ?va35) rfl (by kernel_rfl) (by kernel_rfl) (by kernel_rfl) (fun _ _ _ h => h) (Or.inl ⟨by rfl, ?hya35⟩) (by assumption) ?resta35
      case hya35 => (intro w hSw; (try dsimp only at hSw); (try simp only [List.getElem_toArray, List.getElem_cons_zero, List.getElem_cons_succ]); go_simp; (try with_reducible rfl))
      (try simp only [Act.put, List.setIfInBounds_toArray, List.set_cons_zero, List.set_cons_succ, List.getElem_toArray, List.getElem_cons_zero, List.getElem_cons_succ])
      refine wpAnyH_ready (rs := [33]) (by kernel_rfl) (by simp) ?_
      refine AllReadyH.cons (o := _) rfl (fun K hK => ?_) AllReadyH.nil
      (try simp only [List.getElem_toArray, List.getElem_cons_zero, List.getElem_cons_succ])
      go_simp
      refine hK.out _ _ ?_ (fun hHeld => ?_)
      · exact HSF.out _ (HR4.out.alloc hs4 _)
      clear hK K
      (try simp only [Act.put, List.setIfInBounds_toArray, List.set_cons_zero, List.set_cons_succ, List.getElem_toArray, List.getElem_cons_zero, List.getElem_cons_succ])
      refine wpAnyH_ready (rs := [34]) (by kernel_rfl) (by simp) ?_
      refine AllReadyH.cons (o := _) rfl (fun K hK => ?_) AllReadyH.nil
      (try simp only [List.getElem_toArray, List.getElem_cons_zero, List.getElem_cons_succ])
      go_simp
      refine (HS4.out _ _ (src_new v4 [.int .i64 (39)] 3 _ rfl 1 rfl)).mono ?_; rintro e v5 ⟨rfl, hb⟩; have HR5 : Hid (Below W1.heap.size W1 v5) := Lib.hid ((HR4.out.alloc hs4 _).trans (hb.mono (by simp; omega))); have hs5 : W1.heap.size ≤ v5.heap.size := HR5.out.size; clear hb
      refine hK.out _ _ ?_ (fun hHeld => ?_)
      · exact HSF.out _ HR5.out
      clear hK K
      (try simp only [Act.put, List.setIfInBounds_toArray, List.set_cons_zero, List.set_cons_succ, List.getElem_toArray, List.getElem_cons_zero, List.getElem_cons_succ])
      refine wpAnyH_take (i := 36) (oi := _) (v := ?va36) rfl (by kernel_rfl) (by kernel_rfl) (by kernel_rfl) (fun _ _ _ h => h) (Or.inl ⟨by rfl, ?hya36⟩) (by assumption) ?resta36
      case hya36 => (intro w hSw; (try dsimp only at hSw); (try simp only [List.getElem_toArray, List.getElem_cons_zero, List.getElem_cons_succ]); go_simp; (try with_reducible rfl))
      (try simp only [Act.put, List.setIfInBounds_toArray, List.set_cons_zero, List.set_cons_succ, List.getElem_toArray, List.getElem_cons_zero, List.getElem_cons_succ])
      refine wpAnyH_take (i := 37) (oi := _) (v := ?va37) rfl (by kernel_rfl) (by kernel_rfl) (by kernel_rfl) (fun _ _ _ h => h) (Or.inl ⟨by rfl, ?hya37⟩) (by assumption) ?resta37
      case hya37 => (intro w hSw; (try dsimp only at hSw); (try simp only [List.getElem_toArray, List.getElem_cons_zero, List.getElem_cons_succ]); go_simp; (try with_reducible rfl))
      (try simp only [Act.put, List.setIfInBounds_toArray, List.set_cons_zero, List.set_cons_succ, List.getElem_toArray, List.getElem_cons_zero, List.getElem_cons_succ])
      refine wpAnyH_take (i := 38) (oi := _) (v := ?va38) rfl (by kernel_rfl) (by kernel_rfl) (by kernel_rfl) (fun _ _ _ h => h) (Or.inl ⟨by rfl, ?hya38⟩) (by assumption) ?resta38
      case hya38 => (intro w hSw; (try dsimp only at hSw); (try simp only [List.getElem_toArray, List.getElem_cons_zero, List.getElem_cons_succ]); go_simp; (try with_reducible rfl))
      (try simp only [Act.put, List.setIfInBounds_toArray, List.set_cons_zero, List.set_cons_succ, List.getElem_toArray, List.getElem_cons_zero, List.getElem_cons_succ])
      refine wpAnyH_take (i := 39) (oi := _) (v := ?va39) rfl (by kernel_rfl) (by kernel_rfl) (by kernel_rfl) (fun _ _ _ h => h) (Or.inl ⟨by rfl, ?hya39⟩) (by assumption) ?resta39
      case hya39 => (intro w hSw; (try dsimp only at hSw); (try simp only [List.getElem_toArray, List.getElem_cons_zero, List.getElem_cons_succ]); go_simp; (try with_reducible rfl))
      (try simp only [Act.put, List.setIfInBounds_toArray, List.set_cons_zero, List.set_cons_succ, List.getElem_toArray, List.getElem_cons_zero, List.getElem_cons_succ])
      refine wpAnyH_take (i := 40) (oi := _) (v := ?va40) rfl (by kernel_rfl) (by kernel_rfl) (by kernel_rfl) (fun _ _ _ h => h) (Or.inl ⟨by rfl, ?hya40⟩) (by assumption) ?resta40
      case hya40 => (intro w hSw; (try dsimp only at hSw); (try simp only [List.getElem_toArray, List.getElem_cons_zero, List.getElem_cons_succ]); go_simp; (try with_reducible rfl))
      (try simp only [Act.put, List.setIfInBounds_toArray, List.set_cons_zero, List.set_cons_succ, List.getElem_toArray, List.getElem_cons_zero, List.getElem_cons_succ])
      refine wpAnyH_take (i := 41) (oi := _) (v := ?va41) rfl (by kernel_rfl) (by kernel_rfl) (by kernel_rfl) (fun _ _ _ h => h) (Or.inl ⟨by rfl, ?hya41⟩) (by assumption) ?resta41
      case hya41 => (intro w hSw; (try dsimp only at hSw); (try simp only [List.getElem_toArray, List.getElem_cons_zero, List.getElem_cons_succ]); go_simp; (try with_reducible rfl))
      (try simp only [Act.put, List.setIfInBounds_toArray, List.set_cons_zero, List.set_cons_succ, List.getElem_toArray, List.getElem_cons_zero, List.getElem_cons_succ])
      refine wpAnyH_take (i := 44) (oi := _) (v := ?va44) rfl (by kernel_rfl) (by kernel_rfl) (by kernel_rfl) (fun _ _ _ h => h) (Or.inl ⟨by rfl, ?hya44⟩) (by assumption) ?resta44
      case hya44 => (intro w hSw; (try dsimp only at hSw); (try simp only [List.getElem_toArray, List.getElem_cons_zero, List.getElem_cons_succ]); go_simp; (try with_reducible rfl))
      (try simp only [Act.put, List.setIfInBounds_toArray, List.set_cons_zero, List.set_cons_succ, List.getElem_toArray, List.getElem_cons_zero, List.getElem_cons_succ])
      refine wpAnyH_ready (rs := [42]) (by kernel_rfl) (by simp) ?_
      refine AllReadyH.cons (o := _) rfl (fun K hK => ?_) AllReadyH.nil
      (try simp only [List.getElem_toArray, List.getElem_cons_zero, List.getElem_cons_succ])
      go_simp
      refine hK.out _ _ ?_ (fun hHeld => ?_)
      · exact HSF.out _ (HR5.out.alloc hs5 _)
      clear hK K
      (try simp only [Act.put, List.setIfInBounds_toArray, List.set_cons_zero, List.set_cons_succ, List.getElem_toArray, List.getElem_cons_zero, List.getElem_cons_succ])
      refine wpAnyH_ready (rs := [43]) (by kernel_rfl) (by simp) ?_
      refine AllReadyH.cons (o := _) rfl (fun K hK => ?_) AllReadyH.nil
      (try simp only [List.getElem_toArray, List.getElem_cons_zero, List.getElem_cons_succ])
      go_simp
      refine (HS5.out _ _ (src_new v5 [.int .i64 (38), .int .i64 (5), .int .i64 (16 + k)] 3 _ rfl 3 rfl)).mono ?_; rintro e v6 ⟨rfl, hb⟩; have HR6 : Hid (Below W1.heap.size W1 v6) := Lib.hid ((HR5.out.alloc hs5 _).trans (hb.mono (by simp; omega))); have hs6 : W1.heap.size ≤ v6.heap.size := HR6.out.size; clear hb
      refine hK.out _ _ ?_ (fun hHeld => ?_)
      · exact HSF.out _ HR6.out
      clear hK K
      (try simp only [Act.put, List.setIfInBounds_toArray, List.set_cons_zero, List.set_cons_succ, List.getElem_toArray, List.getElem_cons_zero, List.getElem_cons_succ])
      refine wpAnyH_take (i := 45) (oi := _) (v := ?va45) rfl (by kernel_rfl) (by kernel_rfl) (by kernel_rfl) (fun _ _ _ h => h) (Or.inl ⟨by rfl, ?hya45⟩) (by assumption) ?resta45
      case hya45 => (intro w hSw; (try dsimp only at hSw); (try simp only [List.getElem_toArray, List.getElem_cons_zero, List.getElem_cons_succ]); go_simp; (try with_reducible rfl))
      (try simp only [Act.put, List.setIfInBounds_toArray, List.set_cons_zero, List.set_cons_succ, List.getElem_toArray, List.getElem_cons_zero, List.getElem_cons_succ])
      refine wpAnyH_take (i := 46) (oi := _) (v := ?va46) rfl (by kernel_rfl) (by kernel_rfl) (by kernel_rfl) (fun _ _ _ h => h) (Or.inl ⟨by rfl, ?hya46⟩) (by assumption) ?resta46
      case hya46 => (intro w hSw; (try dsimp only at hSw); (try simp only [List.getElem_toArray, List.getElem_cons_zero, List.getElem_cons_succ]); go_simp; (try with_reducible rfl))
      (try simp only [Act.put, List.setIfInBounds_toArray, List.set_cons_zero, List.set_cons_succ, List.getElem_toArray, List.getElem_cons_zero, List.getElem_cons_succ])
      refine wpAnyH_take (i := 47) (oi := _) (v := ?va47) rfl (by kernel_rfl) (by kernel_rfl) (by kernel_rfl) (fun _ _ _ h => h) (Or.inl ⟨by rfl, ?hya47⟩) (by assumption) ?resta47
      case hya47 => (intro w hSw; (try dsimp only at hSw); (try simp only [List.getElem_toArray, List.getElem_cons_zero, List.getElem_cons_succ]); go_simp; (try with_reducible rfl))
      (try simp only [Act.put, List.setIfInBounds_toArray, List.set_cons_zero, List.set_cons_succ, List.getElem_toArray, List.getElem_cons_zero, List.getElem_cons_succ])
      refine wpAnyH_take (i := 48) (oi := _) (v := ?va48) rfl (by kernel_rfl) (by kernel_rfl) (by kernel_rfl) (fun _ _ _ h => h) (Or.inl ⟨by rfl, ?hya48⟩) (by assumption) ?resta48
      case hya48 => (intro w hSw; (try dsimp only at hSw); (try simp only [List.getElem_toArray, List.getElem_cons_zero, List.getElem_cons_succ]); go_simp; (try with_reducible rfl))
      (try simp only [Act.put, List.setIfInBounds_toArray, List.set_cons_zero, List.set_cons_succ, List.getElem_toArray, List.getElem_cons_zero, List.getElem_cons_succ])
      refine wpAnyH_take (i := 51) (oi := _) (v := ?va51) rfl (by kernel_rfl) (by kernel_rfl) (by kernel_rfl) (fun _ _ _ h => h) (Or.inl ⟨by rfl, ?hya51⟩) (by assumption) ?resta51
      case hya51 => (intro w hSw; (try dsimp only at hSw); (try simp only [List.getElem_toArray, List.getElem_cons_zero, List.getElem_cons_succ]); go_simp; (try with_reducible rfl))
      (try simp only [Act.put, List.setIfInBounds_toArray, List.set_cons_zero, List.set_cons_succ, List.getElem_toArray, List.getElem_cons_zero, List.getElem_cons_succ])
      refine wpAnyH_ready (rs := [49]) (by kernel_rfl) (by simp) ?_
      refine AllReadyH.cons (o := _) rfl (fun K hK => ?_) AllReadyH.nil
      (try simp only [List.getElem_toArray, List.getElem_cons_zero, List.getElem_cons_succ])
      go_simp
      refine hK.out _ _ ?_ (fun hHeld => ?_)
      · exact HSF.out _ (HR6.out.alloc hs6 _)
      clear hK K
      (try simp only [Act.put, List.setIfInBounds_toArray, List.set_cons_zero, List.set_cons_succ, List.getElem_toArray, List.getElem_cons_zero, List.getElem_cons_succ])
      refine wpAnyH_ready (rs := [50]) (by kernel_rfl) (by simp) ?_
      refine AllReadyH.cons (o := _) rfl (fun K hK => ?_) AllReadyH.nil
      (try simp only [List.getElem_toArray, List.getElem_cons_zero, List.getElem_cons_succ])
      go_simp
      refine (HS6.out _ _ (src_new v6 [.int .i64 (38), .int .i64 (2), .int .i64 (1), .int .i64 (4), .int .i64 (7)] 3 _ rfl 5 rfl)).mono ?_; rintro e v7 ⟨rfl, hb⟩; have HR7 : Hid (Below W1.heap.size W1 v7) := Lib.hid ((HR6.out.alloc hs6 _).trans (hb.mono (by simp; omega))); have hs7 : W1.heap.size ≤ v7.heap.size := HR7.out.size; clear hb
      refine hK.out _ _ ?_ (fun hHeld => ?_)
      · exact HSF.out _ HR7.out
      clear hK K
      (try simp only [Act.put, List.setIfInBounds_toArray, List.set_cons_zero, List.set_cons_succ, List.getElem_toArray, List.getElem_cons_zero, List.getElem_cons_succ])
      refine wpAnyH_take (i := 52) (oi := _) (v := ?va52) rfl (by kernel_rfl) (by kernel_rfl) (by kernel_rfl) (fun _ _ _ h => h) (Or.inl ⟨by rfl, ?hya52⟩) (by assumption) ?resta52
      case hya52 => (intro w hSw; (try dsimp only at hSw); (try simp only [List.getElem_toArray, List.getElem_cons_zero, List.getElem_cons_succ]); go_simp; (try with_reducible rfl))
      (try simp only [Act.put, List.setIfInBounds_toArray, List.set_cons_zero, List.set_cons_succ, List.getElem_toArray, List.getElem_cons_zero, List.getElem_cons_succ])
      refine wpAnyH_take (i := 53) (oi := _) (v := ?va53) rfl (by kernel_rfl) (by kernel_rfl) (by kernel_rfl) (fun _ _ _ h => h) (Or.inl ⟨by rfl, ?hya53⟩) (by assumption) ?resta53
      case hya53 => (intro w hSw; (try dsimp only at hSw); (try simp only [List.getElem_toArray, List.getElem_cons_zero, List.getElem_cons_succ]); go_simp; (try with_reducible rfl))
      (try simp only [Act.put, List.setIfInBounds_toArray, List.set_cons_zero, List.set_cons_succ, List.getElem_toArray, List.getElem_cons_zero, List.getElem_cons_succ])
      refine wpAnyH_take (i := 54) (oi := _) (v := ?va54) rfl (by kernel_rfl) (by kernel_rfl) (by kernel_rfl) (fun _ _ _ h => h) (Or.inl ⟨by rfl, ?hya54⟩) (by assumption) ?resta54
      case hya54 => (intro w hSw; (try dsimp only at hSw); (try simp only [List.getElem_toArray, List.getElem_cons_zero, List.getElem_cons_succ]); go_simp; (try with_reducible rfl))
      (try simp only [Act.put, List.setIfInBounds_toArray, List.set_cons_zero, List.set_cons_succ, List.getElem_toArray, List.getElem_cons_zero, List.getElem_cons_succ])
      refine wpAnyH_take (i := 55) (oi := _) (v := ?va55) rfl (by kernel_rfl) (by kernel_rfl) (by kernel_rfl) (fun _ _ _ h => h) (Or.inl ⟨by rfl, ?hya55⟩) (by assumption) ?resta55
      case hya55 => (intro w hSw; (try dsimp only at hSw); (try simp only [List.getElem_toArray, List.getElem_cons_zero, List.getElem_cons_succ]); go_simp; (try with_reducible rfl))
      (try simp only [Act.put, List.setIfInBounds_toArray, List.set_cons_zero, List.set_cons_succ, List.getElem_toArray, List.getElem_cons_zero, List.getElem_cons_succ])
      refine wpAnyH_take (i := 58) (oi := _) (v := ?va58) rfl (by kernel_rfl) (by kernel_rfl) (by kernel_rfl) (fun _ _ _ h => h) (Or.inl ⟨by rfl, ?hya58⟩) (by assumption) ?resta58
      case hya58 => (intro w hSw; (try dsimp only at hSw); (try simp only [List.getElem_toArray, List.getElem_cons_zero, List.getElem_cons_succ]); go_simp; (try with_reducible rfl))
      (try simp only [Act.put, List.setIfInBounds_toArray, List.set_cons_zero, List.set_cons_succ, List.getElem_toArray, List.getElem_cons_zero, List.getElem_cons_succ])
      refine wpAnyH_ready (rs := [56]) (by kernel_rfl) (by simp) ?_
      refine AllReadyH.cons (o := _) rfl (fun K hK => ?_) AllReadyH.nil
      (try simp only [List.getElem_toArray, List.getElem_cons_zero, List.getElem_cons_succ])
      go_simp
      refine hK.out _ _ ?_ (fun hHeld => ?_)
      · exact HSF.out _ (HR7.out.alloc hs7 _)
      clear hK K
      (try simp only [Act.put, List.setIfInBounds_toArray, List.set_cons_zero, List.set_cons_succ, List.getElem_toArray, List.getElem_cons_zero, List.getElem_cons_succ])
      refine wpAnyH_ready (rs := [57]) (by kernel_rfl) (by simp) ?_
      refine AllReadyH.cons (o := _) rfl (fun K hK => ?_) AllReadyH.nil
      (try simp only [List.getElem_toArray, List.getElem_cons_zero, List.getElem_cons_succ])
      go_simp
      refine (HS7.out _ _ (src_new v7 [.int .i64 (38)] 3 _ rfl 1 rfl)).mono ?_; rintro e v8 ⟨rfl, hb⟩; have HR8 : Hid (Below W1.heap.size W1 v8) := Lib.hid ((HR7.out.alloc hs7 _).trans (hb.mono (by simp; omega))); have hs8 : W1.heap.size ≤ v8.heap.size := HR8.out.size; clear hb
      refine hK.out _ _ ?_ (fun hHeld => ?_)
      · exact HSF.out _ HR8.out
      clear hK K
      (try simp only [Act.put, List.setIfInBounds_toArray, List.set_cons_zero, List.set_cons_succ, List.getElem_toArray, List.getElem_cons_zero, List.getElem_cons_succ])
      refine wpAnyH_take (i := 59) (oi := _) (v := ?va59) rfl (by kernel_rfl) (by kernel_rfl) (by kernel_rfl) (fun _ _ _ h => h) (Or.inl ⟨by rfl, ?hya59⟩) (by assumption) ?resta59
      case hya59 => (intro w hSw; (try dsimp only at hSw); (try simp only [List.getElem_toArray, List.getElem_cons_zero, List.getElem_cons_succ]); go_simp; (try with_reducible rfl))
      (try simp only [Act.put, List.setIfInBounds_toArray, List.set_cons_zero, List.set_cons_succ, List.getElem_toArray, List.getElem_cons_zero, List.getElem_cons_succ])
      refine wpAnyH_take (i := 60) (oi := _) (v := ?va60) rfl (by kernel_rfl) (by kernel_rfl) (by kernel_rfl) (fun _ _ _ h => h) (Or.inl ⟨by rfl, ?hya60⟩) (by assumption) ?resta60
      case hya60 => (intro w hSw; (try dsimp only at hSw); (try simp only [List.getElem_toArray, List.getElem_cons_zero, List.getElem_cons_succ]); go_simp; (try with_reducible rfl))
      (try simp only [Act.put, List.setIfInBounds_toArray, List.set_cons_zero, List.set_cons_succ, List.getElem_toArray, List.getElem_cons_zero, List.getElem_cons_succ])
      refine wpAnyH_take (i := 61) (oi := _) (v := ?va61) rfl (by kernel_rfl) (by kernel_rfl) (by kernel_rfl) (fun _ _ _ h => h) (Or.inl ⟨by rfl, ?hya61⟩) (by assumption) ?resta61
      case hya61 => (intro w hSw; (try dsimp only at hSw); (try simp only [List.getElem_toArray, List.getElem_cons_zero, List.getElem_cons_succ]); go_simp; (try with_reducible rfl))
      (try simp only [Act.put, List.setIfInBounds_toArray, List.set_cons_zero, List.set_cons_succ, List.getElem_toArray, List.getElem_cons_zero, List.getElem_cons_succ])
      refine wpAnyH_take (i := 62) (oi := _) (v := ?va62) rfl (by kernel_rfl) (by kernel_rfl) (by kernel_rfl) (fun _ _ _ h => h) (Or.inl ⟨by rfl, ?hya62⟩) (by assumption) ?resta62
      case hya62 => (intro w hSw; (try dsimp only at hSw); (try simp only [List.getElem_toArray, List.getElem_cons_zero, List.getElem_cons_succ]); go_simp; (try with_reducible rfl))
      (try simp only [Act.put, List.setIfInBounds_toArray, List.set_cons_zero, List.set_cons_succ, List.getElem_toArray, List.getElem_cons_zero, List.getElem_cons_succ])
      refine wpAnyH_take (i := 63) (oi := _) (v := ?va63) rfl (by kernel_rfl) (by kernel_rfl) (by kernel_rfl) (fun _ _ _ h => h) (Or.inl ⟨by rfl, ?hya63⟩) (by assumption) ?resta63
      case hya63 => (intro w hSw; (try dsimp only at hSw); (try simp only [List.getElem_toArray, List.getElem_cons_zero, List.getElem_cons_succ]); go_simp; (try with_reducible rfl))
      (try simp only [Act.put, List.setIfInBounds_toArray, List.set_cons_zero, List.set_cons_succ, List.getElem_toArray, List.getElem_cons_zero, List.getElem_cons_succ])
      refine wpAnyH_take (i := 64) (oi := _) (v := ?va64) rfl (by kernel_rfl) (by kernel_rfl) (by kernel_rfl) (fun _ _ _ h => h) (Or.inl ⟨by rfl, ?hya64⟩) (by assumption) ?resta64
      case hya64 => (intro w hSw; (try dsimp only at hSw); (try simp only [List.getElem_toArray, List.getElem_cons_zero, List.getElem_cons_succ]); go_simp; (try with_reducible rfl))
      (try simp only [Act.put, List.setIfInBounds_toArray, List.set_cons_zero, List.set_cons_succ, List.getElem_toArray, List.getElem_cons_zero, List.getElem_cons_succ])
      refine wpAnyH_take (i := 67) (oi := _) (v := ?va67) rfl (by kernel_rfl) (by kernel_rfl) (by kernel_rfl) (fun _ _ _ h => h) (Or.inl ⟨by rfl, ?hya67⟩) (by assumption) ?resta67
      case hya67 => (intro w hSw; (try dsimp only at hSw); (try simp only [List.getElem_toArray, List.getElem_cons_zero, List.getElem_cons_succ]); go_simp; (try with_reducible rfl))
      (try simp only [Act.put, List.setIfInBounds_toArray, List.set_cons_zero, List.set_cons_succ, List.getElem_toArray, List.getElem_cons_zero, List.getElem_cons_succ])
      refine wpAnyH_ready (rs := [65]) (by kernel_rfl) (by simp) ?_
      refine AllReadyH.cons (o := _) rfl (fun K hK => ?_) AllReadyH.nil
      (try simp only [List.getElem_toArray, List.getElem_cons_zero, List.getElem_cons_succ])
      go_simp
      refine hK.out _ _ ?_ (fun hHeld => ?_)
      · exact HSF.out _ (HR8.out.alloc hs8 _)
      clear hK K
      (try simp only [Act.put, List.setIfInBounds_toArray, List.set_cons_zero, List.set_cons_succ, List.getElem_toArray, List.getElem_cons_zero, List.getElem_cons_succ])
      refine wpAnyH_ready (rs := [66]) (by kernel_rfl) (by simp) ?_
      refine AllReadyH.cons (o := _) rfl (fun K hK => ?_) AllReadyH.nil
      (try simp only [List.getElem_toArray, List.getElem_cons_zero, List.getElem_cons_succ])
      go_simp
      refine (HS8.out _ _ (src_new v8 [.int .i64 (200 + k)] 3 _ rfl 1 rfl)).mono ?_; rintro e v9 ⟨rfl, hb⟩; have HR9 : Hid (Below W1.heap.size W1 v9) := Lib.hid ((HR8.out.alloc hs8 _).trans (hb.mono (by simp; omega))); have hs9 : W1.heap.size ≤ v9.heap.size := HR9.out.size; clear hb
      refine hK.out _ _ ?_ (fun hHeld => ?_)
      · exact HSF.out _ HR9.out
      clear hK K
      (try simp only [Act.put, List.setIfInBounds_toArray, List.set_cons_zero, List.set_cons_succ, List.getElem_toArray, List.getElem_cons_zero, List.getElem_cons_succ])
      refine wpAnyH_take (i := 68) (oi := _) (v := ?va68) rfl (by kernel_rfl) (by kernel_rfl) (by kernel_rfl) (fun _ _ _ h => h) (Or.inl ⟨by rfl, ?hya68⟩) (by assumption) ?resta68
      case hya68 => (intro w hSw; (try dsimp only at hSw); (try simp only [List.getElem_toArray, List.getElem_cons_zero, List.getElem_cons_succ]); go_simp; (try with_reducible rfl))
      (try simp only [Act.put, List.setIfInBounds_toArray, List.set_cons_zero, List.set_cons_succ, List.getElem_toArray, List.getElem_cons_zero, List.getElem_cons_succ])
      refine wpAnyH_take (i := 69) (oi := _) (v := ?va69) rfl (by kernel_rfl) (by kernel_rfl) (by kernel_rfl) (fun _ _ _ h => h) (Or.inl ⟨by rfl, ?hya69⟩) (by assumption) ?resta69
      case hya69 => (intro w hSw; (try dsimp only at hSw); (try simp only [List.getElem_toArray, List.getElem_cons_zero, List.getElem_cons_succ]); go_simp; (try with_reducible rfl))
      (try simp only [Act.put, List.setIfInBounds_toArray, List.set_cons_zero, List.set_cons_succ, List.getElem_toArray, List.getElem_cons_zero, List.getElem_cons_succ])
      refine wpAnyH_take (i := 70) (oi := _) (v := ?va70) rfl (by kernel_rfl) (by kernel_rfl) (by kernel_rfl) (fun _ _ _ h => h) (Or.inl ⟨by rfl, ?hya70⟩) (by assumption) ?resta70
      case hya70 => (intro w hSw; (try dsimp only at hSw); (try simp only [List.getElem_toArray, List.getElem_cons_zero, List.getElem_cons_succ]); go_simp; (try with_reducible rfl))
      (try simp only [Act.put, List.setIfInBounds_toArray, List.set_cons_zero, List.set_cons_succ, List.getElem_toArray, List.getElem_cons_zero, List.getElem_cons_succ])
      refine wpAnyH_take (i := 71) (oi := _) (v := ?va71) rfl (by kernel_rfl) (by kernel_rfl) (by kernel_rfl) (fun _ _ _ h => h) (Or.inl ⟨by rfl, ?hya71⟩) (by assumption) ?resta71
      case hya71 => (intro w hSw; (try dsimp only at hSw); (try simp only [List.getElem_toArray, List.getElem_cons_zero, List.getElem_cons_succ]); go_simp; (try with_reducible rfl))
      (try simp only [Act.put, List.setIfInBounds_toArray, List.set_cons_zero, List.set_cons_succ, List.getElem_toArray, List.getElem_cons_zero, List.getElem_cons_succ])
      refine wpAnyH_take (i := 74) (oi := _) (v := ?va74) rfl (by kernel_rfl) (by kernel_rfl) (by kernel_rfl) (fun _ _ _ h => h) (Or.inl ⟨by rfl, ?hya74⟩) (by assumption) ?resta74
      case hya74 => (intro w hSw; (try dsimp only at hSw); (try simp only [List.getElem_toArray, List.getElem_cons_zero, List.getElem_cons_succ]); go_simp; (try with_reducible rfl))
      (try simp only [Act.put, List.setIfInBounds_toArray, List.set_cons_zero, List.set_cons_succ, List.getElem_toArray, List.getElem_cons_zero, List.getElem_cons_succ])
      refine wpAnyH_ready (rs := [72]) (by kernel_rfl) (by simp) ?_
      refine AllReadyH.cons (o := _) rfl (fun K hK => ?_) AllReadyH.nil
      (try simp only [List.getElem_toArray, List.getElem_cons_zero, List.getElem_cons_succ])
      go_simp
      refine hK.out _ _ ?_ (fun hHeld => ?_)
      · exact HSF.out _ (HR9.out.alloc hs9 _)
      clear hK K
      (try simp only [Act.put, List.setIfInBounds_toArray, List.set_cons_zero, List.set_cons_succ, List.getElem_toArray, List.getElem_cons_zero, List.getElem_cons_succ])
      refine wpAnyH_ready (rs := [73]) (by kernel_rfl) (by simp) ?_
      refine AllReadyH.cons (o := _) rfl (fun K hK => ?_) AllReadyH.nil
      (try simp only [List.getElem_toArray, List.getElem_cons_zero, List.getElem_cons_succ])
      go_simp
      refine (HS9.out _ _ (src_new v9 [.int .i64 (38), .int .i64 (5)] 3 _ rfl 2 rfl)).mono ?_; rintro e v10 ⟨rfl, hb⟩; have HR10 : Hid (Below W1.heap.size W1 v10) := Lib.hid ((HR9.out.alloc hs9 _).trans (hb.mono (by simp; omega))); have hs10 : W1.heap.size ≤ v10.heap.size := HR10.out.size; clear hb
      refine hK.out _ _ ?_ (fun hHeld => ?_)
      · exact HSF.out _ HR10.out
      clear hK K
      (try simp only [Act.put, List.setIfInBounds_toArray, List.set_cons_zero, List.set_cons_succ, List.getElem_toArray, List.getElem_cons_zero, List.getElem_cons_succ])
      refine wpAnyH_take (i := 75) (oi := _) (v := ?va75) rfl (by kernel_rfl) (by kernel_rfl) (by kernel_rfl) (fun _ _ _ h => h) (Or.inl ⟨by rfl, ?hya75⟩) (by assumption) ?resta75
      case hya75 => (intro w hSw; (try dsimp only at hSw); (try simp only [List.getElem_toArray, List.getElem_cons_zero, List.getElem_cons_succ]); go_simp; (try with_reducible rfl))
      (try simp only [Act.put, List.setIfInBounds_toArray, List.set_cons_zero, List.set_cons_succ, List.getElem_toArray, List.getElem_cons_zero, List.getElem_cons_succ])
      refine wpAnyH_take (i := 76) (oi := _) (v := ?va76) rfl (by kernel_rfl) (by kernel_rfl) (by kernel_rfl) (fun _ _ _ h => h) (Or.inl ⟨by rfl, ?hya76⟩) (by assumption) ?resta76
      case hya76 => (intro w hSw; (try dsimp only at hSw); (try simp only [List.getElem_toArray, List.getElem_cons_zero, List.getElem_cons_succ]); go_simp; (try with_reducible rfl))
      (try simp only [Act.put, List.setIfInBounds_toArray, List.set_cons_zero, List.set_cons_succ, List.getElem_toArray, List.getElem_cons_zero, List.getElem_cons_succ])
      refine wpAnyH_take (i := 77) (oi := _) (v := ?va77) rfl (by kernel_rfl) (by kernel_rfl) (by kernel_rfl) (fun _ _ _ h => h) (Or.inl ⟨by rfl, ?hya77⟩) (by assumption) ?resta77
      case hya77 => (intro w hSw; (try dsimp only at hSw); (try simp only [List.getElem_toArray, List.getElem_cons_zero, List.getElem_cons_succ]); go_simp; (try with_reducible rfl))
      (try simp only [Act.put, List.setIfInBounds_toArray, List.set_cons_zero, List.set_cons_succ, List.getElem_toArray, List.getElem_cons_zero, List.getElem_cons_succ])
      refine wpAnyH_done (by kernel_rfl) ?_ _
      refine NoPanic.normal ?_
      have HE : Hid (Below w.heap.size w v10) := Lib.hid (HB0.out.trans (HR10.out.mono HB0.out.size))
      clear hHeld
      go_wp2_with fail
      go_ret
      refine ⟨?_, HE.out⟩
      rename_i _ d77 h77 _ d76 h76
      have e77 : (some 4 : Option Tmp) = some d77 := h77
      have e76 : (some 114 : Option Tmp) = some d76 := h76
      clear h77 h76
      injection e77 with e77
      injection e76 with e76
      subst e77
      subst e76
      first | kernel_rfl | rfl | (simp; done) | (trace_state; done)

end Go.Proofs.Ytadlmbheppnjfaa
