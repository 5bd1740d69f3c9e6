/- Law PatchBlank: the walk. By rgn.py. Own work. -/
import Derived.Test.YtgomnigchfmfhaaPatA
import Derived.Test.YtgomnigchfmfhaaPatX
import Derived.Deep.RegionHeldLaw
namespace Go.Proofs.Ytgomnigchfmfhaa
set_option linter.unusedVariables false
set_option linter.unusedSimpArgs false
open Go.RowKit

theorem blank_ok (x y : Int) : (blankS x y).Ok := by
  obtain ⟨h1, h2⟩ := cl_ok x y
  refine ⟨?_, ?_, ?_, ?_, ?_, fun k hk => ?_⟩
  · show min (max (clW x : Int) 2) 40 = (clW x : Int); omega
  · show min (max (clH y : Int) 1) 20 = (clH y : Int); omega
  · show ((clW x * clH y : Nat) : Int) = (clW x : Int) * (clH y : Int); exact Int.natCast_mul _ _
  · show 0 ≤ (0 : Int) ∧ 0 < (clW x : Int); omega
  · show 0 ≤ (0 : Int) ∧ 0 < (clH y : Int); omega
  · show okC emptyC; decide

set_option maxRecDepth 100000 in
set_option maxHeartbeats 6400000 in
theorem walk_PatchBlank (x : Int) (wx : (Lit.int .i64 x).wf = true) (y : Int) (wy : (Lit.int .i64 y).wf = true) (w : World) :
    Calls Try.prog 4 #[.int .i64 x, .int .i64 y] w fun e w' => e = .returned (.bool true) ∧ Below w.heap.size w w' := by
  obtain ⟨s, hs⟩ : ∃ s, s = blankS x y := ⟨_, rfl⟩
  have HBL : Hid (∀ V, Calls Try.prog 16 #[.int .i64 x, .int .i64 y] V (ScrTo s V)) := Lib.hid (fun V => by rw [hs]; exact patch_Blank x y V)
  have HRB : Hid (∀ V, Calls Try.prog 17 #[.int .i64 x, .int .i64 y] V (ScrTo s V)) := Lib.hid (fun V => by rw [hs]; exact ref_Blank x y V)
  have hok : s.Ok := by rw [hs]; exact blank_ok x y
  have HN : Hid (s.n ≤ 1099511627776) := Lib.hid (by have := hok.n800; omega)
  have HV := Lib.hid ((validB_iff s).2 hok)
  have HL := Lib.hid ((likeB_iff s s).2 (Scr.Like.refl s))
  clear hs hok
  go_enter Try.func4, Try.ntmps4
  go_wp2_with fail
  refine (patch_alive _).mono ?_
  rintro e w1 ⟨rfl, hb⟩
  have HB1 := Lib.hid hb
  clear hb
  go_wp2_with fail
  refine (HBL.out w1).mono ?_
  rintro e w2 ⟨g, c, rfl, hg1, hg2, hl, -, -, -, hb⟩
  have HA2 : Hid (s.at' w2 (some ⟨g, 0, none⟩)) := Lib.hid (hl.src hg2)
  have HB2 : Hid (Below w.heap.size w w2) := Lib.hid (HB1.out.trans (hb.mono HB1.out.size))
  clear hg1 hg2 hl hb HB1
  have HSM : Hid (∀ V B d, Below w2.heap.size w2 V → s.at' V B → Calls Try.prog 11 #[s.v (some ⟨g, 0, none⟩) c, s.v B d] V fun e w' => e = .returned (.bool true) ∧ Below V.heap.size V w') := Lib.hid (fun V B d k hB => by
    have := ref_Same s s (some ⟨g, 0, none⟩) B c d V (HA2.out.keep (Keep.of_below _ k)) hB HN.out
    rwa [HL.out] at this)
  have HVA : Hid (∀ V, Below w2.heap.size w2 V → Calls Try.prog 9 #[s.v (some ⟨g, 0, none⟩) c] V fun e w' => e = .returned (.bool true) ∧ Below V.heap.size V w') := Lib.hid (fun V k => by
    have := patch_Valid s (some ⟨g, 0, none⟩) c V (HA2.out.keep (Keep.of_below _ k)) HN.out
    rwa [HV.out] at this)
  obtain ⟨sW, sH, sn, sF, sX, sY, shi⟩ := s
  simp only [Scr.v] at HSM HVA ⊢
  go_upto_region 4 with fail
  obtain ⟨w3, hw3⟩ : ∃ w3, w3 = w2.alloc (.cells #[.int .i64 sW, .int .i64 sH, .slice (some ⟨g, 0, none⟩) sn c, .int .i64 sX, .int .i64 sY, .bool shi] 24) := ⟨_, rfl⟩
  obtain ⟨b, hbq⟩ : ∃ b, b = w2.heap.size := ⟨_, rfl⟩
  have hb23 : Below w2.heap.size w2 w3 := by rw [hw3]; exact below_box ..
  have HX3 : Hid (w3.heap[b]? = some (.cells #[.int .i64 sW, .int .i64 sH, .slice (some ⟨g, 0, none⟩) sn c, .int .i64 sX, .int .i64 sY, .bool shi] 24 (0, 0))) := Lib.hid (by rw [hw3, hbq]; exact heap_alloc_new _ _)
  have HC : Hid (∀ V, Below w3.heap.size w3 V → V.cell? ⟨b, 0, none⟩ = some (.int .i64 sW) ∧ V.cell? ⟨b, 1, none⟩ = some (.int .i64 sH) ∧ V.cell? ⟨b, 2, none⟩ = some (.slice (some ⟨g, 0, none⟩) sn c) ∧ V.cell? ⟨b, 3, none⟩ = some (.int .i64 sX) ∧ V.cell? ⟨b, 4, none⟩ = some (.int .i64 sY) ∧ V.cell? ⟨b, 5, none⟩ = some (.bool shi)) := Lib.hid (fun V k => by
    have h := (Keep.of_below (fun _ => False) k).heap HX3.out (fun x => x)
    exact ⟨cell_at h 0, cell_at h 1, cell_at h 2, cell_at h 3, cell_at h 4, cell_at h 5⟩)
  have HW : Hid (∀ V, Below w3.heap.size w3 V → Below w2.heap.size w2 V ∧ Below w.heap.size w V) := Lib.hid (fun V k => by
    have h := hb23.trans (k.mono hb23.size)
    exact ⟨h, HB2.out.trans (h.mono HB2.out.size)⟩)
  rw [← hw3, ← hbq]
  clear hw3 hbq hb23
  refine wp_region_noPanic ?_
  refine wp_region_held_drew (S := fun V => V.cell? ⟨b, 0, none⟩ = some (.int .i64 sW) ∧ V.cell? ⟨b, 1, none⟩ = some (.int .i64 sH) ∧ V.cell? ⟨b, 2, none⟩ = some (.slice (some ⟨g, 0, none⟩) sn c) ∧ V.cell? ⟨b, 3, none⟩ = some (.int .i64 sX) ∧ V.cell? ⟨b, 4, none⟩ = some (.int .i64 sY) ∧ V.cell? ⟨b, 5, none⟩ = some (.bool shi)) (by kernel_rfl) (HC.out w3 (Below.refl _ _)) (fun hHeld => ?_)
  obtain ⟨V0, hV0⟩ : ∃ V, V = w3.drew := ⟨_, rfl⟩
  have HBV0 : Hid (Below w3.heap.size w3 V0) := Lib.hid (by rw [hV0]; exact Below.drewN' (Below.refl _ w3) 1)
  rw [← hV0]
  clear hV0 hHeld
  have hHeld := HC.out _ HBV0.out
  refine wpAnyH_take (i := 0) (oi := _) (v := ?va0) rfl (by kernel_rfl) (by kernel_rfl) (by kernel_rfl) (fun _ _ _ h => h) (Or.inl ⟨by rfl, ?hya0⟩) (by assumption) ?resta0
  case hya0 => (intro w hSw; (try dsimp only at hSw); (try simp only [List.getElem_toArray, List.getElem_cons_zero, List.getElem_cons_succ]); go_simp; (try with_reducible rfl))
  (try simp only [Act.put, List.setIfInBounds_toArray, List.set_cons_zero, List.set_cons_succ, List.getElem_toArray, List.getElem_cons_zero, List.getElem_cons_succ])
  refine wpAnyH_take (i := 1) (oi := _) (v := ?va1) rfl (by kernel_rfl) (by kernel_rfl) (by kernel_rfl) (fun _ _ _ h => h) (Or.inl ⟨by rfl, ?hya1⟩) (by assumption) ?resta1
  case hya1 => (intro w hSw; (try dsimp only at hSw); (try simp only [List.getElem_toArray, List.getElem_cons_zero, List.getElem_cons_succ]); go_simp; (try with_reducible rfl))
  (try simp only [Act.put, List.setIfInBounds_toArray, List.set_cons_zero, List.set_cons_succ, List.getElem_toArray, List.getElem_cons_zero, List.getElem_cons_succ])
  refine wpAnyH_take (i := 2) (oi := _) (v := ?va2) rfl (by kernel_rfl) (by kernel_rfl) (by kernel_rfl) (fun _ _ _ h => h) (Or.inl ⟨by rfl, ?hya2⟩) (by assumption) ?resta2
  case hya2 => (intro w hSw; (try dsimp only at hSw); (try simp only [List.getElem_toArray, List.getElem_cons_zero, List.getElem_cons_succ]); go_simp; (try with_reducible rfl))
  (try simp only [Act.put, List.setIfInBounds_toArray, List.set_cons_zero, List.set_cons_succ, List.getElem_toArray, List.getElem_cons_zero, List.getElem_cons_succ])
  refine wpAnyH_ready (rs := [3]) (by kernel_rfl) (by simp) ?_
  refine AllReadyH.cons (o := _) rfl (fun K hK => ?_) AllReadyH.nil
  (try simp only [List.getElem_toArray, List.getElem_cons_zero, List.getElem_cons_succ])
  go_simp
  refine (HRB.out _).mono ?_; rintro e V1 ⟨g1, c1, rfl, q1, q2, q3, -, -, -, hb⟩; have HBV1 : Hid (Below w3.heap.size w3 V1) := Lib.hid (HBV0.out.trans (hb.mono HBV0.out.size)); have HA1 := Lib.hid (q3.src q2); clear q1 q2 q3 hb; (try simp only [Scr.v])
  refine hK.out _ _ ?_ (fun hHeld => ?_)
  · exact HC.out _ HBV1.out
  clear hK K
  (try simp only [Act.put, List.setIfInBounds_toArray, List.set_cons_zero, List.set_cons_succ, List.getElem_toArray, List.getElem_cons_zero, List.getElem_cons_succ])
  refine wpAnyH_ready (rs := [4]) (by kernel_rfl) (by simp) ?_
  refine AllReadyH.cons (o := _) rfl (fun K hK => ?_) AllReadyH.nil
  (try simp only [List.getElem_toArray, List.getElem_cons_zero, List.getElem_cons_succ])
  go_simp
  refine (HSM.out _ (some ⟨g1, 0, none⟩) c1 (HW.out _ HBV1.out).1 HA1.out).mono ?_; rintro e V2 ⟨rfl, hb⟩; have HBV2 : Hid (Below w3.heap.size w3 V2) := Lib.hid (HBV1.out.trans (hb.mono HBV1.out.size)); clear hb
  refine hK.out _ _ ?_ (fun hHeld => ?_)
  · exact HC.out _ HBV2.out
  clear hK K
  (try simp only [Act.put, List.setIfInBounds_toArray, List.set_cons_zero, List.set_cons_succ, List.getElem_toArray, List.getElem_cons_zero, List.getElem_cons_succ])
  refine wpAnyH_take (i := 5) (oi := _) (v := ?va5) rfl (by kernel_rfl) (by kernel_rfl) (by kernel_rfl) (fun _ _ _ h => h) (Or.inl ⟨by rfl, ?hya5⟩) (by assumption) ?resta5
  case hya5 => (intro w hSw; (try dsimp only at hSw); (try simp only [List.getElem_toArray, List.getElem_cons_zero, List.getElem_cons_succ]); go_simp; (try with_reducible rfl))
  (try simp only [Act.put, List.setIfInBounds_toArray, List.set_cons_zero, List.set_cons_succ, List.getElem_toArray, List.getElem_cons_zero, List.getElem_cons_succ])
  refine wpAnyH_take (i := 6) (oi := _) (v := ?va6) rfl (by kernel_rfl) (by kernel_rfl) (by kernel_rfl) (fun _ _ _ h => h) (Or.inl ⟨by rfl, ?hya6⟩) (by assumption) ?resta6
  case hya6 => (intro w hSw; (try dsimp only at hSw); (try simp only [List.getElem_toArray, List.getElem_cons_zero, List.getElem_cons_succ]); go_simp; (try with_reducible rfl))
  (try simp only [Act.put, List.setIfInBounds_toArray, List.set_cons_zero, List.set_cons_succ, List.getElem_toArray, List.getElem_cons_zero, List.getElem_cons_succ])
  refine wpAnyH_ready (rs := [7]) (by kernel_rfl) (by simp) ?_
  refine AllReadyH.cons (o := _) rfl (fun K hK => ?_) AllReadyH.nil
  (try simp only [List.getElem_toArray, List.getElem_cons_zero, List.getElem_cons_succ])
  go_simp
  refine (HVA.out _ (HW.out _ HBV2.out).1).mono ?_; rintro e V3 ⟨rfl, hb⟩; have HBV3 : Hid (Below w3.heap.size w3 V3) := Lib.hid (HBV2.out.trans (hb.mono HBV2.out.size)); clear hb
  refine hK.out _ _ ?_ (fun hHeld => ?_)
  · exact HC.out _ HBV3.out
  clear hK K
  (try simp only [Act.put, List.setIfInBounds_toArray, List.set_cons_zero, List.set_cons_succ, List.getElem_toArray, List.getElem_cons_zero, List.getElem_cons_succ])
  refine wpAnyH_take (i := 8) (oi := _) (v := ?va8) rfl (by kernel_rfl) (by kernel_rfl) (by kernel_rfl) (fun _ _ _ h => h) (Or.inl ⟨by rfl, ?hya8⟩) (by assumption) ?resta8
  case hya8 => (intro w hSw; (try dsimp only at hSw); (try simp only [List.getElem_toArray, List.getElem_cons_zero, List.getElem_cons_succ]); go_simp; (try with_reducible rfl))
  (try simp only [Act.put, List.setIfInBounds_toArray, List.set_cons_zero, List.set_cons_succ, List.getElem_toArray, List.getElem_cons_zero, List.getElem_cons_succ])
  refine wpAnyH_take (i := 9) (oi := _) (v := ?va9) rfl (by kernel_rfl) (by kernel_rfl) (by kernel_rfl) (fun _ _ _ h => h) (Or.inl ⟨by rfl, ?hya9⟩) (by assumption) ?resta9
  case hya9 => (intro w hSw; (try dsimp only at hSw); (try simp only [List.getElem_toArray, List.getElem_cons_zero, List.getElem_cons_succ]); go_simp; (try with_reducible rfl))
  (try simp only [Act.put, List.setIfInBounds_toArray, List.set_cons_zero, List.set_cons_succ, List.getElem_toArray, List.getElem_cons_zero, List.getElem_cons_succ])
  refine wpAnyH_done (by kernel_rfl) ?_ _
  refine NoPanic.normal ?_
  go_wp2_with fail
  go_ret
  exact ⟨rfl, (HW.out _ HBV3.out).2⟩

end Go.Proofs.Ytgomnigchfmfhaa
