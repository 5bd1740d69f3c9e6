/- grid: the law's alive. Own work (rgn/XGridA.lean by rgn.py). -/
import Derived.Test.YtbjdcbnmpmcdiaaGridN
namespace Go.Proofs.Ytbjdcbnmpmcdiaa
set_option linter.unusedVariables false
set_option linter.unusedSimpArgs false
open Go.RowKit

theorem lies_block (w : World) (cs : Array Value) (t : TypeId) (f : Nat → CellM) (n : Nat) (h : cs.toList = flatF f n) : Lies (w.alloc (.cells cs t)) w.heap.size 0 n f := by
  refine ⟨fun k hk i v hv => ?_, fun j hj => free_at (heap_alloc_new w _) _⟩
  have hi := cellCs_lt hv
  rw [Nat.zero_add, cell_at (heap_alloc_new w _)]
  have : (flatF f n)[k * 6 + i]? = some v := by rw [flatF_at, show (k * 6 + i) / 6 = k from by omega, show (k * 6 + i) % 6 = i from by omega]; exact ⟨by omega, hv⟩
  rw [← h] at this
  simpa using this

def cA : CellM := ⟨97, .z⟩
def cX : CellM := ⟨120, .z⟩

def lA (k : Nat) : CellM := if k = 1 then cX else cA
def fA1 (k : Nat) : CellM := if 2 ≤ k ∧ k < 4 then lA (k - 2) else blankC
def fA2 (k : Nat) : CellM := frontF (fun i => fA1 (rowsA 2 0 + i)) (rowsN 2 2 0 2) (min (1 * 2) (rowsN 2 2 0 2)) cX k

theorem six_of {w : World} {q : Nat} {x : CellM} (h : w.heap[q]? = some (.cells (vcells x) 42 (0, 0))) (k : Nat) (u : Value) (hu : (vcells x)[k]? = some u) : w.cell? ⟨q, k, none⟩ = some u := (cell_at h k).trans hu

set_option maxRecDepth 100000 in
set_option maxHeartbeats 1600000 in
theorem alive_any (w : World) : Calls Try.prog 9 #[] w fun e w' => e = .returned (.bool true) ∧ Below w.heap.size w w' := by
  go_enter Try.func9, Try.ntmps9
  go_wp2_with fail
  refine (grid_new w 2 2 2 2 4 (by decide) (by decide) rfl).mono ?_
  rintro e w1 ⟨rfl, hG, hb⟩
  obtain ⟨g, hg⟩ : ∃ g, g = w.heap.size := ⟨_, rfl⟩
  rw [← hg] at hG
  have HGE := Lib.hid hg
  obtain ⟨w2, hw2⟩ : ∃ w2, w2 = (w1.alloc (.cells (vcells cA) 42)).alloc (.cells (vcells cX) 42) := ⟨_, rfl⟩
  have K12 : Keep (fun _ => False) w1 w2 := by rw [hw2]; exact ((Keep.refl _ w1).alloc _).alloc _
  have HG2 := Lib.hid (hG.keep K12 (fun y => y) (fun y => y))
  have HB2 : Hid (Below w.heap.size w w2) := Lib.hid (hb.trans (K12.below hb.size (fun k hk e => e.elim)))
  have hr1 : w2.heap[w1.heap.size]? = some (.cells (vcells cA) 42 (0, 0)) := by rw [hw2]; exact heap_alloc (heap_alloc_new w1 _) _
  have hr2 : w2.heap[w1.heap.size + 1]? = some (.cells (vcells cX) 42 (0, 0)) := by
    have := heap_alloc_new (w1.alloc (.cells (vcells cA) 42)) (.cells (vcells cX) 42)
    rw [show (w1.alloc (.cells (vcells cA) 42)).heap.size = w1.heap.size + 1 from by simp] at this
    rw [hw2]; exact this
  have hgl1 : g < w1.heap.size := hG.hg
  have hpl1 : g + 1 < w1.heap.size := hG.lt
  clear hG hb K12
  unfold vcells cA cX At.z at hw2
  dsimp only at hw2
  go_upto_region 5 with fail
  rw [← hw2, ← hg]
  obtain ⟨r, hr⟩ : ∃ r, r = w1.heap.size := ⟨_, rfl⟩
  rw [← hr] at hr1 hr2 hgl1 hpl1 ⊢
  clear hw2 hr hg
  have a0 := six_of hr1 0 _ rfl
  have x0 := six_of hr2 0 _ rfl
  have a1 := six_of hr1 1 _ rfl
  have x1 := six_of hr2 1 _ rfl
  have a2 := six_of hr1 2 _ rfl
  have x2 := six_of hr2 2 _ rfl
  have a3 := six_of hr1 3 _ rfl
  have x3 := six_of hr2 3 _ rfl
  have a4 := six_of hr1 4 _ rfl
  have x4 := six_of hr2 4 _ rfl
  have a5 := six_of hr1 5 _ rfl
  have x5 := six_of hr2 5 _ rfl
  have HR1 := Lib.hid hr1
  have HR2 := Lib.hid hr2
  have hr2l : r + 1 < w2.heap.size := lt_heap hr2
  clear hr1 hr2
  simp only [cA, cX, At.z] at a0 a1 a2 a3 a4 a5 x0 x1 x2 x3 x4 x5
  go_wp2_with fail
  refine (grid_set _ (g + 1) g 4 2 2 4 (fun _ => blankC) 0 1 _ 3 3 lA w2.heap.size 0 (HG2.out.keep ((Keep.refl (fun _ => False) w2).alloc _) (fun y => y) (fun y => y)) (fun _ => ⟨rfl, lies_block w2 _ _ lA 3 rfl, by simp⟩) (by omega) 2 (by decide)).mono ?_
  rintro e w3 ⟨rfl, hp3⟩
  have HG3 : Hid (GridAt w3 (g + 1) g 4 2 2 4 fA1) := Lib.hid ((HG2.out.keep ((Keep.refl (fun _ => False) w2).alloc _) (fun y => y) (fun y => y)).put (a := 2) (m := 2) hp3 (by omega))
  have K3 : Hid (Keep (· = g) w2 w3) := Lib.hid (((Keep.refl (· = g) w2).alloc _).trans hp3.keep (fun _ _ y => y))
  have HR13 := Lib.hid (K3.out.heap HR1.out (by omega))
  have HR23 := Lib.hid (K3.out.heap HR2.out (by omega))
  clear hp3 a0 a1 a2 a3 a4 a5 x0 x1 x2 x3 x4 x5
  have x0 := six_of HR23.out 0 _ rfl
  have x1 := six_of HR23.out 1 _ rfl
  have x2 := six_of HR23.out 2 _ rfl
  have x3 := six_of HR23.out 3 _ rfl
  have x4 := six_of HR23.out 4 _ rfl
  have x5 := six_of HR23.out 5 _ rfl
  simp only [cA, cX, At.z] at x0 x1 x2 x3 x4 x5
  go_wp2_with fail
  refine (grid_up w3 (g + 1) g 4 2 2 4 fA1 0 2 1 1 cX HG3.out (by decide)).mono ?_
  rintro e w4 ⟨rfl, hp4⟩
  have HG4 : Hid (GridAt w4 (g + 1) g 4 2 2 4 fA2) := Lib.hid ((HG3.out.put (a := 0) (m := 4) hp4 (by omega)).congr (fun k hk => by
    rw [if_pos (by omega)]; rfl))
  have K4 := Lib.hid hp4.keep
  have HR14 := Lib.hid (K4.out.heap HR13.out (by omega))
  have HR24 := Lib.hid (K4.out.heap HR23.out (by omega))
  have HB4 : Hid (Below w.heap.size w w4) := Lib.hid ((HB2.out.trans (K3.out.below HB2.out.size (fun k hk e => by have := HGE.out; omega))).trans (K4.out.below (by have := HB2.out.size; have := K3.out.size; omega) (fun k hk e => by have := HGE.out; omega)))
  clear hp4 x0 x1 x2 x3 x4 x5
  have HA00 : Hid (∀ V, Keep (fun _ => False) w4 V → Calls Try.prog 35 #[.pointer (some ⟨g + 1, 0, none⟩), .int .i64 0, .int .i64 0] V fun e w' => e = .returned (.agg #[.int .i32 97, .int .i64 0, .int .i64 0, .bool false, .bool false, .bool false]) ∧ Below V.heap.size V w') := Lib.hid (fun V k => by
    have := grid_at V (g + 1) g 4 2 2 4 fA2 0 0 (HG4.out.keep k (fun y => y) (fun y => y))
    rwa [show atF 2 2 fA2 0 0 = cA from by kernel_rfl] at this)
  have HA10 : Hid (∀ V, Keep (fun _ => False) w4 V → Calls Try.prog 35 #[.pointer (some ⟨g + 1, 0, none⟩), .int .i64 1, .int .i64 0] V fun e w' => e = .returned (.agg #[.int .i32 120, .int .i64 0, .int .i64 0, .bool false, .bool false, .bool false]) ∧ Below V.heap.size V w') := Lib.hid (fun V k => by
    have := grid_at V (g + 1) g 4 2 2 4 fA2 1 0 (HG4.out.keep k (fun y => y) (fun y => y))
    rwa [show atF 2 2 fA2 1 0 = cX from by kernel_rfl] at this)
  have HA01 : Hid (∀ V, Keep (fun _ => False) w4 V → Calls Try.prog 35 #[.pointer (some ⟨g + 1, 0, none⟩), .int .i64 0, .int .i64 1] V fun e w' => e = .returned (.agg #[.int .i32 120, .int .i64 0, .int .i64 0, .bool false, .bool false, .bool false]) ∧ Below V.heap.size V w') := Lib.hid (fun V k => by
    have := grid_at V (g + 1) g 4 2 2 4 fA2 0 1 (HG4.out.keep k (fun y => y) (fun y => y))
    rwa [show atF 2 2 fA2 0 1 = cX from by kernel_rfl] at this)
  have HW4 : Hid (∀ V, Keep (fun _ => False) w4 V → Calls Try.prog 33 #[.pointer (some ⟨g + 1, 0, none⟩)] V fun e w' => e = .returned (.int .i64 2) ∧ w' = V) := Lib.hid (fun V k => grid_W V (g + 1) g 4 2 2 4 fA2 (HG4.out.keep k (fun y => y) (fun y => y)))
  have HH4 : Hid (∀ V, Keep (fun _ => False) w4 V → Calls Try.prog 34 #[.pointer (some ⟨g + 1, 0, none⟩)] V fun e w' => e = .returned (.int .i64 2) ∧ w' = V) := Lib.hid (fun V k => grid_H V (g + 1) g 4 2 2 4 fA2 (HG4.out.keep k (fun y => y) (fun y => y)))
  have HS : Hid (∀ V, Keep (fun _ => False) w4 V → (V.cell? ⟨r, 0, none⟩ = some (.int .i32 97) ∧ V.cell? ⟨r, 1, none⟩ = some (.int .i64 0) ∧ V.cell? ⟨r, 2, none⟩ = some (.int .i64 0) ∧ V.cell? ⟨r, 3, none⟩ = some (.bool false) ∧ V.cell? ⟨r, 4, none⟩ = some (.bool false) ∧ V.cell? ⟨r, 5, none⟩ = some (.bool false)) ∧ (V.cell? ⟨r + 1, 0, none⟩ = some (.int .i32 120) ∧ V.cell? ⟨r + 1, 1, none⟩ = some (.int .i64 0) ∧ V.cell? ⟨r + 1, 2, none⟩ = some (.int .i64 0) ∧ V.cell? ⟨r + 1, 3, none⟩ = some (.bool false) ∧ V.cell? ⟨r + 1, 4, none⟩ = some (.bool false) ∧ V.cell? ⟨r + 1, 5, none⟩ = some (.bool false))) := Lib.hid (fun V k => by
    have h1 := k.heap HR14.out (fun y => y)
    have h2 := k.heap HR24.out (fun y => y)
    exact ⟨cells_six h1, cells_six h2⟩)
  go_wp2_with fail
  refine wp_region_noPanic ?_
  refine wp_region_held_drew (S := fun w' => (w'.cell? ⟨r, 0, none⟩ = some (.int .i32 97) ∧ w'.cell? ⟨r, 1, none⟩ = some (.int .i64 0) ∧ w'.cell? ⟨r, 2, none⟩ = some (.int .i64 0) ∧ w'.cell? ⟨r, 3, none⟩ = some (.bool false) ∧ w'.cell? ⟨r, 4, none⟩ = some (.bool false) ∧ w'.cell? ⟨r, 5, none⟩ = some (.bool false)) ∧ (w'.cell? ⟨r + 1, 0, none⟩ = some (.int .i32 120) ∧ w'.cell? ⟨r + 1, 1, none⟩ = some (.int .i64 0) ∧ w'.cell? ⟨r + 1, 2, none⟩ = some (.int .i64 0) ∧ w'.cell? ⟨r + 1, 3, none⟩ = some (.bool false) ∧ w'.cell? ⟨r + 1, 4, none⟩ = some (.bool false) ∧ w'.cell? ⟨r + 1, 5, none⟩ = some (.bool false))) (by kernel_rfl) (HS.out _ ((Keep.refl _ w4).drew)) (fun hHeld => ?_)
  refine wpAnyH_take (i := 0) (oi := _) (v := ?va0) rfl (by kernel_rfl) (by kernel_rfl) (by kernel_rfl) (fun _ _ _ h => h) (Or.inl ⟨by rfl, ?hya0⟩) (by assumption) ?resta0
  case hya0 => (intro w hSw; (try dsimp only at hSw); (try simp only [List.getElem_toArray, List.getElem_cons_zero, List.getElem_cons_succ]); go_simp; (try with_reducible rfl))
  (try simp only [Act.put, List.setIfInBounds_toArray, List.set_cons_zero, List.set_cons_succ, List.getElem_toArray, List.getElem_cons_zero, List.getElem_cons_succ])
  refine wpAnyH_take (i := 1) (oi := _) (v := ?va1) rfl (by kernel_rfl) (by kernel_rfl) (by kernel_rfl) (fun _ _ _ h => h) (Or.inl ⟨by rfl, ?hya1⟩) (by assumption) ?resta1
  case hya1 => (intro w hSw; (try dsimp only at hSw); (try simp only [List.getElem_toArray, List.getElem_cons_zero, List.getElem_cons_succ]); go_simp; (try with_reducible rfl))
  (try simp only [Act.put, List.setIfInBounds_toArray, List.set_cons_zero, List.set_cons_succ, List.getElem_toArray, List.getElem_cons_zero, List.getElem_cons_succ])
  refine wpAnyH_take (i := 2) (oi := _) (v := ?va2) rfl (by kernel_rfl) (by kernel_rfl) (by kernel_rfl) (fun _ _ _ h => h) (Or.inl ⟨by rfl, ?hya2⟩) (by assumption) ?resta2
  case hya2 => (intro w hSw; (try dsimp only at hSw); (try simp only [List.getElem_toArray, List.getElem_cons_zero, List.getElem_cons_succ]); go_simp; (try with_reducible rfl))
  (try simp only [Act.put, List.setIfInBounds_toArray, List.set_cons_zero, List.set_cons_succ, List.getElem_toArray, List.getElem_cons_zero, List.getElem_cons_succ])
  refine wpAnyH_take (i := 3) (oi := _) (v := ?va3) rfl (by kernel_rfl) (by kernel_rfl) (by kernel_rfl) (fun _ _ _ h => h) (Or.inl ⟨by rfl, ?hya3⟩) (by assumption) ?resta3
  case hya3 => (intro w hSw; (try dsimp only at hSw); (try simp only [List.getElem_toArray, List.getElem_cons_zero, List.getElem_cons_succ]); go_simp; (try with_reducible rfl))
  (try simp only [Act.put, List.setIfInBounds_toArray, List.set_cons_zero, List.set_cons_succ, List.getElem_toArray, List.getElem_cons_zero, List.getElem_cons_succ])
  refine wpAnyH_take (i := 5) (oi := _) (v := ?va5) rfl (by kernel_rfl) (by kernel_rfl) (by kernel_rfl) (fun _ _ _ h => h) (Or.inl ⟨by rfl, ?hya5⟩) (by assumption) ?resta5
  case hya5 => (intro w hSw; (try dsimp only at hSw); (try simp only [List.getElem_toArray, List.getElem_cons_zero, List.getElem_cons_succ]); go_simp; (try with_reducible rfl))
  (try simp only [Act.put, List.setIfInBounds_toArray, List.set_cons_zero, List.set_cons_succ, List.getElem_toArray, List.getElem_cons_zero, List.getElem_cons_succ])
  refine wpAnyH_ready (rs := [4]) (by kernel_rfl) (by simp) ?_
  refine AllReadyH.cons (o := _) rfl (fun K hK => ?_) AllReadyH.nil
  (try simp only [List.getElem_toArray, List.getElem_cons_zero, List.getElem_cons_succ])
  go_simp
  refine (HA00.out _ ((Keep.refl _ w4).drew)).mono ?_; rintro e v5 ⟨rfl, hb⟩; have K5 : Hid (Keep (fun _ => False) w4 v5) := Lib.hid (((Keep.refl _ w4).drew).trans (Keep.of_below _ hb) (fun _ _ y => y)); clear hb
  refine hK.out _ _ ?_ (fun hHeld => ?_)
  · exact HS.out _ K5.out
  clear hK K
  (try simp only [Act.put, List.setIfInBounds_toArray, List.set_cons_zero, List.set_cons_succ, List.getElem_toArray, List.getElem_cons_zero, List.getElem_cons_succ])
  refine wpAnyH_take (i := 6) (oi := _) (v := ?va6) rfl (by kernel_rfl) (by kernel_rfl) (by kernel_rfl) (fun _ _ _ h => h) (Or.inl ⟨by rfl, ?hya6⟩) (by assumption) ?resta6
  case hya6 => (intro w hSw; (try dsimp only at hSw); (try simp only [List.getElem_toArray, List.getElem_cons_zero, List.getElem_cons_succ]); go_simp; (try with_reducible rfl))
  (try simp only [Act.put, List.setIfInBounds_toArray, List.set_cons_zero, List.set_cons_succ, List.getElem_toArray, List.getElem_cons_zero, List.getElem_cons_succ])
  refine wpAnyH_take (i := 7) (oi := _) (v := ?va7) rfl (by kernel_rfl) (by kernel_rfl) (by kernel_rfl) (fun _ _ _ h => h) (Or.inl ⟨by rfl, ?hya7⟩) (by assumption) ?resta7
  case hya7 => (intro w hSw; (try dsimp only at hSw); (try simp only [List.getElem_toArray, List.getElem_cons_zero, List.getElem_cons_succ]); go_simp; (try with_reducible rfl))
  (try simp only [Act.put, List.setIfInBounds_toArray, List.set_cons_zero, List.set_cons_succ, List.getElem_toArray, List.getElem_cons_zero, List.getElem_cons_succ])
  refine wpAnyH_take (i := 8) (oi := _) (v := ?va8) rfl (by kernel_rfl) (by kernel_rfl) (by kernel_rfl) (fun _ _ _ h => h) (Or.inl ⟨by rfl, ?hya8⟩) (by assumption) ?resta8
  case hya8 => (intro w hSw; (try dsimp only at hSw); (try simp only [List.getElem_toArray, List.getElem_cons_zero, List.getElem_cons_succ]); go_simp; (try with_reducible rfl))
  (try simp only [Act.put, List.setIfInBounds_toArray, List.set_cons_zero, List.set_cons_succ, List.getElem_toArray, List.getElem_cons_zero, List.getElem_cons_succ])
  refine wpAnyH_take (i := 9) (oi := _) (v := ?va9) rfl (by kernel_rfl) (by kernel_rfl) (by kernel_rfl) (fun _ _ _ h => h) (Or.inl ⟨by rfl, ?hya9⟩) (by assumption) ?resta9
  case hya9 => (intro w hSw; (try dsimp only at hSw); (try simp only [List.getElem_toArray, List.getElem_cons_zero, List.getElem_cons_succ]); go_simp; (try with_reducible rfl))
  (try simp only [Act.put, List.setIfInBounds_toArray, List.set_cons_zero, List.set_cons_succ, List.getElem_toArray, List.getElem_cons_zero, List.getElem_cons_succ])
  refine wpAnyH_take (i := 11) (oi := _) (v := ?va11) rfl (by kernel_rfl) (by kernel_rfl) (by kernel_rfl) (fun _ _ _ h => h) (Or.inl ⟨by rfl, ?hya11⟩) (by assumption) ?resta11
  case hya11 => (intro w hSw; (try dsimp only at hSw); (try simp only [List.getElem_toArray, List.getElem_cons_zero, List.getElem_cons_succ]); go_simp; (try with_reducible rfl))
  (try simp only [Act.put, List.setIfInBounds_toArray, List.set_cons_zero, List.set_cons_succ, List.getElem_toArray, List.getElem_cons_zero, List.getElem_cons_succ])
  refine wpAnyH_ready (rs := [10]) (by kernel_rfl) (by simp) ?_
  refine AllReadyH.cons (o := _) rfl (fun K hK => ?_) AllReadyH.nil
  (try simp only [List.getElem_toArray, List.getElem_cons_zero, List.getElem_cons_succ])
  go_simp
  refine (HA10.out _ (K5.out)).mono ?_; rintro e v6 ⟨rfl, hb⟩; have K6 : Hid (Keep (fun _ => False) w4 v6) := Lib.hid ((K5.out).trans (Keep.of_below _ hb) (fun _ _ y => y)); clear hb
  refine hK.out _ _ ?_ (fun hHeld => ?_)
  · exact HS.out _ K6.out
  clear hK K
  (try simp only [Act.put, List.setIfInBounds_toArray, List.set_cons_zero, List.set_cons_succ, List.getElem_toArray, List.getElem_cons_zero, List.getElem_cons_succ])
  refine wpAnyH_take (i := 12) (oi := _) (v := ?va12) rfl (by kernel_rfl) (by kernel_rfl) (by kernel_rfl) (fun _ _ _ h => h) (Or.inl ⟨by rfl, ?hya12⟩) (by assumption) ?resta12
  case hya12 => (intro w hSw; (try dsimp only at hSw); (try simp only [List.getElem_toArray, List.getElem_cons_zero, List.getElem_cons_succ]); go_simp; (try with_reducible rfl))
  (try simp only [Act.put, List.setIfInBounds_toArray, List.set_cons_zero, List.set_cons_succ, List.getElem_toArray, List.getElem_cons_zero, List.getElem_cons_succ])
  refine wpAnyH_take (i := 13) (oi := _) (v := ?va13) rfl (by kernel_rfl) (by kernel_rfl) (by kernel_rfl) (fun _ _ _ h => h) (Or.inl ⟨by rfl, ?hya13⟩) (by assumption) ?resta13
  case hya13 => (intro w hSw; (try dsimp only at hSw); (try simp only [List.getElem_toArray, List.getElem_cons_zero, List.getElem_cons_succ]); go_simp; (try with_reducible rfl))
  (try simp only [Act.put, List.setIfInBounds_toArray, List.set_cons_zero, List.set_cons_succ, List.getElem_toArray, List.getElem_cons_zero, List.getElem_cons_succ])
  refine wpAnyH_take (i := 14) (oi := _) (v := ?va14) rfl (by kernel_rfl) (by kernel_rfl) (by kernel_rfl) (fun _ _ _ h => h) (Or.inl ⟨by rfl, ?hya14⟩) (by assumption) ?resta14
  case hya14 => (intro w hSw; (try dsimp only at hSw); (try simp only [List.getElem_toArray, List.getElem_cons_zero, List.getElem_cons_succ]); go_simp; (try with_reducible rfl))
  (try simp only [Act.put, List.setIfInBounds_toArray, List.set_cons_zero, List.set_cons_succ, List.getElem_toArray, List.getElem_cons_zero, List.getElem_cons_succ])
  refine wpAnyH_take (i := 15) (oi := _) (v := ?va15) rfl (by kernel_rfl) (by kernel_rfl) (by kernel_rfl) (fun _ _ _ h => h) (Or.inl ⟨by rfl, ?hya15⟩) (by assumption) ?resta15
  case hya15 => (intro w hSw; (try dsimp only at hSw); (try simp only [List.getElem_toArray, List.getElem_cons_zero, List.getElem_cons_succ]); go_simp; (try with_reducible rfl))
  (try simp only [Act.put, List.setIfInBounds_toArray, List.set_cons_zero, List.set_cons_succ, List.getElem_toArray, List.getElem_cons_zero, List.getElem_cons_succ])
  refine wpAnyH_take (i := 17) (oi := _) (v := ?va17) rfl (by kernel_rfl) (by kernel_rfl) (by kernel_rfl) (fun _ _ _ h => h) (Or.inl ⟨by rfl, ?hya17⟩) (by assumption) ?resta17
  case hya17 => (intro w hSw; (try dsimp only at hSw); (try simp only [List.getElem_toArray, List.getElem_cons_zero, List.getElem_cons_succ]); go_simp; (try with_reducible rfl))
  (try simp only [Act.put, List.setIfInBounds_toArray, List.set_cons_zero, List.set_cons_succ, List.getElem_toArray, List.getElem_cons_zero, List.getElem_cons_succ])
  refine wpAnyH_ready (rs := [16]) (by kernel_rfl) (by simp) ?_
  refine AllReadyH.cons (o := _) rfl (fun K hK => ?_) AllReadyH.nil
  (try simp only [List.getElem_toArray, List.getElem_cons_zero, List.getElem_cons_succ])
  go_simp
  refine (HA01.out _ (K6.out)).mono ?_; rintro e v7 ⟨rfl, hb⟩; have K7 : Hid (Keep (fun _ => False) w4 v7) := Lib.hid ((K6.out).trans (Keep.of_below _ hb) (fun _ _ y => y)); clear hb
  refine hK.out _ _ ?_ (fun hHeld => ?_)
  · exact HS.out _ K7.out
  clear hK K
  (try simp only [Act.put, List.setIfInBounds_toArray, List.set_cons_zero, List.set_cons_succ, List.getElem_toArray, List.getElem_cons_zero, List.getElem_cons_succ])
  refine wpAnyH_take (i := 18) (oi := _) (v := ?va18) rfl (by kernel_rfl) (by kernel_rfl) (by kernel_rfl) (fun _ _ _ h => h) (Or.inl ⟨by rfl, ?hya18⟩) (by assumption) ?resta18
  case hya18 => (intro w hSw; (try dsimp only at hSw); (try simp only [List.getElem_toArray, List.getElem_cons_zero, List.getElem_cons_succ]); go_simp; (try with_reducible rfl))
  (try simp only [Act.put, List.setIfInBounds_toArray, List.set_cons_zero, List.set_cons_succ, List.getElem_toArray, List.getElem_cons_zero, List.getElem_cons_succ])
  refine wpAnyH_take (i := 19) (oi := _) (v := ?va19) rfl (by kernel_rfl) (by kernel_rfl) (by kernel_rfl) (fun _ _ _ h => h) (Or.inl ⟨by rfl, ?hya19⟩) (by assumption) ?resta19
  case hya19 => (intro w hSw; (try dsimp only at hSw); (try simp only [List.getElem_toArray, List.getElem_cons_zero, List.getElem_cons_succ]); go_simp; (try with_reducible rfl))
  (try simp only [Act.put, List.setIfInBounds_toArray, List.set_cons_zero, List.set_cons_succ, List.getElem_toArray, List.getElem_cons_zero, List.getElem_cons_succ])
  refine wpAnyH_take (i := 20) (oi := _) (v := ?va20) rfl (by kernel_rfl) (by kernel_rfl) (by kernel_rfl) (fun _ _ _ h => h) (Or.inl ⟨by rfl, ?hya20⟩) (by assumption) ?resta20
  case hya20 => (intro w hSw; (try dsimp only at hSw); (try simp only [List.getElem_toArray, List.getElem_cons_zero, List.getElem_cons_succ]); go_simp; (try with_reducible rfl))
  (try simp only [Act.put, List.setIfInBounds_toArray, List.set_cons_zero, List.set_cons_succ, List.getElem_toArray, List.getElem_cons_zero, List.getElem_cons_succ])
  refine wpAnyH_take (i := 21) (oi := _) (v := ?va21) rfl (by kernel_rfl) (by kernel_rfl) (by kernel_rfl) (fun _ _ _ h => h) (Or.inl ⟨by rfl, ?hya21⟩) (by assumption) ?resta21
  case hya21 => (intro w hSw; (try dsimp only at hSw); (try simp only [List.getElem_toArray, List.getElem_cons_zero, List.getElem_cons_succ]); go_simp; (try with_reducible rfl))
  (try simp only [Act.put, List.setIfInBounds_toArray, List.set_cons_zero, List.set_cons_succ, List.getElem_toArray, List.getElem_cons_zero, List.getElem_cons_succ])
  refine wpAnyH_ready (rs := [22]) (by kernel_rfl) (by simp) ?_
  refine AllReadyH.cons (o := _) rfl (fun K hK => ?_) AllReadyH.nil
  (try simp only [List.getElem_toArray, List.getElem_cons_zero, List.getElem_cons_succ])
  go_simp
  refine (HW4.out _ K7.out).mono ?_; rintro e v8 ⟨rfl, rfl⟩
  refine hK.out _ _ ?_ (fun hHeld => ?_)
  · exact HS.out _ K7.out
  clear hK K
  (try simp only [Act.put, List.setIfInBounds_toArray, List.set_cons_zero, List.set_cons_succ, List.getElem_toArray, List.getElem_cons_zero, List.getElem_cons_succ])
  refine wpAnyH_take (i := 23) (oi := _) (v := ?va23) rfl (by kernel_rfl) (by kernel_rfl) (by kernel_rfl) (fun _ _ _ h => h) (Or.inl ⟨by rfl, ?hya23⟩) (by assumption) ?resta23
  case hya23 => (intro w hSw; (try dsimp only at hSw); (try simp only [List.getElem_toArray, List.getElem_cons_zero, List.getElem_cons_succ]); go_simp; (try with_reducible rfl))
  (try simp only [Act.put, List.setIfInBounds_toArray, List.set_cons_zero, List.set_cons_succ, List.getElem_toArray, List.getElem_cons_zero, List.getElem_cons_succ])
  refine wpAnyH_take (i := 24) (oi := _) (v := ?va24) rfl (by kernel_rfl) (by kernel_rfl) (by kernel_rfl) (fun _ _ _ h => h) (Or.inl ⟨by rfl, ?hya24⟩) (by assumption) ?resta24
  case hya24 => (intro w hSw; (try dsimp only at hSw); (try simp only [List.getElem_toArray, List.getElem_cons_zero, List.getElem_cons_succ]); go_simp; (try with_reducible rfl))
  (try simp only [Act.put, List.setIfInBounds_toArray, List.set_cons_zero, List.set_cons_succ, List.getElem_toArray, List.getElem_cons_zero, List.getElem_cons_succ])
  refine wpAnyH_take (i := 25) (oi := _) (v := ?va25) rfl (by kernel_rfl) (by kernel_rfl) (by kernel_rfl) (fun _ _ _ h => h) (Or.inl ⟨by rfl, ?hya25⟩) (by assumption) ?resta25
  case hya25 => (intro w hSw; (try dsimp only at hSw); (try simp only [List.getElem_toArray, List.getElem_cons_zero, List.getElem_cons_succ]); go_simp; (try with_reducible rfl))
  (try simp only [Act.put, List.setIfInBounds_toArray, List.set_cons_zero, List.set_cons_succ, List.getElem_toArray, List.getElem_cons_zero, List.getElem_cons_succ])
  refine wpAnyH_take (i := 26) (oi := _) (v := ?va26) rfl (by kernel_rfl) (by kernel_rfl) (by kernel_rfl) (fun _ _ _ h => h) (Or.inl ⟨by rfl, ?hya26⟩) (by assumption) ?resta26
  case hya26 => (intro w hSw; (try dsimp only at hSw); (try simp only [List.getElem_toArray, List.getElem_cons_zero, List.getElem_cons_succ]); go_simp; (try with_reducible rfl))
  (try simp only [Act.put, List.setIfInBounds_toArray, List.set_cons_zero, List.set_cons_succ, List.getElem_toArray, List.getElem_cons_zero, List.getElem_cons_succ])
  refine wpAnyH_ready (rs := [27]) (by kernel_rfl) (by simp) ?_
  refine AllReadyH.cons (o := _) rfl (fun K hK => ?_) AllReadyH.nil
  (try simp only [List.getElem_toArray, List.getElem_cons_zero, List.getElem_cons_succ])
  go_simp
  refine (HH4.out _ K7.out).mono ?_; rintro e v9 ⟨rfl, rfl⟩
  refine hK.out _ _ ?_ (fun hHeld => ?_)
  · exact HS.out _ K7.out
  clear hK K
  (try simp only [Act.put, List.setIfInBounds_toArray, List.set_cons_zero, List.set_cons_succ, List.getElem_toArray, List.getElem_cons_zero, List.getElem_cons_succ])
  refine wpAnyH_take (i := 28) (oi := _) (v := ?va28) rfl (by kernel_rfl) (by kernel_rfl) (by kernel_rfl) (fun _ _ _ h => h) (Or.inl ⟨by rfl, ?hya28⟩) (by assumption) ?resta28
  case hya28 => (intro w hSw; (try dsimp only at hSw); (try simp only [List.getElem_toArray, List.getElem_cons_zero, List.getElem_cons_succ]); go_simp; (try with_reducible rfl))
  (try simp only [Act.put, List.setIfInBounds_toArray, List.set_cons_zero, List.set_cons_succ, List.getElem_toArray, List.getElem_cons_zero, List.getElem_cons_succ])
  refine wpAnyH_take (i := 29) (oi := _) (v := ?va29) rfl (by kernel_rfl) (by kernel_rfl) (by kernel_rfl) (fun _ _ _ h => h) (Or.inl ⟨by rfl, ?hya29⟩) (by assumption) ?resta29
  case hya29 => (intro w hSw; (try dsimp only at hSw); (try simp only [List.getElem_toArray, List.getElem_cons_zero, List.getElem_cons_succ]); go_simp; (try with_reducible rfl))
  (try simp only [Act.put, List.setIfInBounds_toArray, List.set_cons_zero, List.set_cons_succ, List.getElem_toArray, List.getElem_cons_zero, List.getElem_cons_succ])
  refine wpAnyH_take (i := 30) (oi := _) (v := ?va30) rfl (by kernel_rfl) (by kernel_rfl) (by kernel_rfl) (fun _ _ _ h => h) (Or.inl ⟨by rfl, ?hya30⟩) (by assumption) ?resta30
  case hya30 => (intro w hSw; (try dsimp only at hSw); (try simp only [List.getElem_toArray, List.getElem_cons_zero, List.getElem_cons_succ]); go_simp; (try with_reducible rfl))
  (try simp only [Act.put, List.setIfInBounds_toArray, List.set_cons_zero, List.set_cons_succ, List.getElem_toArray, List.getElem_cons_zero, List.getElem_cons_succ])
  refine wpAnyH_done (by kernel_rfl) ?_ _
  refine NoPanic.normal ?_
  go_wp2_with fail
  go_ret
  exact ⟨rfl, HB4.out.trans (K7.out.below HB4.out.size (fun k hk e => e.elim))⟩

end Go.Proofs.Ytbjdcbnmpmcdiaa
