/- grid: slices.Clone of cells, Cells, Copy, Size. Own work (rgn/XGridC.lean by rgn.py). -/
import Derived.Test.YtbjdcbnmpmcdiaaGridN
namespace Go.Proofs.Ytbjdcbnmpmcdiaa
set_option linter.unusedVariables false
set_option linter.unusedSimpArgs false
open Go.RowKit

/-- A list of its own. -/
def CloneTo (n : Nat) (f : Nat → CellM) (w : World) (e : Ending) (w' : World) : Prop :=
  ∃ g' c', e = .returned (.slice (some ⟨g', 0, none⟩) n c') ∧ w.heap.size ≤ g' ∧ g' < w'.heap.size ∧ Lies w' g' 0 n f ∧ n ≤ c' ∧ c' ≤ 9223372036854775807 ∧ w'.ownsRow w.heap.size 42 6 (.slice (some ⟨g', 0, none⟩) n c') n (flatF f n) ∧ Below w.heap.size w w'

theorem own_lies {w : World} {B n c : Nat} {A : Option Addr} {f : Nat → CellM} (h : w.ownsRow B 42 6 (.slice A n c) n (flatF f n)) (h0 : 0 < n) :
    ∃ g, A = some ⟨g, 0, none⟩ ∧ B ≤ g ∧ g < w.heap.size ∧ Lies w g 0 n f ∧ n ≤ c ∧ c ≤ 9223372036854775807 := by
  rcases h.2 with ⟨h1, h2⟩ | ⟨g, cap, cur, h1, hB, hg, q1, q2, q3, q4⟩
  · injection h1 with hA hn hc
    omega
  · injection h1 with hA hn hc
    subst hA hc
    refine ⟨g, rfl, hB, lt_heap hg, ⟨fun k hk i v hv => ?_, fun j hj => free_at hg _⟩, q1, by unfold maxLen at q2; omega⟩
    have hi := cellCs_lt hv
    rw [Nat.zero_add, cell_at hg]
    have e : (flatF f n)[k * 6 + i]? = some v := by rw [flatF_at, show (k * 6 + i) / 6 = k from by omega, show (k * 6 + i) % 6 = i from by omega]; exact ⟨by omega, hv⟩
    rw [← q4, List.getElem?_take_of_lt (by omega)] at e
    simpa using e

theorem own_empty (w : World) (e : TypeId) (z : Nat) : (w.alloc (.cells #[] e)).ownsRow w.heap.size e z (.slice (some ⟨w.heap.size, 0, none⟩) 0 0) 0 [] :=
  ⟨by simp, .inr ⟨w.heap.size, 0, #[], rfl, Nat.le_refl _, heap_alloc_new w _, Nat.le_refl _, by unfold maxLen; omega, by simp, by simp⟩⟩

set_option maxRecDepth 100000 in
set_option maxHeartbeats 1600000 in
theorem clone_cells (w : World) (g o n c : Nat) (f : Nat → CellM) (h : Lies w g o n f) (h0 : 0 < n) (hn : n ≤ 100000) :
    Calls Try.prog 56 #[.slice (some ⟨g, o, none⟩) n c] w (CloneTo n f w) := by
  obtain ⟨i0, hi0, hz0, hz1, hz2⟩ := info_parts cell_row
  have hL := Lib.hid (h.keep (S := fun _ => False) (h.lt h0) ((Keep.refl _ w).alloc (.cells #[] 42)) (fun y => y))
  have heq := fun (V : World) => Lib.run_eql_slice_nil (P := Try.prog) V 43 42 (some ⟨g, o, none⟩) n c 0 0 Try.underlying43
  clear h
  go_enter Try.func56, Try.ntmps56
  go_wp2_with (at_builtin; refine wpList_own_at _ rfl (.tmp 5) (.tmp 6) 43 rfl w.heap.size 42 i0 _ 6 32 Try.underlying43 hi0 hz0 hz1 hz2 rfl (by decide) _ 0 [] rfl (own_empty w _ 6) ⟨g, o, none⟩ n c (flatF f n) rfl (flatF_len f n) ?c1 (flatF_one f n) ?c3 ?c4 ?c5 ?_)
  case c1 => intro j u hu; rw [add_mk]; exact hL.out.cells j u hu
  case c3 => unfold maxLen; omega
  case c4 => omega
  case c5 => simp
  intro v1 w1 hown hk hat
  obtain ⟨A1, c1, rfl, -⟩ := own_form hown
  have hown' : w1.ownsRow w.heap.size 42 6 (.slice A1 n c1) n (flatF f n) := by
    simpa using hown
  obtain ⟨g1, rfl, q1, q2, q3, q4, q5⟩ := own_lies hown' h0
  have HB : Hid (Below w.heap.size w w1) := Lib.hid (((Below.refl _ w).alloc (Nat.le_refl _) _).trans (hk.below (by simp) (fun k hk e => by simp [Value.ownBlock] at e; omega)))
  have HQ := Lib.hid q3
  have HO := Lib.hid hown'
  clear hown hk hat q3 hown'
  go_wp2_with fail
  go_ret
  exact ⟨g1, c1, by first | rfl | simp, q1, q2, HQ.out, q4, q5, HO.out, HB.out⟩

set_option maxRecDepth 100000 in
set_option maxHeartbeats 1600000 in
theorem grid_cells (w : World) (p g c W H n : Nat) (f : Nat → CellM) (h : GridAt w p g c W H n f) :
    Calls Try.prog 28 #[.pointer (some ⟨p, 0, none⟩)] w (CloneTo n f w) := by
  have hH := Lib.hid (grid_H w p g c W H n f h)
  have e1 : rowsA W 0 = 0 := by unfold rowsA; rw [show (max (0 : Int) 0).toNat = 0 from rfl, Nat.zero_mul]
  have e2 : rowsN W H 0 H = n := by unfold rowsN; rw [show (min (H : Int) (H : Int) - max 0 0).toNat = H from by omega, h.hn, Nat.mul_comm]
  have hR := Lib.hid (by have := grid_rows w p g c W H n f 0 H h; rwa [e1, e2] at this)
  have hn := h.n800
  have HL := Lib.hid h.l
  have HG := Lib.hid h.hg
  have hni : (n : Int) ≤ 800 := by omega
  have hn0 : 0 < n := by omega
  clear h e1 e2 hn
  go_enter Try.func28, Try.ntmps28
  go_wp2_with fail
  refine hH.out.mono ?_
  rintro e w1 ⟨rfl, rfl⟩
  go_wp2_with fail
  refine hR.out.mono ?_
  rintro e w2 ⟨⟨k, rfl⟩, ⟨hz, rfl⟩ | ⟨hz, rfl⟩⟩
  · exact absurd hz (by omega)
  · clear hz
    go_wp2_with fail
    refine (clone_cells (w1.drewN k) g 0 n c f (⟨HL.out.val, HL.out.can⟩) hn0 (by omega)).mono ?_
    rintro e w3 ⟨g', c', rfl, q1, q2, q3, q4, q5, q6, q7⟩
    have HT := Lib.hid (show CloneTo n f w1 (.returned (.slice (some ⟨g', 0, none⟩) n c')) w3 from ⟨g', c', rfl, q1, q2, q3, q4, q5, q6, ⟨q7.os, q7.tape, q7.output, q7.size, q7.block⟩⟩)
    clear q1 q2 q3 q4 q5 q6 q7
    go_wp2_with fail
    go_ret
    exact HT.out

/-- Behind Copy. -/
def CopyTo (W H n : Nat) (f : Nat → CellM) (w : World) (e : Ending) (w' : World) : Prop :=
  ∃ p' g' c', e = .returned (.pointer (some ⟨p', 0, none⟩)) ∧ w.heap.size ≤ g' ∧ w.heap.size ≤ p' ∧ GridAt w' p' g' c' W H n f ∧ Below w.heap.size w w'

set_option maxRecDepth 100000 in
set_option maxHeartbeats 1600000 in
theorem grid_copy (w : World) (p g c W H n : Nat) (f : Nat → CellM) (h : GridAt w p g c W H n f) :
    Calls Try.prog 27 #[.pointer (some ⟨p, 0, none⟩)] w (CopyTo W H n f w) := by
  have hW := Lib.hid (grid_W w p g c W H n f h)
  have HG := Lib.hid h
  have HC : Hid (∀ V, Keep (fun _ => False) w V → Calls Try.prog 28 #[.pointer (some ⟨p, 0, none⟩)] V (CloneTo n f V)) := Lib.hid (fun V k => grid_cells V p g c W H n f (HG.out.keep k (fun y => y) (fun y => y)))
  have hw0 : ((W : Int) == 0) = false := by have := h.hw; simp; omega
  have HS : Hid (∀ V, Keep (fun _ => False) w V → V.cell? ⟨p, 0, none⟩ = some (.int .i64 (W : Int)) ∧ V.cell? ⟨p, 1, none⟩ = some (.int .i64 (H : Int))) := Lib.hid (fun V k => ⟨(HG.out.cw.keep k (fun y => y)).1, (HG.out.ch.keep k (fun y => y)).1⟩)
  clear h
  go_enter Try.func27, Try.ntmps27
  go_wp2_with fail
  refine hW.out.mono ?_
  rintro e w1 ⟨rfl, rfl⟩
  go_wp2_with fail
  refine wp_region_noPanic ?_
  refine wp_region_held_drew (S := fun w' => w'.cell? ⟨p, 0, none⟩ = some (.int .i64 (W : Int)) ∧ w'.cell? ⟨p, 1, none⟩ = some (.int .i64 (H : Int))) (by kernel_rfl) (HS.out _ ((Keep.refl _ w1).drew)) (fun hHeld => ?_)
  refine wpAnyH_take (i := 0) (oi := _) (v := ?va0) rfl (by kernel_rfl) (by kernel_rfl) (by kernel_rfl) (fun _ _ _ h => h) (Or.inl ⟨by rfl, ?hya0⟩) (by assumption) ?resta0
  case hya0 => (intro w hSw; (try dsimp only at hSw); (try simp only [List.getElem_toArray, List.getElem_cons_zero, List.getElem_cons_succ]); go_simp; (try with_reducible rfl))
  (try simp only [Act.put, List.setIfInBounds_toArray, List.set_cons_zero, List.set_cons_succ, List.getElem_toArray, List.getElem_cons_zero, List.getElem_cons_succ])
  refine wpAnyH_take (i := 1) (oi := _) (v := ?va1) rfl (by kernel_rfl) (by kernel_rfl) (by kernel_rfl) (fun _ _ _ h => h) (Or.inl ⟨by rfl, ?hya1⟩) (by assumption) ?resta1
  case hya1 => (intro w hSw; (try dsimp only at hSw); (try simp only [List.getElem_toArray, List.getElem_cons_zero, List.getElem_cons_succ]); go_simp; (try with_reducible rfl))
  (try simp only [Act.put, List.setIfInBounds_toArray, List.set_cons_zero, List.set_cons_succ, List.getElem_toArray, List.getElem_cons_zero, List.getElem_cons_succ])
  refine wpAnyH_take (i := 2) (oi := _) (v := ?va2) rfl (by kernel_rfl) (by kernel_rfl) (by kernel_rfl) (fun _ _ _ h => h) (Or.inl ⟨by rfl, ?hya2⟩) (by assumption) ?resta2
  case hya2 => (intro w hSw; (try dsimp only at hSw); (try simp only [List.getElem_toArray, List.getElem_cons_zero, List.getElem_cons_succ]); go_simp; (try with_reducible rfl))
  (try simp only [Act.put, List.setIfInBounds_toArray, List.set_cons_zero, List.set_cons_succ, List.getElem_toArray, List.getElem_cons_zero, List.getElem_cons_succ])
  refine wpAnyH_take (i := 3) (oi := _) (v := ?va3) rfl (by kernel_rfl) (by kernel_rfl) (by kernel_rfl) (fun _ _ _ h => h) (Or.inl ⟨by rfl, ?hya3⟩) (by assumption) ?resta3
  case hya3 => (intro w hSw; (try dsimp only at hSw); (try simp only [List.getElem_toArray, List.getElem_cons_zero, List.getElem_cons_succ]); go_simp; (try with_reducible rfl))
  (try simp only [Act.put, List.setIfInBounds_toArray, List.set_cons_zero, List.set_cons_succ, List.getElem_toArray, List.getElem_cons_zero, List.getElem_cons_succ])
  refine wpAnyH_take (i := 4) (oi := _) (v := ?va4) rfl (by kernel_rfl) (by kernel_rfl) (by kernel_rfl) (fun _ _ _ h => h) (Or.inl ⟨by rfl, ?hya4⟩) (by assumption) ?resta4
  case hya4 => (intro w hSw; (try dsimp only at hSw); (try simp only [List.getElem_toArray, List.getElem_cons_zero, List.getElem_cons_succ]); go_simp; (try with_reducible rfl))
  (try simp only [Act.put, List.setIfInBounds_toArray, List.set_cons_zero, List.set_cons_succ, List.getElem_toArray, List.getElem_cons_zero, List.getElem_cons_succ])
  refine wpAnyH_take (i := 5) (oi := _) (v := ?va5) rfl (by kernel_rfl) (by kernel_rfl) (by kernel_rfl) (fun _ _ _ h => h) (Or.inl ⟨by rfl, ?hya5⟩) (by assumption) ?resta5
  case hya5 => (intro w hSw; (try dsimp only at hSw); (try simp only [List.getElem_toArray, List.getElem_cons_zero, List.getElem_cons_succ]); go_simp; (try with_reducible rfl))
  (try simp only [Act.put, List.setIfInBounds_toArray, List.set_cons_zero, List.set_cons_succ, List.getElem_toArray, List.getElem_cons_zero, List.getElem_cons_succ])
  refine wpAnyH_take (i := 6) (oi := _) (v := ?va6) rfl (by kernel_rfl) (by kernel_rfl) (by kernel_rfl) (fun _ _ _ h => h) (Or.inl ⟨by rfl, ?hya6⟩) (by assumption) ?resta6
  case hya6 => (intro w hSw; (try dsimp only at hSw); (try simp only [List.getElem_toArray, List.getElem_cons_zero, List.getElem_cons_succ]); go_simp; (try with_reducible rfl))
  (try simp only [Act.put, List.setIfInBounds_toArray, List.set_cons_zero, List.set_cons_succ, List.getElem_toArray, List.getElem_cons_zero, List.getElem_cons_succ])
  refine wpAnyH_take (i := 7) (oi := _) (v := ?va7) rfl (by kernel_rfl) (by kernel_rfl) (by kernel_rfl) (fun _ _ _ h => h) (Or.inl ⟨by rfl, ?hya7⟩) (by assumption) ?resta7
  case hya7 => (intro w hSw; (try dsimp only at hSw); (try simp only [List.getElem_toArray, List.getElem_cons_zero, List.getElem_cons_succ]); go_simp; (try with_reducible rfl))
  (try simp only [Act.put, List.setIfInBounds_toArray, List.set_cons_zero, List.set_cons_succ, List.getElem_toArray, List.getElem_cons_zero, List.getElem_cons_succ])
  refine wpAnyH_take (i := 8) (oi := _) (v := ?va8) rfl (by kernel_rfl) (by kernel_rfl) (by kernel_rfl) (fun _ _ _ h => h) (Or.inl ⟨by rfl, ?hya8⟩) (by assumption) ?resta8
  case hya8 => (intro w hSw; (try dsimp only at hSw); (try simp only [List.getElem_toArray, List.getElem_cons_zero, List.getElem_cons_succ]); go_simp; (try with_reducible rfl))
  (try simp only [Act.put, List.setIfInBounds_toArray, List.set_cons_zero, List.set_cons_succ, List.getElem_toArray, List.getElem_cons_zero, List.getElem_cons_succ])
  refine wpAnyH_ready (rs := [9]) (by kernel_rfl) (by simp) ?_
  refine AllReadyH.cons (o := _) rfl (fun K hK => ?_) AllReadyH.nil
  (try simp only [List.getElem_toArray, List.getElem_cons_zero, List.getElem_cons_succ])
  go_simp
  refine (HC.out _ ((Keep.refl _ w1).drew)).mono ?_; rintro e w2 ⟨g', c', rfl, q1, q2, q3, q4, q5, q6, q7⟩; have K2 : Hid (Keep (fun _ => False) w1 w2) := Lib.hid (((Keep.refl _ w1).drew).trans (Keep.of_below (fun _ => False) q7) (fun _ _ y => y)); have HL2 := Lib.hid q3; clear q3 q6 q7
  refine hK.out _ _ ?_ (fun hHeld => ?_)
  · exact HS.out _ K2.out
  clear hK K
  (try simp only [Act.put, List.setIfInBounds_toArray, List.set_cons_zero, List.set_cons_succ, List.getElem_toArray, List.getElem_cons_zero, List.getElem_cons_succ])
  refine wpAnyH_take (i := 10) (oi := _) (v := ?va10) rfl (by kernel_rfl) (by kernel_rfl) (by kernel_rfl) (fun _ _ _ h => h) (Or.inl ⟨by rfl, ?hya10⟩) (by assumption) ?resta10
  case hya10 => (intro w hSw; (try dsimp only at hSw); (try simp only [List.getElem_toArray, List.getElem_cons_zero, List.getElem_cons_succ]); go_simp; (try with_reducible rfl))
  (try simp only [Act.put, List.setIfInBounds_toArray, List.set_cons_zero, List.set_cons_succ, List.getElem_toArray, List.getElem_cons_zero, List.getElem_cons_succ])
  refine wpAnyH_ready (rs := [11]) (by kernel_rfl) (by simp) ?_
  refine AllReadyH.cons (o := _) rfl (fun K hK => ?_) AllReadyH.nil
  (try simp only [List.getElem_toArray, List.getElem_cons_zero, List.getElem_cons_succ])
  go_simp
  refine hK.out _ _ ?_ (fun hHeld => ?_)
  · exact HS.out _ (K2.out.alloc _)
  clear hK K
  (try simp only [Act.put, List.setIfInBounds_toArray, List.set_cons_zero, List.set_cons_succ, List.getElem_toArray, List.getElem_cons_zero, List.getElem_cons_succ])
  refine wpAnyH_take (i := 12) (oi := _) (v := ?va12) rfl (by kernel_rfl) (by kernel_rfl) (by kernel_rfl) (fun _ _ _ h => h) (Or.inl ⟨by rfl, ?hya12⟩) (by assumption) ?resta12
  case hya12 => (intro w hSw; (try dsimp only at hSw); (try simp only [List.getElem_toArray, List.getElem_cons_zero, List.getElem_cons_succ]); go_simp; (try with_reducible rfl))
  (try simp only [Act.put, List.setIfInBounds_toArray, List.set_cons_zero, List.set_cons_succ, List.getElem_toArray, List.getElem_cons_zero, List.getElem_cons_succ])
  refine wpAnyH_done (by kernel_rfl) ?_ _
  refine NoPanic.normal ?_
  have HT : Hid (CopyTo W H n f w1 (.returned (.pointer (some ⟨w2.heap.size, 0, none⟩))) (w2.alloc (.cells #[.int .i64 (W : Int), .int .i64 (H : Int), .slice (some ⟨g', 0, none⟩) n c'] 80))) := Lib.hid (by
    have hb : ∀ i v, (#[.int .i64 (W : Int), .int .i64 (H : Int), .slice (some ⟨g', 0, none⟩) n c'] : Array Value)[i]? = some v → Cell (w2.alloc (.cells #[.int .i64 (W : Int), .int .i64 (H : Int), .slice (some ⟨g', 0, none⟩) n c'] 80)) w2.heap.size i v := fun i v hv => Cell.box i hv
    refine ⟨_, g', c', rfl, q1, K2.out.size, ⟨hb 0 _ rfl, hb 1 _ rfl, hb 2 _ rfl, HL2.out.keep (S := fun _ => False) q2 ((Keep.refl _ _).alloc _) (fun y => y), by simp; omega, by omega, HG.out.hn, HG.out.hw, HG.out.hh, q4, q5⟩, ?_⟩
    exact ((K2.out.alloc _).below (Nat.le_refl _) (fun _ _ e => e.elim)))
  go_wp2_with fail
  go_ret
  exact HT.out

def sizeF (W W' : Nat) (f : Nat → CellM) (h k : Nat) : CellM := if k / W' < h ∧ k % W' < W then f (k / W' * W + k % W') else blankC
theorem sizeF_step (W W' y j : Nat) (f : Nat → CellM) (hW : 0 < W') (hj : j = min W W') (k : Nat) :
    (if y * W' ≤ k ∧ k < y * W' + j then f (y * W + (k - y * W')) else sizeF W W' f y k) = sizeF W W' f (y + 1) k := by
  unfold sizeF
  have h1 := Nat.div_add_mod k W'
  have h2 := Nat.mod_lt k hW
  generalize k / W' = d at *
  generalize k % W' = r at *
  rw [Nat.mul_comm] at h1
  rcases Nat.lt_trichotomy d y with e | e | e
  · have h3 := Nat.mul_le_mul_right W' (show d + 1 ≤ y from e)
    rw [Nat.add_mul, Nat.one_mul] at h3
    rw [if_neg (by omega)]
    by_cases hr : r < W
    · rw [if_pos ⟨e, hr⟩, if_pos ⟨by omega, hr⟩]
    · rw [if_neg (fun x => hr x.2), if_neg (fun x => hr x.2)]
  · subst e
    by_cases hr : r < W
    · rw [if_pos (by omega), if_pos ⟨by omega, hr⟩]
      congr 1
      omega
    · rw [if_neg (by omega), if_neg (by omega), if_neg (by omega)]
  · have h3 := Nat.mul_le_mul_right W' (show y + 1 ≤ d from e)
    rw [Nat.add_mul, Nat.one_mul] at h3
    rw [if_neg (by omega), if_neg (by omega), if_neg (by omega)]

/-- Behind Size. -/
def SizeTo (p W' H' n' : Nat) (F : Nat → CellM) (w : World) (e : Ending) (w' : World) : Prop :=
  e = .returned (.tuple #[]) ∧ ∃ g' c', w.heap.size ≤ g' ∧ GridAt w' p g' c' W' H' n' F ∧ Keep (· = p) w w'

set_option maxRecDepth 100000 in
set_option maxHeartbeats 3200000 in
theorem grid_size (w : World) (p g c W H n : Nat) (f : Nat → CellM) (x y : Int) (W' H' n' : Nat) (h : GridAt w p g c W H n f) (hW : min (max x 2) 40 = (W' : Int)) (hH : min (max y 1) 20 = (H' : Int)) (hn : n' = W' * H') :
    Calls Try.prog 25 #[.pointer (some ⟨p, 0, none⟩), .int .i64 x, .int .i64 y] w (SizeTo p W' H' n' (sizeF W W' f (min H H')) w) := by
  have HG := Lib.hid h
  have hpl := h.lt
  have hgl := h.hg
  have hw := h.hw
  have hh := h.hh
  have hnn := Lib.hid h.hn
  have hNew := Lib.hid (grid_new w x y W' H' n' hW hH hn)
  have hw40 : 2 ≤ W' ∧ W' ≤ 40 := by omega
  have hh20 : 1 ≤ H' ∧ H' ≤ 20 := by omega
  have HNE := Lib.hid hn
  obtain ⟨M, hM⟩ : ∃ M : Nat, min (H : Int) (H' : Int) = (M : Int) := ⟨min H H', by omega⟩
  have hMe : min H H' = M := by omega
  have HME := Lib.hid hMe
  have t1 : (M : Int) ≤ 20 := by omega
  have hMH : M ≤ H ∧ M ≤ H' := by omega
  rw [hMe]
  clear h hW hH hn hMe
  go_enter Try.func25, Try.ntmps25
  go_wp2_with fail
  refine hNew.out.mono ?_
  rintro e w1 ⟨rfl, hG, hb⟩
  obtain ⟨g1, hg1⟩ : ∃ g1, g1 = w.heap.size := ⟨_, rfl⟩
  rw [← hg1] at hG hpl hgl
  rw [← hg1]
  have HG1 := Lib.hid (HG.out.keep (Keep.of_below (fun _ => False) hb) (fun y => y) (fun y => y))
  have HN1 := Lib.hid hG
  have K1 := Lib.hid (Keep.of_below (fun _ => False) hb)
  have HGE := Lib.hid hg1
  have c1 := HG1.out.ch.1
  have c2 := HN1.out.ch.1
  clear hG hb hg1
  go_wp2_with fail
  go_quiet (fail)
  clear c1 c2
  go_wp2_with fail
  go_loopw [7, 22] (fun _ i wr => ∃ k : Nat, i = .int .i64 k ∧ k ≤ M ∧ Hid (GridAt wr (g1 + 1) g1 n' W' H' n' (sizeF W W' f k)) ∧ Hid (Keep (· = g1) w1 wr)) (fun _ i _ => M - (intOf i).toNat)
  case atStart => exact ⟨0, rfl, Nat.zero_le _, (HN1.out.keep ((Keep.refl (fun _ => False) w1).drewN nq) (fun y => y) (fun y => y)).congr (fun j hj => (if_neg (fun e => absurd e.1 (Nat.not_lt_zero _))).symm), (Keep.refl _ w1).drewN nq⟩
  case round =>
    obtain ⟨k, rfl, hk, HR, HK⟩ := hrel
    by_cases hlt : k < M
    · have hki : ((k : Int) < (M : Int)) := by omega
      have hk0 : (0 : Int) ≤ (k : Int) := by omega
      have HGr := Lib.hid (HG1.out.keep HK.out (by omega) (by omega))
      have er : restN W H 0 k = W := by unfold restN; rw [if_pos (by omega)]; simp
      have ea : restA W 0 k = k * W := by unfold restA; simp
      have er' : restN W' H' 0 k = W' := by unfold restN; rw [if_pos (by omega)]; simp
      have ea' : restA W' 0 k = k * W' := by unfold restA; simp
      have hle : k * W + W ≤ n := by
        have h3 := Nat.mul_le_mul_right W (show k + 1 ≤ H by omega)
        rw [Nat.add_mul, Nat.one_mul] at h3
        rw [hnn.out, Nat.mul_comm W H]; exact h3
      have hRS := Lib.hid (by have := grid_rest wr p g c W H n f 0 k HGr.out; rwa [er, ea] at this)
      have HLE := Lib.hid hle
      have HER := Lib.hid (And.intro er' ea')
      clear er ea er' ea' hle
      go_wp2_with fail
      refine hRS.out.mono ?_
      rintro e w2 ht
      obtain ⟨A2, c2, rfl, k2, -, hs2⟩ := ht.slK HGr.out (fun _ => HLE.out)
      have K2 := Lib.hid k2
      have HS2 := Lib.hid hs2.slc
      clear ht hs2 k2
      go_wp2_with fail
      refine (grid_set w2 (g1 + 1) g1 n' W' H' n' (sizeF W W' f k) 0 k A2 W c2 (fun i => f (k * W + i)) g (k * W * 6) (HR.out.keep K2.out (fun y => y) (fun y => y)) HS2.out (by omega) (min W W') (by rw [HER.out.1])).mono ?_
      rintro e w3 ⟨rfl, hp⟩
      have hp' : PutC g1 (k * W' * 6) (min W W') (fun i => f (k * W + i)) w2 w3 := by have := hp; rwa [HER.out.2] at this
      have HR3 : Hid (GridAt w3 (g1 + 1) g1 n' W' H' n' (sizeF W W' f (k + 1))) := Lib.hid (((HR.out.keep K2.out (fun y => y) (fun y => y)).put hp' (by
        have h3 := Nat.mul_le_mul_right W' (show k + 1 ≤ H' by omega)
        rw [Nat.add_mul, Nat.one_mul] at h3
        have := HNE.out
        rw [Nat.mul_comm W' H'] at this
        have := Nat.min_le_right W W'
        omega)).congr (fun j _ => sizeF_step W W' k (min W W') f (by omega) rfl j))
      have HK3 : Hid (Keep (· = g1) w1 w3) := Lib.hid ((HK.out.trans K2.out (fun _ _ y => y.elim)).trans hp.keep (fun _ _ y => y))
      clear hp hp'
      go_wp2_with fail
      go_roundw
      case rel => exact ⟨k + 1, by go_num, by omega, HR3, HK3⟩
      case measure => simp [intOf]; omega
    · have hkn : k = M := by omega
      subst hkn
      have HGr := Lib.hid (HG1.out.keep HK.out (by omega) (by omega))
      obtain ⟨a0, b0⟩ := HGr.out.cw
      obtain ⟨a1, b1⟩ := HGr.out.ch
      obtain ⟨a2, b2⟩ := HGr.out.cs
      have n0 := HR.out.cw.1
      have n1 := HR.out.ch.1
      have n2 := HR.out.cs.1
      have hne : g1 + 1 ≠ p := by omega
      have hpr : p < wr.heap.size := HGr.out.lt
      have K : Hid (Keep (fun _ => False) w wr) := Lib.hid (by
        have := HGE.out
        refine ⟨HK.out.os.trans K1.out.os, HK.out.tape.trans K1.out.tape, HK.out.output.trans K1.out.output, Nat.le_trans K1.out.size HK.out.size, fun i hi _ => ?_⟩
        exact (HK.out.block i (Nat.lt_of_lt_of_le hi K1.out.size) (by omega)).trans (K1.out.block i hi (fun y => y)))
      have HT : Hid (SizeTo p W' H' n' (sizeF W W' f k) w (.returned (.tuple #[])) (((wr.setCell ⟨p, 0, none⟩ (.int .i64 (W' : Int))).setCell ⟨p, 1, none⟩ (.int .i64 (H' : Int))).setCell ⟨p, 2, none⟩ (.slice (some ⟨g1, 0, none⟩) n' n'))) := Lib.hid (by
        have KP : Keep (· = p) wr (((wr.setCell ⟨p, 0, none⟩ (.int .i64 (W' : Int))).setCell ⟨p, 1, none⟩ (.int .i64 (H' : Int))).setCell ⟨p, 2, none⟩ (.slice (some ⟨g1, 0, none⟩) n' n')) := ((keep_set wr p 0 _).own 1 _).own 2 _
        refine ⟨rfl, g1, n', Nat.le_of_eq HGE.out.symm, ⟨?_, ?_, ?_, HR.out.l.keep HR.out.hg KP (by omega), by simp; exact HR.out.hg, by omega, HR.out.hn, HR.out.hw, HR.out.hh, HR.out.hc, HR.out.cm⟩, (K.out.mono (fun _ _ y => y.elim) : Keep (· = p) w wr).trans KP (fun _ _ y => y)⟩
        · exact ((HGr.out.cw.set _).far (by omega) _).far (by omega) _
        · exact ((HGr.out.ch.far (by omega) _).set _).far (by omega) _
        · exact ((HGr.out.cs.far (by omega) _).far (by omega) _).set _)
      clear hlt hk
      go_wp2_with fail
      go_end0
      exact HT.out

end Go.Proofs.Ytbjdcbnmpmcdiaa
