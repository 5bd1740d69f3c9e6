/- grid: toFront, toBack. Own work (rgn/XGridT.lean by rgn.py). -/
import Derived.Test.YtbjdcbnmpmcdiaaGridF
namespace Go.Proofs.Ytbjdcbnmpmcdiaa
set_option linter.unusedVariables false
set_option linter.unusedSimpArgs false
open Go.RowKit

/-- A slice of cells: nil where it has none. -/
structure Sl (w : World) (A : Option Addr) (g o n c : Nat) (f : Nat → CellM) : Prop where
  pos : 0 < n → A = some ⟨g, o, none⟩ ∧ Lies w g o n f ∧ g < w.heap.size ∧ n ≤ c
  zero : n = 0 → A = none ∧ c = 0
theorem Sl.slc {w : World} {A : Option Addr} {g o n c : Nat} {f : Nat → CellM} (h : Sl w A g o n c f) : SlC w A g o n f := fun h0 => ⟨(h.pos h0).1, (h.pos h0).2.1, (h.pos h0).2.2.1⟩
theorem Sl.nil (w : World) (g o : Nat) (f : Nat → CellM) : Sl w none g o 0 0 f := ⟨fun h => absurd h (by omega), fun _ => ⟨rfl, rfl⟩⟩
theorem Sl.drewN {w : World} {A : Option Addr} {g o n c : Nat} {f : Nat → CellM} (h : Sl w A g o n c f) (k : Nat) : Sl (w.drewN k) A g o n c f :=
  ⟨fun h0 => ⟨(h.pos h0).1, ⟨(h.pos h0).2.1.val, (h.pos h0).2.1.can⟩, (h.pos h0).2.2⟩, h.zero⟩
theorem Sl.keep {S : Nat → Prop} {w w' : World} {A : Option Addr} {g o n c : Nat} {f : Nat → CellM} (h : Sl w A g o n c f) (k : Keep S w w') (hn : ¬ S g) : Sl w' A g o n c f :=
  ⟨fun h0 => ⟨(h.pos h0).1, (h.pos h0).2.1.keep (h.pos h0).2.2.1 k hn, Nat.lt_of_lt_of_le (h.pos h0).2.2.1 k.size, (h.pos h0).2.2.2⟩, h.zero⟩

def frontF (f : Nat → CellM) (n m : Nat) (x : CellM) (j : Nat) : CellM := if j + m < n then f (j + m) else x
def backF (f : Nat → CellM) (m : Nat) (x : CellM) (j : Nat) : CellM := if j < m then x else f (j - m)

theorem cells_six {w : World} {q : Nat} {x : CellM} (h : w.heap[q]? = some (.cells (vcells x) 42 (0, 0))) :
    w.cell? ⟨q, 0, none⟩ = some (.int .i32 x.r) ∧ w.cell? ⟨q, 1, none⟩ = some (.int .i64 x.a.fg) ∧ w.cell? ⟨q, 2, none⟩ = some (.int .i64 x.a.bg) ∧ w.cell? ⟨q, 3, none⟩ = some (.bool x.a.b) ∧ w.cell? ⟨q, 4, none⟩ = some (.bool x.a.u) ∧ w.cell? ⟨q, 5, none⟩ = some (.bool x.a.i) :=
  ⟨cell_at h 0, cell_at h 1, cell_at h 2, cell_at h 3, cell_at h 4, cell_at h 5⟩

theorem PutC.drew {g o n : Nat} {f : Nat → CellM} {w w' : World} (p : PutC g o n f w w') : PutC g o n f w w'.drew := ⟨p.keep.drew, p.fz, p.val, p.out⟩
theorem Fills.keep {g o n : Nat} {f : Nat → CellM} {w w' : World} (h : Fills g o n f w w') : Keep (· = g) w w' := by
  rcases Nat.eq_zero_or_pos n with e | e
  · exact (h.2 e).mono (fun _ _ x => x.elim)
  · exact (h.1 e).keep
theorem front_fills {g o n m : Nat} {f : Nat → CellM} {x : CellM} {w w1 w2 w4 : World} (hg : g < w.heap.size) (hn : 0 < n) (hm : m ≤ n) (k : Keep (fun _ => False) w w1) (p : PutC g o (n - m) (fun j => f (m + j)) w1 w2) (q : Fills g (o + (n - m) * 6) m (fun _ => x) w2 w4) : Fills g o n (frontF f n m x) w w4 := by
  refine ⟨fun _ => ?_, fun e => by omega⟩
  have hg2 : g < w2.heap.size := by have := k.size; have := p.keep.size; omega
  have r := (PutC.keep_then k hg p).grow (q.put hg2)
  rw [show n - m + m = n from by omega] at r
  exact r.congr (fun j hj => by
    unfold frontF
    by_cases e : j < n - m
    · rw [if_pos e, if_pos (by omega), Nat.add_comm]
    · rw [if_neg e, if_neg (by omega)])
theorem back_fills {g o n m : Nat} {f : Nat → CellM} {x : CellM} {w w1 w2 w4 : World} (hg : g < w.heap.size) (hn : 0 < n) (hm : m ≤ n) (k : Keep (fun _ => False) w w1) (p : PutC g (o + m * 6) (n - m) f w1 w2) (q : Fills g o m (fun _ => x) w2 w4) : Fills g o n (backF f m x) w w4 := by
  refine ⟨fun _ => ?_, fun e => by omega⟩
  have hg2 : g < w2.heap.size := by have := k.size; have := p.keep.size; omega
  have r := (PutC.keep_then k hg p).pre (q.put hg2)
  rw [show m + (n - m) = n from by omega] at r
  exact r.congr (fun j hj => rfl)

set_option maxRecDepth 100000 in
set_option maxHeartbeats 3200000 in
theorem toFront_any (A : Option Addr) (g o n c : Nat) (f : Nat → CellM) (x : CellM) (k : Int) (m : Nat) (w : World) (h : Sl w A g o n c f) (hn : n ≤ 100000) (hcm : c ≤ 9223372036854775807) (hm : min (max k 0) (n : Int) = (m : Int)) :
    Calls Try.prog 52 #[.slice A n c, .int .i64 k, x.v] w fun e w' => e = .returned (.tuple #[]) ∧ Fills g o n (frontF f n m x) w w' := by
  have hmn : m ≤ n := by omega
  have HW : Hid (∀ W, Calls Try.prog 44 #[.int .i64 k, .int .i64 0, .int .i64 n] W fun e w' => e = .returned (.int .i64 m) ∧ w' = W) := Lib.hid (fun W => by have := within_any k 0 n W; rwa [hm] at this)
  have hni : (n : Int) ≤ 100000 := by omega
  have hmi : (m : Int) ≤ (n : Int) := by omega
  have hm0 : (0 : Int) ≤ (m : Int) := by omega
  have hci : (c : Int) ≤ 9223372036854775807 := by omega
  clear hm
  rcases Nat.eq_zero_or_pos n with h0 | h0
  · have hmz : m = 0 := by omega
    subst hmz h0
    obtain ⟨rfl, rfl⟩ := h.zero rfl
    obtain ⟨w1, hw1⟩ : ∃ w1, w1 = w.alloc (.cells (vcells x) 42) := ⟨_, rfl⟩
    have HK1 : Hid (Keep (fun _ => False) w w1) := Lib.hid (by rw [hw1]; exact (Keep.refl _ w).alloc _)
    have HQ2 : Hid (w1.heap[w.heap.size]? = some (.cells (vcells x) 42 (0, 0))) := Lib.hid (by rw [hw1]; exact heap_alloc_new w _)
    have hcz := fun (W : World) => run_copy_zero (P := Try.prog) W 43 43 3 42 none none 0 0 0 0 6 Try.underlying43 cell_info rfl
    have hw0 : IntKind.i64.wrap 0 = 0 := by decide
    clear h hmi hni
    simp only [CellM.v]
    unfold vcells at hw1
    go_enter Try.func52, Try.ntmps52
    go_upto_region 1 with fail
    rw [← hw1]
    obtain ⟨q, hq⟩ : ∃ q, q = w.heap.size := ⟨_, rfl⟩
    rw [← hq] at HQ2
    rw [← hq]
    clear hw1 hq
    go_wp2_with fail
    refine (HW.out _).mono ?_
    rintro e w2 ⟨rfl, rfl⟩
    go_wp2_with fail
    refine wp_region_noPanic ?_
    refine wp_region_held_drew (S := fun w' => w'.cell? ⟨q, 0, none⟩ = some (.int .i32 x.r) ∧ w'.cell? ⟨q, 1, none⟩ = some (.int .i64 x.a.fg) ∧ w'.cell? ⟨q, 2, none⟩ = some (.int .i64 x.a.bg) ∧ w'.cell? ⟨q, 3, none⟩ = some (.bool x.a.b) ∧ w'.cell? ⟨q, 4, none⟩ = some (.bool x.a.u) ∧ w'.cell? ⟨q, 5, none⟩ = some (.bool x.a.i)) (by kernel_rfl) (cells_six HQ2.out) (fun hHeld => ?_)
    refine wpAnyH_take (i := 0) (oi := _) (v := ?vz0) rfl (by kernel_rfl) (by kernel_rfl) (by kernel_rfl) (fun _ _ _ h => h) (Or.inl ⟨by rfl, ?hyz0⟩) (by assumption) ?restz0
    case hyz0 => (intro w hSw; (try dsimp only at hSw); (try simp only [List.getElem_toArray, List.getElem_cons_zero, List.getElem_cons_succ]); go_simp; (try with_reducible rfl))
    (try simp only [Act.put, List.setIfInBounds_toArray, List.set_cons_zero, List.set_cons_succ, List.getElem_toArray, List.getElem_cons_zero, List.getElem_cons_succ])
    refine wpAnyH_take (i := 1) (oi := _) (v := ?vz1) rfl (by kernel_rfl) (by kernel_rfl) (by kernel_rfl) (fun _ _ _ h => h) (Or.inl ⟨by rfl, ?hyz1⟩) (by assumption) ?restz1
    case hyz1 => (intro w hSw; (try dsimp only at hSw); (try simp only [List.getElem_toArray, List.getElem_cons_zero, List.getElem_cons_succ]); go_simp; (try with_reducible rfl))
    (try simp only [Act.put, List.setIfInBounds_toArray, List.set_cons_zero, List.set_cons_succ, List.getElem_toArray, List.getElem_cons_zero, List.getElem_cons_succ])
    refine wpAnyH_take (i := 2) (oi := _) (v := ?vz2) rfl (by kernel_rfl) (by kernel_rfl) (by kernel_rfl) (fun _ _ _ h => h) (Or.inl ⟨by rfl, ?hyz2⟩) (by assumption) ?restz2
    case hyz2 => (intro w hSw; (try dsimp only at hSw); (try simp only [List.getElem_toArray, List.getElem_cons_zero, List.getElem_cons_succ]); go_simp; (try with_reducible rfl))
    (try simp only [Act.put, List.setIfInBounds_toArray, List.set_cons_zero, List.set_cons_succ, List.getElem_toArray, List.getElem_cons_zero, List.getElem_cons_succ])
    refine wpAnyH_take (i := 3) (oi := _) (v := ?vz3) rfl (by kernel_rfl) (by kernel_rfl) (by kernel_rfl) (fun _ _ _ h => h) (Or.inl ⟨by rfl, ?hyz3⟩) (by assumption) ?restz3
    case hyz3 => (intro w hSw; (try dsimp only at hSw); (try simp only [List.getElem_toArray, List.getElem_cons_zero, List.getElem_cons_succ]); go_simp; (try with_reducible rfl))
    (try simp only [Act.put, List.setIfInBounds_toArray, List.set_cons_zero, List.set_cons_succ, List.getElem_toArray, List.getElem_cons_zero, List.getElem_cons_succ])
    refine wpAnyH_take (i := 4) (oi := _) (v := ?vz4) rfl (by kernel_rfl) (by kernel_rfl) (by kernel_rfl) (fun _ _ _ h => h) (Or.inl ⟨by rfl, ?hyz4⟩) (by assumption) ?restz4
    case hyz4 => (intro w hSw; (try dsimp only at hSw); (try simp only [List.getElem_toArray, List.getElem_cons_zero, List.getElem_cons_succ]); go_simp; (try with_reducible rfl))
    (try simp only [Act.put, List.setIfInBounds_toArray, List.set_cons_zero, List.set_cons_succ, List.getElem_toArray, List.getElem_cons_zero, List.getElem_cons_succ])
    refine wpAnyH_take (i := 5) (oi := _) (v := ?vz5) rfl (by kernel_rfl) (by kernel_rfl) (by kernel_rfl) (fun _ _ _ h => h) (Or.inl ⟨by rfl, ?hyz5⟩) (by assumption) ?restz5
    case hyz5 => (intro w hSw; (try dsimp only at hSw); (try simp only [List.getElem_toArray, List.getElem_cons_zero, List.getElem_cons_succ]); go_simp; (try with_reducible rfl))
    (try simp only [Act.put, List.setIfInBounds_toArray, List.set_cons_zero, List.set_cons_succ, List.getElem_toArray, List.getElem_cons_zero, List.getElem_cons_succ])
    refine wpAnyH_take (i := 6) (oi := _) (v := ?vz6) rfl (by kernel_rfl) (by kernel_rfl) (by kernel_rfl) (fun _ _ _ h => h) (Or.inl ⟨by rfl, ?hyz6⟩) (by assumption) ?restz6
    case hyz6 => (intro w hSw; (try dsimp only at hSw); (try simp only [List.getElem_toArray, List.getElem_cons_zero, List.getElem_cons_succ]); go_simp; (try with_reducible rfl))
    (try simp only [Act.put, List.setIfInBounds_toArray, List.set_cons_zero, List.set_cons_succ, List.getElem_toArray, List.getElem_cons_zero, List.getElem_cons_succ])
    refine wpAnyH_ready (rs := [7]) (by kernel_rfl) (by simp) ?_
    refine AllReadyH.cons (o := _) rfl (fun K hK => ?_) AllReadyH.nil
    (try simp only [List.getElem_toArray, List.getElem_cons_zero, List.getElem_cons_succ])
    go_simp
    (refine (fill_any none g o 0 0 f x _ (fun h => absurd h (by omega)) (by omega)).mono ?_); rintro e w4 ⟨rfl, hf⟩; have HF4 := Lib.hid ((HK1.out.drew).trans (hf.2 rfl) (fun _ _ x => x)); have HQ4 := Lib.hid ((hf.2 rfl).heap (show w2.drew.heap[q]? = _ from HQ2.out) (fun x => x)); clear hf
    refine hK.out _ _ ?_ (fun hHeld => ?_)
    · exact cells_six HQ4.out
    clear hK K
    (try simp only [Act.put, List.setIfInBounds_toArray, List.set_cons_zero, List.set_cons_succ, List.getElem_toArray, List.getElem_cons_zero, List.getElem_cons_succ])
    refine wpAnyH_done (by kernel_rfl) ?_ _
    refine NoPanic.normal ?_
    go_end0
    exact ⟨rfl, fun h => absurd h (by omega), fun _ => HF4.out⟩
  · obtain ⟨rfl, hL, hg, hnc⟩ := h.pos h0
    obtain ⟨w1, hw1⟩ : ∃ w1, w1 = w.alloc (.cells (vcells x) 42) := ⟨_, rfl⟩
    have HK1 : Hid (Keep (fun _ => False) w w1) := Lib.hid (by rw [hw1]; exact (Keep.refl _ w).alloc _)
    have HL1 := Lib.hid (hL.keep hg HK1.out (fun x => x))
    have HQ1 : Hid (w1.heap[w.heap.size]? = some (.cells (vcells x) 42 (0, 0))) := Lib.hid (by rw [hw1]; exact heap_alloc_new w _)
    have hg1 : g < w1.heap.size := by have := HK1.out.size; omega
    have HG := Lib.hid hg
    have HNC := Lib.hid hnc
    have hnci : (n : Int) ≤ (c : Int) := by omega
    clear h hL hg hnc
    simp only [CellM.v]
    unfold vcells at hw1
    obtain ⟨d, hd⟩ : ∃ d, d = n - m := ⟨_, rfl⟩
    have hsub : (n : Int) - (m : Int) = (d : Int) := by omega
    have hdi : (d : Int) ≤ (n : Int) := by omega
    have hwd : IntKind.i64.wrap (d : Int) = (d : Int) := IntWalk.i64_in _ (by omega)
    have hwm : IntKind.i64.wrap (m : Int) = (m : Int) := IntWalk.i64_in _ (by omega)
    have hd0 : (0 : Int) ≤ (d : Int) := by omega
    have hdc : (d : Int) ≤ (c : Int) := by omega
    have hmc : (m : Int) ≤ (c : Int) := by omega
    have HD := Lib.hid hd
    have HM : Hid (n - d = m) := Lib.hid (by omega)
    clear hd
    by_cases hc1 : c = m
    · have hmn2 : m = n := by have := HNC.out; omega
      have hd00 : d = 0 := by have := HD.out; omega
      subst hc1 hd00
      subst hmn2
      have hcz0 : ¬ (c = 0) := by omega
      have hw0 : IntKind.i64.wrap 0 = 0 := by decide
      have hs0 : (c : Int) - (c : Int) = 0 := by omega
      clear hsub hwd hd0 hdc hdi hmc
      have hcz := fun (W : World) => run_copy_zero (P := Try.prog) W 43 43 3 42 (some ⟨g, o, none⟩) (some ⟨g, o, none⟩) c c 0 0 6 Try.underlying43 cell_info (by simp)
      go_enter Try.func52, Try.ntmps52
      go_upto_region 1 with fail
      rw [← hw1]
      obtain ⟨q, hq⟩ : ∃ q, q = w.heap.size := ⟨_, rfl⟩
      rw [← hq] at HQ1
      rw [← hq]
      have hgq : g ≠ q := by have := HG.out; omega
      clear hw1 hq
      go_wp2_with fail
      refine (HW.out _).mono ?_
      rintro e w2 ⟨rfl, rfl⟩
      go_wp2_with fail
      refine wp_region_noPanic ?_
      refine wp_region_held_drew (S := fun w' => w'.cell? ⟨q, 0, none⟩ = some (.int .i32 x.r) ∧ w'.cell? ⟨q, 1, none⟩ = some (.int .i64 x.a.fg) ∧ w'.cell? ⟨q, 2, none⟩ = some (.int .i64 x.a.bg) ∧ w'.cell? ⟨q, 3, none⟩ = some (.bool x.a.b) ∧ w'.cell? ⟨q, 4, none⟩ = some (.bool x.a.u) ∧ w'.cell? ⟨q, 5, none⟩ = some (.bool x.a.i)) (by kernel_rfl) (cells_six HQ1.out) (fun hHeld => ?_)
      refine wpAnyH_take (i := 0) (oi := _) (v := ?va0) rfl (by kernel_rfl) (by kernel_rfl) (by kernel_rfl) (fun _ _ _ h => h) (Or.inl ⟨by rfl, ?hya0⟩) (by assumption) ?resta0
      case hya0 => (intro w hSw; (try dsimp only at hSw); (try simp only [List.getElem_toArray, List.getElem_cons_zero, List.getElem_cons_succ]); go_simp; (try with_reducible rfl))
      (try simp only [Act.put, List.setIfInBounds_toArray, List.set_cons_zero, List.set_cons_succ, List.getElem_toArray, List.getElem_cons_zero, List.getElem_cons_succ])
      refine wpAnyH_take (i := 1) (oi := _) (v := ?va1) rfl (by kernel_rfl) (by kernel_rfl) (by kernel_rfl) (fun _ _ _ h => h) (Or.inl ⟨by rfl, ?hya1⟩) (by assumption) ?resta1
      case hya1 => (intro w hSw; (try dsimp only at hSw); (try simp only [List.getElem_toArray, List.getElem_cons_zero, List.getElem_cons_succ]); go_simp; (try with_reducible rfl))
      (try simp only [Act.put, List.setIfInBounds_toArray, List.set_cons_zero, List.set_cons_succ, List.getElem_toArray, List.getElem_cons_zero, List.getElem_cons_succ])
      refine wpAnyH_take (i := 2) (oi := _) (v := ?va2) rfl (by kernel_rfl) (by kernel_rfl) (by kernel_rfl) (fun _ _ _ h => h) (Or.inl ⟨by rfl, ?hya2⟩) (by assumption) ?resta2
      case hya2 => (intro w hSw; (try dsimp only at hSw); (try simp only [List.getElem_toArray, List.getElem_cons_zero, List.getElem_cons_succ]); go_simp; (try with_reducible rfl))
      (try simp only [Act.put, List.setIfInBounds_toArray, List.set_cons_zero, List.set_cons_succ, List.getElem_toArray, List.getElem_cons_zero, List.getElem_cons_succ])
      refine wpAnyH_take (i := 3) (oi := _) (v := ?va3) rfl (by kernel_rfl) (by kernel_rfl) (by kernel_rfl) (fun _ _ _ h => h) (Or.inl ⟨by rfl, ?hya3⟩) (by assumption) ?resta3
      case hya3 => (intro w hSw; (try dsimp only at hSw); (try simp only [List.getElem_toArray, List.getElem_cons_zero, List.getElem_cons_succ]); go_simp; (try with_reducible rfl))
      (try simp only [Act.put, List.setIfInBounds_toArray, List.set_cons_zero, List.set_cons_succ, List.getElem_toArray, List.getElem_cons_zero, List.getElem_cons_succ])
      refine wpAnyH_take (i := 4) (oi := _) (v := ?va4) rfl (by kernel_rfl) (by kernel_rfl) (by kernel_rfl) (fun _ _ _ h => h) (Or.inl ⟨by rfl, ?hya4⟩) (by assumption) ?resta4
      case hya4 => (intro w hSw; (try dsimp only at hSw); (try simp only [List.getElem_toArray, List.getElem_cons_zero, List.getElem_cons_succ]); go_simp; (try with_reducible rfl))
      (try simp only [Act.put, List.setIfInBounds_toArray, List.set_cons_zero, List.set_cons_succ, List.getElem_toArray, List.getElem_cons_zero, List.getElem_cons_succ])
      refine wpAnyH_take (i := 5) (oi := _) (v := ?va5) rfl (by kernel_rfl) (by kernel_rfl) (by kernel_rfl) (fun _ _ _ h => h) (Or.inl ⟨by rfl, ?hya5⟩) (by assumption) ?resta5
      case hya5 => (intro w hSw; (try dsimp only at hSw); (try simp only [List.getElem_toArray, List.getElem_cons_zero, List.getElem_cons_succ]); go_simp; (try with_reducible rfl))
      (try simp only [Act.put, List.setIfInBounds_toArray, List.set_cons_zero, List.set_cons_succ, List.getElem_toArray, List.getElem_cons_zero, List.getElem_cons_succ])
      refine wpAnyH_take (i := 6) (oi := _) (v := ?va6) rfl (by kernel_rfl) (by kernel_rfl) (by kernel_rfl) (fun _ _ _ h => h) (Or.inl ⟨by rfl, ?hya6⟩) (by assumption) ?resta6
      case hya6 => (intro w hSw; (try dsimp only at hSw); (try simp only [List.getElem_toArray, List.getElem_cons_zero, List.getElem_cons_succ]); go_simp; (try with_reducible rfl))
      (try simp only [Act.put, List.setIfInBounds_toArray, List.set_cons_zero, List.set_cons_succ, List.getElem_toArray, List.getElem_cons_zero, List.getElem_cons_succ])
      refine wpAnyH_ready (rs := [7]) (by kernel_rfl) (by simp) ?_
      refine AllReadyH.cons (o := _) rfl (fun K hK => ?_) AllReadyH.nil
      (try simp only [List.getElem_toArray, List.getElem_cons_zero, List.getElem_cons_succ])
      go_simp
      (refine (fill_any _ g o c _ f x _ (fun hp => ⟨by first | rfl | simp, HL1.out.keep hg1 ((Keep.refl (fun _ => False) w2).drew) (fun x => x), hg1⟩) (by omega)).mono ?_); rintro e w4 ⟨rfl, hf⟩; have HF4 := Lib.hid hf; have HQ4 := Lib.hid (hf.keep.heap (show w2.drew.heap[q]? = _ from HQ1.out) (fun e => hgq e.symm)); clear hf
      refine hK.out _ _ ?_ (fun hHeld => ?_)
      · exact cells_six HQ4.out
      clear hK K
      (try simp only [Act.put, List.setIfInBounds_toArray, List.set_cons_zero, List.set_cons_succ, List.getElem_toArray, List.getElem_cons_zero, List.getElem_cons_succ])
      refine wpAnyH_done (by kernel_rfl) ?_ _
      refine NoPanic.normal ?_
      go_end0
      exact ⟨rfl, fun _ => (PutC.keep_then (HK1.out.drew) HG.out (HF4.out.put hg1)).congr (fun j hj => by unfold frontF; rw [if_neg (by omega)]), fun e => absurd e (by omega)⟩
    · skip
      go_enter Try.func52, Try.ntmps52
      go_upto_region 1 with fail
      rw [← hw1]
      obtain ⟨q, hq⟩ : ∃ q, q = w.heap.size := ⟨_, rfl⟩
      rw [← hq] at HQ1
      rw [← hq]
      have hgq : g ≠ q := by have := HG.out; omega
      clear hw1 hq
      go_wp2_with fail
      refine (HW.out _).mono ?_
      rintro e w2 ⟨rfl, rfl⟩
      go_wp2_with (with_reducible refine wpList_copy_put rfl _ _ _ _ rfl 42 Try.underlying43 cell_info _ _ _ _ _ _ rfl rfl g (o) g (o + m * 6) d (fun j => f (j)) (fun j => f (m + j)) ?hmc ?hDc ?hSc ?_)
      case hmc => have := HD.out; simp; omega
      case hDc => exact fun hp => ⟨by rfl, by have := HL1.out.sub 0 d (by have := HD.out; omega); simpa using this, hg1⟩
      case hSc => exact fun hp => ⟨by rfl, HL1.out.sub m d (by have := HD.out; omega), hg1⟩
      intro w3 hp3
      have HP3 := Lib.hid hp3
      have HQ2 := Lib.hid (hp3.keep.heap HQ1.out (fun e => hgq e.symm))
      have HL3 := Lib.hid (PutC.lies HL1.out (a := 0) (by simpa using HP3.out) (by have := HD.out; omega))
      have hg3 : g < w3.heap.size := by have := hp3.keep.size; omega
      obtain ⟨F2, hF2⟩ : ∃ F2, Lies w3 g (o + d * 6) m F2 := ⟨_, HL3.out.sub d m (by have := HD.out; omega)⟩
      have HL4 := Lib.hid hF2
      clear hp3 hF2
      go_wp2_with fail
      refine wp_region_noPanic ?_
      refine wp_region_held_drew (S := fun w' => w'.cell? ⟨q, 0, none⟩ = some (.int .i32 x.r) ∧ w'.cell? ⟨q, 1, none⟩ = some (.int .i64 x.a.fg) ∧ w'.cell? ⟨q, 2, none⟩ = some (.int .i64 x.a.bg) ∧ w'.cell? ⟨q, 3, none⟩ = some (.bool x.a.b) ∧ w'.cell? ⟨q, 4, none⟩ = some (.bool x.a.u) ∧ w'.cell? ⟨q, 5, none⟩ = some (.bool x.a.i)) (by kernel_rfl) (cells_six HQ2.out) (fun hHeld => ?_)
      refine wpAnyH_take (i := 0) (oi := _) (v := ?vc0) rfl (by kernel_rfl) (by kernel_rfl) (by kernel_rfl) (fun _ _ _ h => h) (Or.inl ⟨by rfl, ?hyc0⟩) (by assumption) ?restc0
      case hyc0 => (intro w hSw; (try dsimp only at hSw); (try simp only [List.getElem_toArray, List.getElem_cons_zero, List.getElem_cons_succ]); go_simp; (try with_reducible rfl))
      (try simp only [Act.put, List.setIfInBounds_toArray, List.set_cons_zero, List.set_cons_succ, List.getElem_toArray, List.getElem_cons_zero, List.getElem_cons_succ])
      refine wpAnyH_take (i := 1) (oi := _) (v := ?vc1) rfl (by kernel_rfl) (by kernel_rfl) (by kernel_rfl) (fun _ _ _ h => h) (Or.inl ⟨by rfl, ?hyc1⟩) (by assumption) ?restc1
      case hyc1 => (intro w hSw; (try dsimp only at hSw); (try simp only [List.getElem_toArray, List.getElem_cons_zero, List.getElem_cons_succ]); go_simp; (try with_reducible rfl))
      (try simp only [Act.put, List.setIfInBounds_toArray, List.set_cons_zero, List.set_cons_succ, List.getElem_toArray, List.getElem_cons_zero, List.getElem_cons_succ])
      refine wpAnyH_take (i := 2) (oi := _) (v := ?vc2) rfl (by kernel_rfl) (by kernel_rfl) (by kernel_rfl) (fun _ _ _ h => h) (Or.inl ⟨by rfl, ?hyc2⟩) (by assumption) ?restc2
      case hyc2 => (intro w hSw; (try dsimp only at hSw); (try simp only [List.getElem_toArray, List.getElem_cons_zero, List.getElem_cons_succ]); go_simp; (try with_reducible rfl))
      (try simp only [Act.put, List.setIfInBounds_toArray, List.set_cons_zero, List.set_cons_succ, List.getElem_toArray, List.getElem_cons_zero, List.getElem_cons_succ])
      refine wpAnyH_take (i := 3) (oi := _) (v := ?vc3) rfl (by kernel_rfl) (by kernel_rfl) (by kernel_rfl) (fun _ _ _ h => h) (Or.inl ⟨by rfl, ?hyc3⟩) (by assumption) ?restc3
      case hyc3 => (intro w hSw; (try dsimp only at hSw); (try simp only [List.getElem_toArray, List.getElem_cons_zero, List.getElem_cons_succ]); go_simp; (try with_reducible rfl))
      (try simp only [Act.put, List.setIfInBounds_toArray, List.set_cons_zero, List.set_cons_succ, List.getElem_toArray, List.getElem_cons_zero, List.getElem_cons_succ])
      refine wpAnyH_take (i := 4) (oi := _) (v := ?vc4) rfl (by kernel_rfl) (by kernel_rfl) (by kernel_rfl) (fun _ _ _ h => h) (Or.inl ⟨by rfl, ?hyc4⟩) (by assumption) ?restc4
      case hyc4 => (intro w hSw; (try dsimp only at hSw); (try simp only [List.getElem_toArray, List.getElem_cons_zero, List.getElem_cons_succ]); go_simp; (try with_reducible rfl))
      (try simp only [Act.put, List.setIfInBounds_toArray, List.set_cons_zero, List.set_cons_succ, List.getElem_toArray, List.getElem_cons_zero, List.getElem_cons_succ])
      refine wpAnyH_take (i := 5) (oi := _) (v := ?vc5) rfl (by kernel_rfl) (by kernel_rfl) (by kernel_rfl) (fun _ _ _ h => h) (Or.inl ⟨by rfl, ?hyc5⟩) (by assumption) ?restc5
      case hyc5 => (intro w hSw; (try dsimp only at hSw); (try simp only [List.getElem_toArray, List.getElem_cons_zero, List.getElem_cons_succ]); go_simp; (try with_reducible rfl))
      (try simp only [Act.put, List.setIfInBounds_toArray, List.set_cons_zero, List.set_cons_succ, List.getElem_toArray, List.getElem_cons_zero, List.getElem_cons_succ])
      refine wpAnyH_take (i := 6) (oi := _) (v := ?vc6) rfl (by kernel_rfl) (by kernel_rfl) (by kernel_rfl) (fun _ _ _ h => h) (Or.inl ⟨by rfl, ?hyc6⟩) (by assumption) ?restc6
      case hyc6 => (intro w hSw; (try dsimp only at hSw); (try simp only [List.getElem_toArray, List.getElem_cons_zero, List.getElem_cons_succ]); go_simp; (try with_reducible rfl))
      (try simp only [Act.put, List.setIfInBounds_toArray, List.set_cons_zero, List.set_cons_succ, List.getElem_toArray, List.getElem_cons_zero, List.getElem_cons_succ])
      refine wpAnyH_ready (rs := [7]) (by kernel_rfl) (by simp) ?_
      refine AllReadyH.cons (o := _) rfl (fun K hK => ?_) AllReadyH.nil
      (try simp only [List.getElem_toArray, List.getElem_cons_zero, List.getElem_cons_succ])
      go_simp
      rw [HM.out]; (refine (fill_any _ g (o + d * 6) m _ F2 x _ (fun hp => ⟨by have := HNC.out; have := HD.out; rw [if_neg (by omega)], HL4.out.keep hg3 ((Keep.refl (fun _ => False) w3).drew) (fun x => x), hg3⟩) (by omega)).mono ?_); rintro e w4 ⟨rfl, hf⟩; have HF4 := Lib.hid hf; have HQ4 := Lib.hid (hf.keep.heap (show w3.drew.heap[q]? = _ from HQ2.out) (fun e => hgq e.symm)); clear hf
      refine hK.out _ _ ?_ (fun hHeld => ?_)
      · exact cells_six HQ4.out
      clear hK K
      (try simp only [Act.put, List.setIfInBounds_toArray, List.set_cons_zero, List.set_cons_succ, List.getElem_toArray, List.getElem_cons_zero, List.getElem_cons_succ])
      refine wpAnyH_done (by kernel_rfl) ?_ _
      refine NoPanic.normal ?_
      go_end0
      exact ⟨rfl, front_fills HG.out h0 hmn HK1.out (by rw [← HD.out]; exact HP3.out.drew) (by rw [← HD.out]; exact HF4.out)⟩

set_option maxRecDepth 100000 in
set_option maxHeartbeats 3200000 in
theorem toBack_any (A : Option Addr) (g o n c : Nat) (f : Nat → CellM) (x : CellM) (k : Int) (m : Nat) (w : World) (h : Sl w A g o n c f) (hn : n ≤ 100000) (hcm : c ≤ 9223372036854775807) (hm : min (max k 0) (n : Int) = (m : Int)) :
    Calls Try.prog 55 #[.slice A n c, .int .i64 k, x.v] w fun e w' => e = .returned (.tuple #[]) ∧ Fills g o n (backF f m x) w w' := by
  have hmn : m ≤ n := by omega
  have HW : Hid (∀ W, Calls Try.prog 44 #[.int .i64 k, .int .i64 0, .int .i64 n] W fun e w' => e = .returned (.int .i64 m) ∧ w' = W) := Lib.hid (fun W => by have := within_any k 0 n W; rwa [hm] at this)
  have hni : (n : Int) ≤ 100000 := by omega
  have hmi : (m : Int) ≤ (n : Int) := by omega
  have hm0 : (0 : Int) ≤ (m : Int) := by omega
  have hci : (c : Int) ≤ 9223372036854775807 := by omega
  clear hm
  rcases Nat.eq_zero_or_pos n with h0 | h0
  · have hmz : m = 0 := by omega
    subst hmz h0
    obtain ⟨rfl, rfl⟩ := h.zero rfl
    obtain ⟨w1, hw1⟩ : ∃ w1, w1 = w.alloc (.cells (vcells x) 42) := ⟨_, rfl⟩
    have HK1 : Hid (Keep (fun _ => False) w w1) := Lib.hid (by rw [hw1]; exact (Keep.refl _ w).alloc _)
    have HQ2 : Hid (w1.heap[w.heap.size]? = some (.cells (vcells x) 42 (0, 0))) := Lib.hid (by rw [hw1]; exact heap_alloc_new w _)
    have hcz := fun (W : World) => run_copy_zero (P := Try.prog) W 43 43 3 42 none none 0 0 0 0 6 Try.underlying43 cell_info rfl
    have hw0 : IntKind.i64.wrap 0 = 0 := by decide
    clear h hmi hni
    simp only [CellM.v]
    unfold vcells at hw1
    go_enter Try.func55, Try.ntmps55
    go_upto_region 1 with fail
    rw [← hw1]
    obtain ⟨q, hq⟩ : ∃ q, q = w.heap.size := ⟨_, rfl⟩
    rw [← hq] at HQ2
    rw [← hq]
    clear hw1 hq
    go_wp2_with fail
    refine (HW.out _).mono ?_
    rintro e w2 ⟨rfl, rfl⟩
    go_wp2_with fail
    refine wp_region_noPanic ?_
    refine wp_region_held_drew (S := fun w' => w'.cell? ⟨q, 0, none⟩ = some (.int .i32 x.r) ∧ w'.cell? ⟨q, 1, none⟩ = some (.int .i64 x.a.fg) ∧ w'.cell? ⟨q, 2, none⟩ = some (.int .i64 x.a.bg) ∧ w'.cell? ⟨q, 3, none⟩ = some (.bool x.a.b) ∧ w'.cell? ⟨q, 4, none⟩ = some (.bool x.a.u) ∧ w'.cell? ⟨q, 5, none⟩ = some (.bool x.a.i)) (by kernel_rfl) (cells_six HQ2.out) (fun hHeld => ?_)
    refine wpAnyH_take (i := 0) (oi := _) (v := ?vz0) rfl (by kernel_rfl) (by kernel_rfl) (by kernel_rfl) (fun _ _ _ h => h) (Or.inl ⟨by rfl, ?hyz0⟩) (by assumption) ?restz0
    case hyz0 => (intro w hSw; (try dsimp only at hSw); (try simp only [List.getElem_toArray, List.getElem_cons_zero, List.getElem_cons_succ]); go_simp; (try with_reducible rfl))
    (try simp only [Act.put, List.setIfInBounds_toArray, List.set_cons_zero, List.set_cons_succ, List.getElem_toArray, List.getElem_cons_zero, List.getElem_cons_succ])
    refine wpAnyH_take (i := 1) (oi := _) (v := ?vz1) rfl (by kernel_rfl) (by kernel_rfl) (by kernel_rfl) (fun _ _ _ h => h) (Or.inl ⟨by rfl, ?hyz1⟩) (by assumption) ?restz1
    case hyz1 => (intro w hSw; (try dsimp only at hSw); (try simp only [List.getElem_toArray, List.getElem_cons_zero, List.getElem_cons_succ]); go_simp; (try with_reducible rfl))
    (try simp only [Act.put, List.setIfInBounds_toArray, List.set_cons_zero, List.set_cons_succ, List.getElem_toArray, List.getElem_cons_zero, List.getElem_cons_succ])
    refine wpAnyH_take (i := 2) (oi := _) (v := ?vz2) rfl (by kernel_rfl) (by kernel_rfl) (by kernel_rfl) (fun _ _ _ h => h) (Or.inl ⟨by rfl, ?hyz2⟩) (by assumption) ?restz2
    case hyz2 => (intro w hSw; (try dsimp only at hSw); (try simp only [List.getElem_toArray, List.getElem_cons_zero, List.getElem_cons_succ]); go_simp; (try with_reducible rfl))
    (try simp only [Act.put, List.setIfInBounds_toArray, List.set_cons_zero, List.set_cons_succ, List.getElem_toArray, List.getElem_cons_zero, List.getElem_cons_succ])
    refine wpAnyH_take (i := 3) (oi := _) (v := ?vz3) rfl (by kernel_rfl) (by kernel_rfl) (by kernel_rfl) (fun _ _ _ h => h) (Or.inl ⟨by rfl, ?hyz3⟩) (by assumption) ?restz3
    case hyz3 => (intro w hSw; (try dsimp only at hSw); (try simp only [List.getElem_toArray, List.getElem_cons_zero, List.getElem_cons_succ]); go_simp; (try with_reducible rfl))
    (try simp only [Act.put, List.setIfInBounds_toArray, List.set_cons_zero, List.set_cons_succ, List.getElem_toArray, List.getElem_cons_zero, List.getElem_cons_succ])
    refine wpAnyH_ready (rs := [4]) (by kernel_rfl) (by simp) ?_
    refine AllReadyH.cons (o := _) rfl (fun K hK => ?_) AllReadyH.nil
    (try simp only [List.getElem_toArray, List.getElem_cons_zero, List.getElem_cons_succ])
    go_simp
    (refine (fill_any none g o 0 0 f x _ (fun h => absurd h (by omega)) (by omega)).mono ?_); rintro e w4 ⟨rfl, hf⟩; have HF4 := Lib.hid ((HK1.out.drew).trans (hf.2 rfl) (fun _ _ x => x)); have HQ4 := Lib.hid ((hf.2 rfl).heap (show w2.drew.heap[q]? = _ from HQ2.out) (fun x => x)); clear hf
    refine hK.out _ _ ?_ (fun hHeld => ?_)
    · exact cells_six HQ4.out
    clear hK K
    (try simp only [Act.put, List.setIfInBounds_toArray, List.set_cons_zero, List.set_cons_succ, List.getElem_toArray, List.getElem_cons_zero, List.getElem_cons_succ])
    refine wpAnyH_done (by kernel_rfl) ?_ _
    refine NoPanic.normal ?_
    go_end0
    exact ⟨rfl, fun h => absurd h (by omega), fun _ => HF4.out⟩
  · obtain ⟨rfl, hL, hg, hnc⟩ := h.pos h0
    obtain ⟨w1, hw1⟩ : ∃ w1, w1 = w.alloc (.cells (vcells x) 42) := ⟨_, rfl⟩
    have HK1 : Hid (Keep (fun _ => False) w w1) := Lib.hid (by rw [hw1]; exact (Keep.refl _ w).alloc _)
    have HL1 := Lib.hid (hL.keep hg HK1.out (fun x => x))
    have HQ1 : Hid (w1.heap[w.heap.size]? = some (.cells (vcells x) 42 (0, 0))) := Lib.hid (by rw [hw1]; exact heap_alloc_new w _)
    have hg1 : g < w1.heap.size := by have := HK1.out.size; omega
    have HG := Lib.hid hg
    have HNC := Lib.hid hnc
    have hnci : (n : Int) ≤ (c : Int) := by omega
    clear h hL hg hnc
    simp only [CellM.v]
    unfold vcells at hw1
    obtain ⟨d, hd⟩ : ∃ d, d = n - m := ⟨_, rfl⟩
    have hsub : (n : Int) - (m : Int) = (d : Int) := by omega
    have hdi : (d : Int) ≤ (n : Int) := by omega
    have hwd : IntKind.i64.wrap (d : Int) = (d : Int) := IntWalk.i64_in _ (by omega)
    have hwm : IntKind.i64.wrap (m : Int) = (m : Int) := IntWalk.i64_in _ (by omega)
    have hd0 : (0 : Int) ≤ (d : Int) := by omega
    have hdc : (d : Int) ≤ (c : Int) := by omega
    have hmc : (m : Int) ≤ (c : Int) := by omega
    have HD := Lib.hid hd
    have HM : Hid (n - d = m) := Lib.hid (by omega)
    clear hd
    by_cases hc1 : c = m
    · skip
      go_enter Try.func55, Try.ntmps55
      go_upto_region 1 with fail
      rw [← hw1]
      obtain ⟨q, hq⟩ : ∃ q, q = w.heap.size := ⟨_, rfl⟩
      rw [← hq] at HQ1
      rw [← hq]
      have hgq : g ≠ q := by have := HG.out; omega
      clear hw1 hq
      go_wp2_with fail
      refine (HW.out _).mono ?_
      rintro e w2 ⟨rfl, rfl⟩
      go_wp2_with (with_reducible refine wpList_copy_put rfl _ _ _ _ rfl 42 Try.underlying43 cell_info _ _ _ _ _ _ rfl rfl g (o + m * 6) g (o) d (fun j => f (m + j)) (fun j => f (j)) ?hma ?hDa ?hSa ?_)
      case hma => have := HD.out; simp; omega
      case hDa => exact fun hp => ⟨by omega, HL1.out.sub m d (by have := HD.out; omega), hg1⟩
      case hSa => exact fun hp => ⟨by rfl, by have := HL1.out.sub 0 d (by have := HD.out; omega); simpa using this, hg1⟩
      intro w3 hp3
      have HP3 := Lib.hid hp3
      have HQ2 := Lib.hid (hp3.keep.heap HQ1.out (fun e => hgq e.symm))
      have HL3 := Lib.hid (PutC.lies HL1.out (a := m) HP3.out (by have := HD.out; omega))
      have hg3 : g < w3.heap.size := by have := hp3.keep.size; omega
      obtain ⟨F2, hF2⟩ : ∃ F2, Lies w3 g (o) m F2 := ⟨_, (by have := HL3.out.sub 0 m (by have := HD.out; omega); simpa using this)⟩
      have HL4 := Lib.hid hF2
      clear hp3 hF2
      go_wp2_with fail
      refine wp_region_noPanic ?_
      refine wp_region_held_drew (S := fun w' => w'.cell? ⟨q, 0, none⟩ = some (.int .i32 x.r) ∧ w'.cell? ⟨q, 1, none⟩ = some (.int .i64 x.a.fg) ∧ w'.cell? ⟨q, 2, none⟩ = some (.int .i64 x.a.bg) ∧ w'.cell? ⟨q, 3, none⟩ = some (.bool x.a.b) ∧ w'.cell? ⟨q, 4, none⟩ = some (.bool x.a.u) ∧ w'.cell? ⟨q, 5, none⟩ = some (.bool x.a.i)) (by kernel_rfl) (cells_six HQ2.out) (fun hHeld => ?_)
      refine wpAnyH_take (i := 0) (oi := _) (v := ?va0) rfl (by kernel_rfl) (by kernel_rfl) (by kernel_rfl) (fun _ _ _ h => h) (Or.inl ⟨by rfl, ?hya0⟩) (by assumption) ?resta0
      case hya0 => (intro w hSw; (try dsimp only at hSw); (try simp only [List.getElem_toArray, List.getElem_cons_zero, List.getElem_cons_succ]); go_simp; (try with_reducible rfl))
      (try simp only [Act.put, List.setIfInBounds_toArray, List.set_cons_zero, List.set_cons_succ, List.getElem_toArray, List.getElem_cons_zero, List.getElem_cons_succ])
      refine wpAnyH_take (i := 1) (oi := _) (v := ?va1) rfl (by kernel_rfl) (by kernel_rfl) (by kernel_rfl) (fun _ _ _ h => h) (Or.inl ⟨by rfl, ?hya1⟩) (by assumption) ?resta1
      case hya1 => (intro w hSw; (try dsimp only at hSw); (try simp only [List.getElem_toArray, List.getElem_cons_zero, List.getElem_cons_succ]); go_simp; (try with_reducible rfl))
      (try simp only [Act.put, List.setIfInBounds_toArray, List.set_cons_zero, List.set_cons_succ, List.getElem_toArray, List.getElem_cons_zero, List.getElem_cons_succ])
      refine wpAnyH_take (i := 2) (oi := _) (v := ?va2) rfl (by kernel_rfl) (by kernel_rfl) (by kernel_rfl) (fun _ _ _ h => h) (Or.inl ⟨by rfl, ?hya2⟩) (by assumption) ?resta2
      case hya2 => (intro w hSw; (try dsimp only at hSw); (try simp only [List.getElem_toArray, List.getElem_cons_zero, List.getElem_cons_succ]); go_simp; (try with_reducible rfl))
      (try simp only [Act.put, List.setIfInBounds_toArray, List.set_cons_zero, List.set_cons_succ, List.getElem_toArray, List.getElem_cons_zero, List.getElem_cons_succ])
      refine wpAnyH_take (i := 3) (oi := _) (v := ?va3) rfl (by kernel_rfl) (by kernel_rfl) (by kernel_rfl) (fun _ _ _ h => h) (Or.inl ⟨by rfl, ?hya3⟩) (by assumption) ?resta3
      case hya3 => (intro w hSw; (try dsimp only at hSw); (try simp only [List.getElem_toArray, List.getElem_cons_zero, List.getElem_cons_succ]); go_simp; (try with_reducible rfl))
      (try simp only [Act.put, List.setIfInBounds_toArray, List.set_cons_zero, List.set_cons_succ, List.getElem_toArray, List.getElem_cons_zero, List.getElem_cons_succ])
      refine wpAnyH_ready (rs := [4]) (by kernel_rfl) (by simp) ?_
      refine AllReadyH.cons (o := _) rfl (fun K hK => ?_) AllReadyH.nil
      (try simp only [List.getElem_toArray, List.getElem_cons_zero, List.getElem_cons_succ])
      go_simp
      (refine (fill_any _ g (o) m _ F2 x _ (fun hp => ⟨by rfl, HL4.out.keep hg3 ((Keep.refl (fun _ => False) w3).drew) (fun x => x), hg3⟩) (by omega)).mono ?_); rintro e w4 ⟨rfl, hf⟩; have HF4 := Lib.hid hf; have HQ4 := Lib.hid (hf.keep.heap (show w3.drew.heap[q]? = _ from HQ2.out) (fun e => hgq e.symm)); clear hf
      refine hK.out _ _ ?_ (fun hHeld => ?_)
      · exact cells_six HQ4.out
      clear hK K
      (try simp only [Act.put, List.setIfInBounds_toArray, List.set_cons_zero, List.set_cons_succ, List.getElem_toArray, List.getElem_cons_zero, List.getElem_cons_succ])
      refine wpAnyH_done (by kernel_rfl) ?_ _
      refine NoPanic.normal ?_
      go_end0
      exact ⟨rfl, back_fills HG.out h0 hmn HK1.out (by rw [← HD.out]; exact HP3.out.drew) HF4.out⟩
    · skip
      go_enter Try.func55, Try.ntmps55
      go_upto_region 1 with fail
      rw [← hw1]
      obtain ⟨q, hq⟩ : ∃ q, q = w.heap.size := ⟨_, rfl⟩
      rw [← hq] at HQ1
      rw [← hq]
      have hgq : g ≠ q := by have := HG.out; omega
      clear hw1 hq
      go_wp2_with fail
      refine (HW.out _).mono ?_
      rintro e w2 ⟨rfl, rfl⟩
      go_wp2_with (with_reducible refine wpList_copy_put rfl _ _ _ _ rfl 42 Try.underlying43 cell_info _ _ _ _ _ _ rfl rfl g (o + m * 6) g (o) d (fun j => f (m + j)) (fun j => f (j)) ?hmb ?hDb ?hSb ?_)
      case hmb => have := HD.out; simp; omega
      case hDb => exact fun hp => ⟨by rfl, HL1.out.sub m d (by have := HD.out; omega), hg1⟩
      case hSb => exact fun hp => ⟨by rfl, by have := HL1.out.sub 0 d (by have := HD.out; omega); simpa using this, hg1⟩
      intro w3 hp3
      have HP3 := Lib.hid hp3
      have HQ2 := Lib.hid (hp3.keep.heap HQ1.out (fun e => hgq e.symm))
      have HL3 := Lib.hid (PutC.lies HL1.out (a := m) HP3.out (by have := HD.out; omega))
      have hg3 : g < w3.heap.size := by have := hp3.keep.size; omega
      obtain ⟨F2, hF2⟩ : ∃ F2, Lies w3 g (o) m F2 := ⟨_, (by have := HL3.out.sub 0 m (by have := HD.out; omega); simpa using this)⟩
      have HL4 := Lib.hid hF2
      clear hp3 hF2
      go_wp2_with fail
      refine wp_region_noPanic ?_
      refine wp_region_held_drew (S := fun w' => w'.cell? ⟨q, 0, none⟩ = some (.int .i32 x.r) ∧ w'.cell? ⟨q, 1, none⟩ = some (.int .i64 x.a.fg) ∧ w'.cell? ⟨q, 2, none⟩ = some (.int .i64 x.a.bg) ∧ w'.cell? ⟨q, 3, none⟩ = some (.bool x.a.b) ∧ w'.cell? ⟨q, 4, none⟩ = some (.bool x.a.u) ∧ w'.cell? ⟨q, 5, none⟩ = some (.bool x.a.i)) (by kernel_rfl) (cells_six HQ2.out) (fun hHeld => ?_)
      refine wpAnyH_take (i := 0) (oi := _) (v := ?vb0) rfl (by kernel_rfl) (by kernel_rfl) (by kernel_rfl) (fun _ _ _ h => h) (Or.inl ⟨by rfl, ?hyb0⟩) (by assumption) ?restb0
      case hyb0 => (intro w hSw; (try dsimp only at hSw); (try simp only [List.getElem_toArray, List.getElem_cons_zero, List.getElem_cons_succ]); go_simp; (try with_reducible rfl))
      (try simp only [Act.put, List.setIfInBounds_toArray, List.set_cons_zero, List.set_cons_succ, List.getElem_toArray, List.getElem_cons_zero, List.getElem_cons_succ])
      refine wpAnyH_take (i := 1) (oi := _) (v := ?vb1) rfl (by kernel_rfl) (by kernel_rfl) (by kernel_rfl) (fun _ _ _ h => h) (Or.inl ⟨by rfl, ?hyb1⟩) (by assumption) ?restb1
      case hyb1 => (intro w hSw; (try dsimp only at hSw); (try simp only [List.getElem_toArray, List.getElem_cons_zero, List.getElem_cons_succ]); go_simp; (try with_reducible rfl))
      (try simp only [Act.put, List.setIfInBounds_toArray, List.set_cons_zero, List.set_cons_succ, List.getElem_toArray, List.getElem_cons_zero, List.getElem_cons_succ])
      refine wpAnyH_take (i := 2) (oi := _) (v := ?vb2) rfl (by kernel_rfl) (by kernel_rfl) (by kernel_rfl) (fun _ _ _ h => h) (Or.inl ⟨by rfl, ?hyb2⟩) (by assumption) ?restb2
      case hyb2 => (intro w hSw; (try dsimp only at hSw); (try simp only [List.getElem_toArray, List.getElem_cons_zero, List.getElem_cons_succ]); go_simp; (try with_reducible rfl))
      (try simp only [Act.put, List.setIfInBounds_toArray, List.set_cons_zero, List.set_cons_succ, List.getElem_toArray, List.getElem_cons_zero, List.getElem_cons_succ])
      refine wpAnyH_take (i := 3) (oi := _) (v := ?vb3) rfl (by kernel_rfl) (by kernel_rfl) (by kernel_rfl) (fun _ _ _ h => h) (Or.inl ⟨by rfl, ?hyb3⟩) (by assumption) ?restb3
      case hyb3 => (intro w hSw; (try dsimp only at hSw); (try simp only [List.getElem_toArray, List.getElem_cons_zero, List.getElem_cons_succ]); go_simp; (try with_reducible rfl))
      (try simp only [Act.put, List.setIfInBounds_toArray, List.set_cons_zero, List.set_cons_succ, List.getElem_toArray, List.getElem_cons_zero, List.getElem_cons_succ])
      refine wpAnyH_ready (rs := [4]) (by kernel_rfl) (by simp) ?_
      refine AllReadyH.cons (o := _) rfl (fun K hK => ?_) AllReadyH.nil
      (try simp only [List.getElem_toArray, List.getElem_cons_zero, List.getElem_cons_succ])
      go_simp
      (refine (fill_any _ g (o) m _ F2 x _ (fun hp => ⟨by rfl, HL4.out.keep hg3 ((Keep.refl (fun _ => False) w3).drew) (fun x => x), hg3⟩) (by omega)).mono ?_); rintro e w4 ⟨rfl, hf⟩; have HF4 := Lib.hid hf; have HQ4 := Lib.hid (hf.keep.heap (show w3.drew.heap[q]? = _ from HQ2.out) (fun e => hgq e.symm)); clear hf
      refine hK.out _ _ ?_ (fun hHeld => ?_)
      · exact cells_six HQ4.out
      clear hK K
      (try simp only [Act.put, List.setIfInBounds_toArray, List.set_cons_zero, List.set_cons_succ, List.getElem_toArray, List.getElem_cons_zero, List.getElem_cons_succ])
      refine wpAnyH_done (by kernel_rfl) ?_ _
      refine NoPanic.normal ?_
      go_end0
      exact ⟨rfl, back_fills HG.out h0 hmn HK1.out (by rw [← HD.out]; exact HP3.out.drew) HF4.out⟩

end Go.Proofs.Ytbjdcbnmpmcdiaa
