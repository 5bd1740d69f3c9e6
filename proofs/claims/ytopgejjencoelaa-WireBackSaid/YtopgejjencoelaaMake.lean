/- nvt.makeTable. Own work (by nvtmake.gen.py). -/
import Derived.Test.YtopgejjencoelaaTable
import Derived.RegionTactic
import Derived.RegionCalls
import Derived.Deep.CutRange
import Derived.Deep.DeepCutAuto
namespace Go.Proofs.Ytopgejjencoelaa
set_option linter.unusedVariables false
set_option linter.unusedSimpArgs false
open Go.RowKit

/-- The table's cells. -/
def tabV : Array Value := (tabL.map fun (n : Nat) => Value.int .u8 n).toArray

def zero98 : Array Value := (List.replicate 98 (Value.int .u8 0)).toArray
theorem zero_table (w : World) : (zeroValue 57).run Try.prog w = .ok (.agg zero98) w := by kernel_rfl
theorem table_info : (Try.prog.info? 57).map (·.size) = some 98 := by kernel_rfl

/-- A row of the table in memory. -/
def Trow (w : World) (g : Nat) (cs : Array Value) : Prop := w.heap[g]? = some (.cells cs 56 (0, 0))
theorem Trow.below {w w' : World} {g : Nat} {cs : Array Value} (h : Trow w g cs) (k : Below w.heap.size w w') : Trow w' g cs := (k.block g (lt_heap h)).trans h
theorem Trow.alloc {w : World} {g : Nat} {cs : Array Value} (h : Trow w g cs) (o : Obj) : Trow (w.alloc o) g cs := heap_alloc h o
theorem Trow.lt {w : World} {g : Nat} {cs : Array Value} (h : Trow w g cs) : g < w.heap.size := lt_heap h

theorem run_load_op {P : Program} {ρ : Operand → Value} {o : Oper} {w : World} (ty : TypeId) (x : Operand) (ho : o.op = .load ty x) (g : Nat) (hx : ρ x = .pointer (some ⟨g, 0, none⟩)) (t : TypeId) (cs : Array Value) (fr : Nat × Nat) (d : TypeDesc) (hg : w.heap[g]? = some (.cells cs t fr))
    (hu : P.underlying ty = some d) (hd : (match d with | .struct _ | .array _ _ => true | _ => false) = true) (hi : (P.info? ty).map (·.size) = some cs.size) : (execOp ρ o).run P w = .ok (.value (.agg cs)) w := by
  unfold execOp
  simp only [ho, hx, Instr.loadAt, Instr.sureAddr, Sem.run_bind, Sem.run_pure, Result.andThen_ok, run_loadVar_row w g t ty cs fr d hg hu hd hi]

theorem run_build_op {P : Program} {ρ : Operand → Value} {o : Oper} {w : World} (t : TypeId) (parts : Array (Nat × Operand)) (ho : o.op = .build t parts) (cells : Array Value)
    (h : P.built t (parts.map fun (i, x) => (i, ρ x)).toList = some cells) : (execOp ρ o).run P w = .ok (.value (.agg cells)) w := by
  unfold execOp
  simp only [ho, Sem.run_bind, run_build w t _ cells h, Result.andThen_ok, Sem.run_pure]

theorem every_is (a b : Int) (cs : Array Value) (h : rowK a b 7 = cs) (w : World) :
    Calls Try.prog 45 #[.agg #[.int .u8 a, .int .u8 b]] w fun e w' => e = .returned (.agg cs) ∧ Below w.heap.size w w' := h ▸ every_any a b w

set_option maxRecDepth 100000 in
set_option maxHeartbeats 1600000 in
theorem make_any (w : World) :
    Calls Try.prog 36 #[] w fun e w' => e = .returned (.agg tabV) ∧ Below w.heap.size w w' := by
  obtain ⟨g0, hg0⟩ : ∃ g0, g0 = w.heap.size := ⟨_, rfl⟩
  have G0 := Lib.hid hg0
  have hzero := zero_table
  obtain ⟨Z, hZ⟩ : ∃ Z, Z = zero98 := ⟨_, rfl⟩
  rw [← hZ] at hzero
  have HZ := Lib.hid hZ
  clear hg0 hZ
  go_enter Try.func36, Try.ntmps36
  go_wp2_with fail
  rw [← G0.out]
  refine (every_is 0 1 #[.int .u8 0, .int .u8 1, .int .u8 0, .int .u8 1, .int .u8 0, .int .u8 1, .int .u8 0, .int .u8 1, .int .u8 0, .int .u8 1, .int .u8 0, .int .u8 1, .int .u8 0, .int .u8 1] rfl _).mono ?_
  rintro e w1 ⟨rfl, hb1⟩
  have B1 := Lib.hid hb1
  clear hb1
  go_wp2_with fail
  refine (every_is 0 2 #[.int .u8 0, .int .u8 2, .int .u8 0, .int .u8 2, .int .u8 0, .int .u8 2, .int .u8 0, .int .u8 2, .int .u8 0, .int .u8 2, .int .u8 0, .int .u8 2, .int .u8 0, .int .u8 2] rfl _).mono ?_
  rintro e w2 ⟨rfl, hb2⟩
  have T1 : Hid (Trow w2 w1.heap.size #[.int .u8 0, .int .u8 1, .int .u8 0, .int .u8 1, .int .u8 1, .int .u8 1, .int .u8 0, .int .u8 1, .int .u8 0, .int .u8 1, .int .u8 0, .int .u8 1, .int .u8 2, .int .u8 0]) := Lib.hid (Trow.below (Trow.alloc (heap_alloc_new w1 _) _) hb2)
  have T2 : Hid (Trow w2 (w1.heap.size + 1) #[.int .u8 0, .int .u8 1, .int .u8 0, .int .u8 0, .int .u8 1, .int .u8 1, .int .u8 0, .int .u8 1, .int .u8 0, .int .u8 1, .int .u8 0, .int .u8 1, .int .u8 2, .int .u8 0]) := Lib.hid (Trow.below (by
    have := heap_alloc_new (w1.alloc (.cells #[.int .u8 0, .int .u8 1, .int .u8 0, .int .u8 1, .int .u8 1, .int .u8 1, .int .u8 0, .int .u8 1, .int .u8 0, .int .u8 1, .int .u8 0, .int .u8 1, .int .u8 2, .int .u8 0] 56)) (.cells #[.int .u8 0, .int .u8 1, .int .u8 0, .int .u8 0, .int .u8 1, .int .u8 1, .int .u8 0, .int .u8 1, .int .u8 0, .int .u8 1, .int .u8 0, .int .u8 1, .int .u8 2, .int .u8 0] 56)
    rwa [show (w1.alloc (.cells #[.int .u8 0, .int .u8 1, .int .u8 0, .int .u8 1, .int .u8 1, .int .u8 1, .int .u8 0, .int .u8 1, .int .u8 0, .int .u8 1, .int .u8 0, .int .u8 1, .int .u8 2, .int .u8 0] 56)).heap.size = w1.heap.size + 1 from by simp] at this) hb2)
  have B2 : Hid (Below w1.heap.size w1 w2) := Lib.hid ((((Below.refl _ w1).alloc (Nat.le_refl _) _).alloc (by simp) _).trans (hb2.mono (by simp; omega)))
  clear hb2
  go_wp2_with fail
  refine (every_is 5 7 #[.int .u8 5, .int .u8 7, .int .u8 5, .int .u8 7, .int .u8 5, .int .u8 7, .int .u8 5, .int .u8 7, .int .u8 5, .int .u8 7, .int .u8 5, .int .u8 7, .int .u8 5, .int .u8 7] rfl _).mono ?_
  rintro e w3 ⟨rfl, hb3⟩
  have T3 : Hid (Trow w3 w2.heap.size #[.int .u8 0, .int .u8 2, .int .u8 0, .int .u8 2, .int .u8 0, .int .u8 2, .int .u8 0, .int .u8 2, .int .u8 4, .int .u8 5, .int .u8 3, .int .u8 3, .int .u8 0, .int .u8 1]) := Lib.hid (Trow.below (heap_alloc_new w2 _) hb3)
  have U1 := Lib.hid ((T1.out.alloc (.cells #[.int .u8 0, .int .u8 2, .int .u8 0, .int .u8 2, .int .u8 0, .int .u8 2, .int .u8 0, .int .u8 2, .int .u8 4, .int .u8 5, .int .u8 3, .int .u8 3, .int .u8 0, .int .u8 1] 56)).below hb3)
  have U2 := Lib.hid ((T2.out.alloc (.cells #[.int .u8 0, .int .u8 2, .int .u8 0, .int .u8 2, .int .u8 0, .int .u8 2, .int .u8 0, .int .u8 2, .int .u8 4, .int .u8 5, .int .u8 3, .int .u8 3, .int .u8 0, .int .u8 1] 56)).below hb3)
  have B3 : Hid (Below w2.heap.size w2 w3) := Lib.hid (((Below.refl _ w2).alloc (Nat.le_refl _) _).trans (hb3.mono (by simp)))
  have L3 : Hid ((w3.alloc (.cells #[.int .u8 5, .int .u8 7, .int .u8 5, .int .u8 7, .int .u8 5, .int .u8 7, .int .u8 5, .int .u8 7, .int .u8 5, .int .u8 7, .int .u8 5, .int .u8 7, .int .u8 6, .int .u8 0] 56)).heap[w2.heap.size]? = some (.cells #[.int .u8 0, .int .u8 2, .int .u8 0, .int .u8 2, .int .u8 0, .int .u8 2, .int .u8 0, .int .u8 2, .int .u8 4, .int .u8 5, .int .u8 3, .int .u8 3, .int .u8 0, .int .u8 1] 56 (0, 0))) := Lib.hid (T3.out.alloc _)
  have HI : Hid ((Try.prog.info? 56).map (·.size) = some (#[.int .u8 0, .int .u8 2, .int .u8 0, .int .u8 2, .int .u8 0, .int .u8 2, .int .u8 0, .int .u8 2, .int .u8 4, .int .u8 5, .int .u8 3, .int .u8 3, .int .u8 0, .int .u8 1] : Array Value).size) := row_info
  clear hb3 T1 T2
  go_upto_region 15 with (with_reducible refine wpList_load_row rfl 56 (.tmp 3) rfl w2.heap.size rfl 56 #[.int .u8 0, .int .u8 2, .int .u8 0, .int .u8 2, .int .u8 0, .int .u8 2, .int .u8 0, .int .u8 2, .int .u8 4, .int .u8 5, .int .u8 3, .int .u8 3, .int .u8 0, .int .u8 1] (0, 0) _ L3.out Try.underlying56 rfl HI.out ?_)
  obtain ⟨W, hW⟩ : ∃ W, W = (w3.alloc (.cells #[.int .u8 5, .int .u8 7, .int .u8 5, .int .u8 7, .int .u8 5, .int .u8 7, .int .u8 5, .int .u8 7, .int .u8 5, .int .u8 7, .int .u8 5, .int .u8 7, .int .u8 6, .int .u8 0] 56)).alloc (.cells #[.int .u8 0, .int .u8 2, .int .u8 0, .int .u8 2, .int .u8 0, .int .u8 2, .int .u8 0, .int .u8 8, .int .u8 4, .int .u8 5, .int .u8 3, .int .u8 3, .int .u8 5, .int .u8 7] 56) := ⟨_, rfl⟩
  rw [← hW]
  have R1 : Trow W w1.heap.size #[.int .u8 0, .int .u8 1, .int .u8 0, .int .u8 1, .int .u8 1, .int .u8 1, .int .u8 0, .int .u8 1, .int .u8 0, .int .u8 1, .int .u8 0, .int .u8 1, .int .u8 2, .int .u8 0] := by rw [hW]; exact (U1.out.alloc _).alloc _
  have R2 : Trow W (w1.heap.size + 1) #[.int .u8 0, .int .u8 1, .int .u8 0, .int .u8 0, .int .u8 1, .int .u8 1, .int .u8 0, .int .u8 1, .int .u8 0, .int .u8 1, .int .u8 0, .int .u8 1, .int .u8 2, .int .u8 0] := by rw [hW]; exact (U2.out.alloc _).alloc _
  have R3 : Trow W w2.heap.size #[.int .u8 0, .int .u8 2, .int .u8 0, .int .u8 2, .int .u8 0, .int .u8 2, .int .u8 0, .int .u8 2, .int .u8 4, .int .u8 5, .int .u8 3, .int .u8 3, .int .u8 0, .int .u8 1] := by rw [hW]; exact (T3.out.alloc _).alloc _
  have R4 : Trow W w3.heap.size #[.int .u8 5, .int .u8 7, .int .u8 5, .int .u8 7, .int .u8 5, .int .u8 7, .int .u8 5, .int .u8 7, .int .u8 5, .int .u8 7, .int .u8 5, .int .u8 7, .int .u8 6, .int .u8 0] := by rw [hW]; exact Trow.alloc (heap_alloc_new w3 _) _
  have R5 : Trow W (w3.heap.size + 1) #[.int .u8 0, .int .u8 2, .int .u8 0, .int .u8 2, .int .u8 0, .int .u8 2, .int .u8 0, .int .u8 8, .int .u8 4, .int .u8 5, .int .u8 3, .int .u8 3, .int .u8 5, .int .u8 7] := by
    rw [hW]
    have := heap_alloc_new (w3.alloc (.cells #[.int .u8 5, .int .u8 7, .int .u8 5, .int .u8 7, .int .u8 5, .int .u8 7, .int .u8 5, .int .u8 7, .int .u8 5, .int .u8 7, .int .u8 5, .int .u8 7, .int .u8 6, .int .u8 0] 56)) (.cells #[.int .u8 0, .int .u8 2, .int .u8 0, .int .u8 2, .int .u8 0, .int .u8 2, .int .u8 0, .int .u8 8, .int .u8 4, .int .u8 5, .int .u8 3, .int .u8 3, .int .u8 5, .int .u8 7] 56)
    rwa [show (w3.alloc (.cells #[.int .u8 5, .int .u8 7, .int .u8 5, .int .u8 7, .int .u8 5, .int .u8 7, .int .u8 5, .int .u8 7, .int .u8 5, .int .u8 7, .int .u8 5, .int .u8 7, .int .u8 6, .int .u8 0] 56)).heap.size = w3.heap.size + 1 from by simp] at this
  have R0 : W.heap[g0]? = some (.cells Z 57 (0, 0)) := by
    have h0 : (w.alloc (.cells Z 57)).heap[g0]? = some (.cells Z 57 (0, 0)) := by rw [G0.out]; exact heap_alloc_new w _
    have h1 := (B1.out.block g0 (lt_heap h0)).trans h0
    have h2 := (B2.out.block g0 (lt_heap h1)).trans h1
    have h3 := (B3.out.block g0 (lt_heap h2)).trans h2
    rw [hW]
    exact heap_alloc (heap_alloc h3 _) _
  have BW : Hid (Below g0 w W) := by
    have b0 : Below g0 w (w.alloc (.cells Z 57)) := by rw [G0.out]; exact (Below.refl _ w).alloc (Nat.le_refl _) _
    have b1 : Below g0 w w1 := b0.trans (B1.out.mono (by rw [G0.out]; simp))
    have b2 : Below g0 w w2 := b1.trans (B2.out.mono (by have := b1.size; rw [G0.out]; exact this))
    have b3 : Below g0 w w3 := b2.trans (B3.out.mono (by have := b2.size; rw [G0.out]; exact this))
    rw [hW]
    exact (b3.alloc (by have := b3.size; rw [G0.out]; exact this) _).alloc (by have := b3.size; rw [G0.out]; simp; omega) _
  have L1 : g0 < w1.heap.size := by
    have h1 := B1.out.size
    have h2 : (w.alloc (.cells Z 57)).heap.size = w.heap.size + 1 := by simp
    rw [G0.out]
    omega
  have L2 := B2.out.size
  have L3 := B3.out.size
  have HT : Hid (tabV = #[.int .u8 0, .int .u8 1, .int .u8 0, .int .u8 1, .int .u8 1, .int .u8 1, .int .u8 0, .int .u8 1, .int .u8 0, .int .u8 1, .int .u8 0, .int .u8 1, .int .u8 2, .int .u8 0] ++ #[.int .u8 0, .int .u8 1, .int .u8 0, .int .u8 0, .int .u8 1, .int .u8 1, .int .u8 0, .int .u8 1, .int .u8 0, .int .u8 1, .int .u8 0, .int .u8 1, .int .u8 2, .int .u8 0] ++ #[.int .u8 0, .int .u8 2, .int .u8 0, .int .u8 2, .int .u8 0, .int .u8 2, .int .u8 0, .int .u8 2, .int .u8 4, .int .u8 5, .int .u8 3, .int .u8 3, .int .u8 0, .int .u8 1] ++ #[.int .u8 0, .int .u8 4, .int .u8 0, .int .u8 4, .int .u8 0, .int .u8 4, .int .u8 0, .int .u8 4, .int .u8 0, .int .u8 4, .int .u8 0, .int .u8 4, .int .u8 0, .int .u8 4] ++ #[.int .u8 5, .int .u8 6, .int .u8 5, .int .u8 6, .int .u8 5, .int .u8 6, .int .u8 5, .int .u8 6, .int .u8 5, .int .u8 6, .int .u8 5, .int .u8 6, .int .u8 5, .int .u8 6] ++ #[.int .u8 5, .int .u8 7, .int .u8 5, .int .u8 7, .int .u8 5, .int .u8 7, .int .u8 5, .int .u8 7, .int .u8 5, .int .u8 7, .int .u8 5, .int .u8 7, .int .u8 6, .int .u8 0] ++ #[.int .u8 0, .int .u8 2, .int .u8 0, .int .u8 2, .int .u8 0, .int .u8 2, .int .u8 0, .int .u8 8, .int .u8 4, .int .u8 5, .int .u8 3, .int .u8 3, .int .u8 5, .int .u8 7]) := by show _ = _; rfl
  clear U1 U2 T3 hW B1 B2 B3
  refine wp_region_noPanic ?_
  refine wp_region_held_drew (S := fun w' => Trow w' w1.heap.size #[.int .u8 0, .int .u8 1, .int .u8 0, .int .u8 1, .int .u8 1, .int .u8 1, .int .u8 0, .int .u8 1, .int .u8 0, .int .u8 1, .int .u8 0, .int .u8 1, .int .u8 2, .int .u8 0] ∧ Trow w' (w1.heap.size + 1) #[.int .u8 0, .int .u8 1, .int .u8 0, .int .u8 0, .int .u8 1, .int .u8 1, .int .u8 0, .int .u8 1, .int .u8 0, .int .u8 1, .int .u8 0, .int .u8 1, .int .u8 2, .int .u8 0] ∧ Trow w' w2.heap.size #[.int .u8 0, .int .u8 2, .int .u8 0, .int .u8 2, .int .u8 0, .int .u8 2, .int .u8 0, .int .u8 2, .int .u8 4, .int .u8 5, .int .u8 3, .int .u8 3, .int .u8 0, .int .u8 1] ∧ Trow w' w3.heap.size #[.int .u8 5, .int .u8 7, .int .u8 5, .int .u8 7, .int .u8 5, .int .u8 7, .int .u8 5, .int .u8 7, .int .u8 5, .int .u8 7, .int .u8 5, .int .u8 7, .int .u8 6, .int .u8 0] ∧ Trow w' (w3.heap.size + 1) #[.int .u8 0, .int .u8 2, .int .u8 0, .int .u8 2, .int .u8 0, .int .u8 2, .int .u8 0, .int .u8 8, .int .u8 4, .int .u8 5, .int .u8 3, .int .u8 3, .int .u8 5, .int .u8 7]) (by kernel_rfl) ⟨R1, R2, R3, R4, R5⟩ (fun hHeld => ?_)
  have HBT : Hid (Try.prog.built 57 [(0, .agg #[.int .u8 0, .int .u8 1, .int .u8 0, .int .u8 1, .int .u8 1, .int .u8 1, .int .u8 0, .int .u8 1, .int .u8 0, .int .u8 1, .int .u8 0, .int .u8 1, .int .u8 2, .int .u8 0]), (1, .agg #[.int .u8 0, .int .u8 1, .int .u8 0, .int .u8 0, .int .u8 1, .int .u8 1, .int .u8 0, .int .u8 1, .int .u8 0, .int .u8 1, .int .u8 0, .int .u8 1, .int .u8 2, .int .u8 0]), (2, .agg #[.int .u8 0, .int .u8 2, .int .u8 0, .int .u8 2, .int .u8 0, .int .u8 2, .int .u8 0, .int .u8 2, .int .u8 4, .int .u8 5, .int .u8 3, .int .u8 3, .int .u8 0, .int .u8 1]), (3, .agg #[.int .u8 0, .int .u8 4, .int .u8 0, .int .u8 4, .int .u8 0, .int .u8 4, .int .u8 0, .int .u8 4, .int .u8 0, .int .u8 4, .int .u8 0, .int .u8 4, .int .u8 0, .int .u8 4]), (4, .agg #[.int .u8 5, .int .u8 6, .int .u8 5, .int .u8 6, .int .u8 5, .int .u8 6, .int .u8 5, .int .u8 6, .int .u8 5, .int .u8 6, .int .u8 5, .int .u8 6, .int .u8 5, .int .u8 6]), (5, .agg #[.int .u8 5, .int .u8 7, .int .u8 5, .int .u8 7, .int .u8 5, .int .u8 7, .int .u8 5, .int .u8 7, .int .u8 5, .int .u8 7, .int .u8 5, .int .u8 7, .int .u8 6, .int .u8 0]), (6, .agg #[.int .u8 0, .int .u8 2, .int .u8 0, .int .u8 2, .int .u8 0, .int .u8 2, .int .u8 0, .int .u8 8, .int .u8 4, .int .u8 5, .int .u8 3, .int .u8 3, .int .u8 5, .int .u8 7])] = some tabV) := Lib.hid (by kernel_rfl)
  have HTI : Hid ((Try.prog.info? 57).map (·.size) = some tabV.size) := table_info
  have HTO : Hid (Z.size = tabV.size) := by show _ = _; rw [HZ.out]; rfl
  have HT1 : Hid (tabV.all (·.oneCell') = true) := Lib.hid (by unfold tabV tabL; simp [Value.oneCell'])
  refine wpAnyH_take (i := 0) (oi := _) (v := .agg #[.int .u8 0, .int .u8 1, .int .u8 0, .int .u8 1, .int .u8 1, .int .u8 1, .int .u8 0, .int .u8 1, .int .u8 0, .int .u8 1, .int .u8 0, .int .u8 1, .int .u8 2, .int .u8 0]) rfl (by kernel_rfl) (by kernel_rfl) (by kernel_rfl) (fun _ _ _ h => h) (Or.inl ⟨by rfl, ?hy0⟩) (by assumption) ?rest0
  case hy0 => (intro w hSw; (try dsimp only at hSw); (try simp only [List.getElem_toArray, List.getElem_cons_zero, List.getElem_cons_succ]); exact run_load_op 56 (.tmp 1) rfl (w1.heap.size) rfl 56 #[.int .u8 0, .int .u8 1, .int .u8 0, .int .u8 1, .int .u8 1, .int .u8 1, .int .u8 0, .int .u8 1, .int .u8 0, .int .u8 1, .int .u8 0, .int .u8 1, .int .u8 2, .int .u8 0] (0, 0) _ hSw.1 Try.underlying56 rfl HI.out)
  (try simp only [Act.put, List.setIfInBounds_toArray, List.set_cons_zero, List.set_cons_succ, List.getElem_toArray, List.getElem_cons_zero, List.getElem_cons_succ])
  refine wpAnyH_take (i := 1) (oi := _) (v := .agg #[.int .u8 0, .int .u8 1, .int .u8 0, .int .u8 0, .int .u8 1, .int .u8 1, .int .u8 0, .int .u8 1, .int .u8 0, .int .u8 1, .int .u8 0, .int .u8 1, .int .u8 2, .int .u8 0]) rfl (by kernel_rfl) (by kernel_rfl) (by kernel_rfl) (fun _ _ _ h => h) (Or.inl ⟨by rfl, ?hy1⟩) (by assumption) ?rest1
  case hy1 => (intro w hSw; (try dsimp only at hSw); (try simp only [List.getElem_toArray, List.getElem_cons_zero, List.getElem_cons_succ]); exact run_load_op 56 (.tmp 2) rfl (w1.heap.size + 1) rfl 56 #[.int .u8 0, .int .u8 1, .int .u8 0, .int .u8 0, .int .u8 1, .int .u8 1, .int .u8 0, .int .u8 1, .int .u8 0, .int .u8 1, .int .u8 0, .int .u8 1, .int .u8 2, .int .u8 0] (0, 0) _ hSw.2.1 Try.underlying56 rfl HI.out)
  (try simp only [Act.put, List.setIfInBounds_toArray, List.set_cons_zero, List.set_cons_succ, List.getElem_toArray, List.getElem_cons_zero, List.getElem_cons_succ])
  refine wpAnyH_take (i := 2) (oi := _) (v := .agg #[.int .u8 0, .int .u8 2, .int .u8 0, .int .u8 2, .int .u8 0, .int .u8 2, .int .u8 0, .int .u8 2, .int .u8 4, .int .u8 5, .int .u8 3, .int .u8 3, .int .u8 0, .int .u8 1]) rfl (by kernel_rfl) (by kernel_rfl) (by kernel_rfl) (fun _ _ _ h => h) (Or.inl ⟨by rfl, ?hy2⟩) (by assumption) ?rest2
  case hy2 => (intro w hSw; (try dsimp only at hSw); (try simp only [List.getElem_toArray, List.getElem_cons_zero, List.getElem_cons_succ]); exact run_load_op 56 (.tmp 3) rfl (w2.heap.size) rfl 56 #[.int .u8 0, .int .u8 2, .int .u8 0, .int .u8 2, .int .u8 0, .int .u8 2, .int .u8 0, .int .u8 2, .int .u8 4, .int .u8 5, .int .u8 3, .int .u8 3, .int .u8 0, .int .u8 1] (0, 0) _ hSw.2.2.1 Try.underlying56 rfl HI.out)
  (try simp only [Act.put, List.setIfInBounds_toArray, List.set_cons_zero, List.set_cons_succ, List.getElem_toArray, List.getElem_cons_zero, List.getElem_cons_succ])
  refine wpAnyH_take (i := 3) (oi := _) (v := ?va3) rfl (by kernel_rfl) (by kernel_rfl) (by kernel_rfl) (fun _ _ _ h => h) (Or.inl ⟨by rfl, ?hya3⟩) (by assumption) ?resta3
  case hya3 => (intro w hSw; (try dsimp only at hSw); (try simp only [List.getElem_toArray, List.getElem_cons_zero, List.getElem_cons_succ]); go_simp; (try with_reducible rfl))
  (try simp only [Act.put, List.setIfInBounds_toArray, List.set_cons_zero, List.set_cons_succ, List.getElem_toArray, List.getElem_cons_zero, List.getElem_cons_succ])
  refine wpAnyH_take (i := 5) (oi := _) (v := ?va5) rfl (by kernel_rfl) (by kernel_rfl) (by kernel_rfl) (fun _ _ _ h => h) (Or.inl ⟨by rfl, ?hya5⟩) (by assumption) ?resta5
  case hya5 => (intro w hSw; (try dsimp only at hSw); (try simp only [List.getElem_toArray, List.getElem_cons_zero, List.getElem_cons_succ]); go_simp; (try with_reducible rfl))
  (try simp only [Act.put, List.setIfInBounds_toArray, List.set_cons_zero, List.set_cons_succ, List.getElem_toArray, List.getElem_cons_zero, List.getElem_cons_succ])
  refine wpAnyH_take (i := 7) (oi := _) (v := .agg #[.int .u8 5, .int .u8 7, .int .u8 5, .int .u8 7, .int .u8 5, .int .u8 7, .int .u8 5, .int .u8 7, .int .u8 5, .int .u8 7, .int .u8 5, .int .u8 7, .int .u8 6, .int .u8 0]) rfl (by kernel_rfl) (by kernel_rfl) (by kernel_rfl) (fun _ _ _ h => h) (Or.inl ⟨by rfl, ?hy7⟩) (by assumption) ?rest7
  case hy7 => (intro w hSw; (try dsimp only at hSw); (try simp only [List.getElem_toArray, List.getElem_cons_zero, List.getElem_cons_succ]); exact run_load_op 56 (.tmp 4) rfl (w3.heap.size) rfl 56 #[.int .u8 5, .int .u8 7, .int .u8 5, .int .u8 7, .int .u8 5, .int .u8 7, .int .u8 5, .int .u8 7, .int .u8 5, .int .u8 7, .int .u8 5, .int .u8 7, .int .u8 6, .int .u8 0] (0, 0) _ hSw.2.2.2.1 Try.underlying56 rfl HI.out)
  (try simp only [Act.put, List.setIfInBounds_toArray, List.set_cons_zero, List.set_cons_succ, List.getElem_toArray, List.getElem_cons_zero, List.getElem_cons_succ])
  refine wpAnyH_take (i := 8) (oi := _) (v := .agg #[.int .u8 0, .int .u8 2, .int .u8 0, .int .u8 2, .int .u8 0, .int .u8 2, .int .u8 0, .int .u8 8, .int .u8 4, .int .u8 5, .int .u8 3, .int .u8 3, .int .u8 5, .int .u8 7]) rfl (by kernel_rfl) (by kernel_rfl) (by kernel_rfl) (fun _ _ _ h => h) (Or.inl ⟨by rfl, ?hy8⟩) (by assumption) ?rest8
  case hy8 => (intro w hSw; (try dsimp only at hSw); (try simp only [List.getElem_toArray, List.getElem_cons_zero, List.getElem_cons_succ]); exact run_load_op 56 (.tmp 5) rfl (w3.heap.size + 1) rfl 56 #[.int .u8 0, .int .u8 2, .int .u8 0, .int .u8 2, .int .u8 0, .int .u8 2, .int .u8 0, .int .u8 8, .int .u8 4, .int .u8 5, .int .u8 3, .int .u8 3, .int .u8 5, .int .u8 7] (0, 0) _ hSw.2.2.2.2 Try.underlying56 rfl HI.out)
  (try simp only [Act.put, List.setIfInBounds_toArray, List.set_cons_zero, List.set_cons_succ, List.getElem_toArray, List.getElem_cons_zero, List.getElem_cons_succ])
  refine wpAnyH_ready (rs := [4]) (by kernel_rfl) (by simp) ?_
  refine AllReadyH.cons (o := _) rfl (fun K hK => ?_) AllReadyH.nil
  (try simp only [List.getElem_toArray, List.getElem_cons_zero, List.getElem_cons_succ])
  go_simp
  (refine (every_is 0 4 #[.int .u8 0, .int .u8 4, .int .u8 0, .int .u8 4, .int .u8 0, .int .u8 4, .int .u8 0, .int .u8 4, .int .u8 0, .int .u8 4, .int .u8 0, .int .u8 4, .int .u8 0, .int .u8 4] rfl _).mono ?_; rintro e wa ⟨rfl, hba⟩; replace hba := ((Below.refl W.heap.size W).drew).trans hba; have A1 := R1.below (w' := wa) hba; have A2 := R2.below (w' := wa) hba; have A3 := R3.below (w' := wa) hba; have A4 := R4.below (w' := wa) hba; have A5 := R5.below (w' := wa) hba; have p0 : wa.heap[g0]? = _ ∧ Below g0 w wa := ⟨(hba.block g0 (lt_heap R0)).trans R0, BW.out.trans (hba.mono (by have := BW.out.size; rw [G0.out]; exact this))⟩; clear hba)
  refine hK.out _ _ ?_ (fun hHeld => ?_)
  · exact ⟨A1, A2, A3, A4, A5⟩
  clear hK K
  (try simp only [Act.put, List.setIfInBounds_toArray, List.set_cons_zero, List.set_cons_succ, List.getElem_toArray, List.getElem_cons_zero, List.getElem_cons_succ])
  refine wpAnyH_ready (rs := [6]) (by kernel_rfl) (by simp) ?_
  refine AllReadyH.cons (o := _) rfl (fun K hK => ?_) AllReadyH.nil
  (try simp only [List.getElem_toArray, List.getElem_cons_zero, List.getElem_cons_succ])
  go_simp
  (refine (every_is 5 6 #[.int .u8 5, .int .u8 6, .int .u8 5, .int .u8 6, .int .u8 5, .int .u8 6, .int .u8 5, .int .u8 6, .int .u8 5, .int .u8 6, .int .u8 5, .int .u8 6, .int .u8 5, .int .u8 6] rfl _).mono ?_; rintro e wb ⟨rfl, hbb⟩; have C1 := A1.below (w' := wb) hbb; have C2 := A2.below (w' := wb) hbb; have C3 := A3.below (w' := wb) hbb; have C4 := A4.below (w' := wb) hbb; have C5 := A5.below (w' := wb) hbb; have q0 : wb.heap[g0]? = _ ∧ Below g0 w wb := ⟨(hbb.block g0 (lt_heap p0.1)).trans p0.1, p0.2.trans (hbb.mono (by have := p0.2.size; rw [G0.out]; exact this))⟩; clear hbb)
  refine hK.out _ _ ?_ (fun hHeld => ?_)
  · exact ⟨C1, C2, C3, C4, C5⟩
  clear hK K
  (try simp only [Act.put, List.setIfInBounds_toArray, List.set_cons_zero, List.set_cons_succ, List.getElem_toArray, List.getElem_cons_zero, List.getElem_cons_succ])
  refine wpAnyH_take (i := 9) (oi := _) (v := .agg tabV) rfl (by kernel_rfl) (by kernel_rfl) (by kernel_rfl) (fun _ _ _ h => h) (Or.inl ⟨by rfl, ?hy9⟩) (by assumption) ?rest9
  case hy9 => (intro w hSw; (try dsimp only at hSw); (try simp only [List.getElem_toArray, List.getElem_cons_zero, List.getElem_cons_succ]); exact run_build_op 57 _ rfl tabV (by simp only [List.map_toArray, List.map_cons, List.map_nil]; exact HBT.out))
  (try simp only [Act.put, List.setIfInBounds_toArray, List.set_cons_zero, List.set_cons_succ, List.getElem_toArray, List.getElem_cons_zero, List.getElem_cons_succ])
  refine wpAnyH_ready (rs := [10]) (by kernel_rfl) (by simp) ?_
  refine AllReadyH.cons (o := _) rfl (fun K hK => ?_) AllReadyH.nil
  (try simp only [List.getElem_toArray, List.getElem_cons_zero, List.getElem_cons_succ])
  (rw [if_pos (by rfl)]; refine wp_store_row 57 (.tmp 0) (.tmp 41) rfl g0 tabV rfl rfl 57 Z q0.1 HTI.out HTO.out HT1.out ?_)
  refine hK.out _ _ ?_ (fun hHeld => ?_)
  · exact ⟨(setRow_other _ _ _ _ (by omega)).trans C1, (setRow_other _ _ _ _ (by omega)).trans C2, (setRow_other _ _ _ _ (by omega)).trans C3, (setRow_other _ _ _ _ (by omega)).trans C4, (setRow_other _ _ _ _ (by omega)).trans C5⟩
  clear hK K
  (try simp only [Act.put, List.setIfInBounds_toArray, List.set_cons_zero, List.set_cons_succ, List.getElem_toArray, List.getElem_cons_zero, List.getElem_cons_succ])
  refine wpAnyH_done (by kernel_rfl) ?_ _
  refine NoPanic.normal ?_
  go_wp2_with fail
  refine bodyPost_ret (v := .agg tabV) ?_ rfl ⟨rfl, ?_⟩
  · exact results_cell_row Try.results36 _ _ g0 57 _ (0, 0) _ rfl (setRow_heap _ _ _ _ _ _ q0.1) Try.underlying57 rfl HTI.out
  · rw [← G0.out]
    exact ⟨q0.2.os, q0.2.tape, q0.2.output, by simpa using q0.2.size, fun k hk => (setRow_other _ _ _ _ (by omega)).trans (q0.2.block k hk)⟩

end Go.Proofs.Ytopgejjencoelaa
