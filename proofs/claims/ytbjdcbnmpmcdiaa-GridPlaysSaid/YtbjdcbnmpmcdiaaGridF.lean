/- grid: within, fill, toFront, toBack; a cell that is stored. Own work. -/
import Derived.Test.YtbjdcbnmpmcdiaaGridP
import Derived.Deep.Cut
import Derived.IntWalk
namespace Go.Proofs.Ytbjdcbnmpmcdiaa
set_option linter.unusedVariables false
set_option linter.unusedSimpArgs false
open Go.RowKit

theorem run_storeVar_at {P : Program} (w : World) (b off : Nat) (ty : TypeId) (cells : Array Value) (hi : (P.info? ty).map (·.size) = some cells.size) (h1 : cells.all (·.oneCell') = true)
    (hc : ∀ j, j < cells.size → (w.cell? ⟨b, off + j, none⟩).isSome = true) (hf : ∀ j, j < cells.size → w.frozen? ⟨b, off + j, none⟩ = false) :
    (storeVar ty ⟨b, off, none⟩ (.agg cells)).run P w = .ok () (w.setCells b off cells.toList) := by
  have := run_storeCells_cells (P := P) b off cells.toList 0 w (by simpa using hc) (by simpa using hf) (fun v hv => (Array.all_eq_true_iff_forall_mem.1 h1) v (by simpa using hv))
  cases hq : P.info? ty with
  | none => simp [hq] at hi
  | some i =>
    have hs : cells.size = i.size := by simp [hq] at hi; omega
    simp [storeVar, sizeOf, typeInfo, hq, Value.cells, hs, this]

theorem wp_store_at {P : Program} {o : Oper} {a : Act} {w : World} {K : Act → World → Prop} {Q : Exit → Act → World → Prop} (ty : TypeId) (x y : Operand) (ho : o.op = .store ty x y)
    (b off : Nat) (cells : Array Value) (hx : a.eval x = .pointer (some ⟨b, off, none⟩)) (hy : a.eval y = .agg cells) (hi : (P.info? ty).map (·.size) = some cells.size) (h1 : cells.all (·.oneCell') = true)
    (hc : ∀ j, j < cells.size → (w.cell? ⟨b, off + j, none⟩).isSome = true) (hf : ∀ j, j < cells.size → w.frozen? ⟨b, off + j, none⟩ = false)
    (h : K (a.put o.dst undef) (w.setCells b off cells.toList)) : o.wp P a w K Q := by
  unfold Oper.wp execOp
  simp only [ho, hx, hy, Instr.storeAt, Instr.sureAddr, Sem.run_bind, Sem.run_pure, Result.andThen_ok, run_storeVar_at w b off ty cells hi h1 hc hf]
  exact h

theorem cell_info : (Try.prog.info? 42).map (·.size) = some 6 := by kernel_rfl
def vcells (c : CellM) : Array Value := #[.int .i32 c.r, .int .i64 c.a.fg, .int .i64 c.a.bg, .bool c.a.b, .bool c.a.u, .bool c.a.i]

/-- A cell is stored. -/
theorem wpList_store_cell {P : Program} {w : World} {ops : Array Oper} {rest : List Oper} {op : Oper} {act : Act} {Q : Exit → Act → World → Prop} (hgd : op.guard = none) (ty : TypeId) (x y : Operand) (ho : op.op = .store ty x y)
    (g o i n : Nat) (f0 : Nat → CellM) (l : Lies w g o n f0) (hi : i < n) (cx : CellM) (hx : act.eval x = .pointer (some ⟨g, o + i * 6, none⟩)) (hy : act.eval y = cx.v) (hinfo : (P.info? ty).map (·.size) = some 6)
    (h : ∀ w', PutC g (o + i * 6) 1 (fun _ => cx) w w' → wpList P ops Q rest (act.put op.dst undef) w') : wpList P ops Q (op :: rest) act w := by
  have ls := l.sub i 1 (by omega)
  refine wpList_plain hgd fun K hK => ?_
  refine wp_store_at ty x y ho g (o + i * 6) (vcells cx) hx hy hinfo (by simp [vcells, Value.oneCell']) (fun j hj => ls.some' j (by simpa [vcells] using hj)) (fun j hj => ls.can j (by simpa [vcells] using hj)) ?_
  have hp := put_sets (f := fun _ => cx) ls
  exact hK _ _ (h _ hp)

theorem within_any (n lo hi : Int) (w : World) :
    Calls Try.prog 44 #[.int .i64 n, .int .i64 lo, .int .i64 hi] w fun e w' => e = .returned (.int .i64 (min (max n lo) hi)) ∧ w' = w := by
  go_enter Try.func44, Try.ntmps44
  go_wp2_with fail
  go_ret
  exact ⟨rfl, rfl⟩

/-- Cells that were written, or nothing. -/
def Fills (g o n : Nat) (f : Nat → CellM) (w w' : World) : Prop := (0 < n → PutC g o n f w w') ∧ (n = 0 → Keep (fun _ => False) w w')
theorem Fills.put {g o n : Nat} {f : Nat → CellM} {w w' : World} (h : Fills g o n f w w') (hg : g < w.heap.size) : PutC g o n f w w' := by
  rcases Nat.eq_zero_or_pos n with e | e
  · subst e; exact (PutC.refl g o f w).then_keep hg (h.2 rfl)
  · exact h.1 e

set_option maxRecDepth 100000 in
set_option maxHeartbeats 1600000 in
theorem fill_any (A : Option Addr) (g o n c : Nat) (f0 : Nat → CellM) (x : CellM) (w : World) (h : SlC w A g o n f0) (hn : n ≤ 100000) :
    Calls Try.prog 45 #[.slice A n c, x.v] w fun e w' => e = .returned (.tuple #[]) ∧ Fills g o n (fun _ => x) w w' := by
  have hni : (n : Int) ≤ 100000 := by omega
  rcases Nat.eq_zero_or_pos n with h0 | h0
  · subst h0
    simp only [CellM.v]
    go_enter Try.func45, Try.ntmps45
    go_wp2_with fail
    go_loopw [7] (fun i wr => i = .int .i64 0 ∧ wr = w.alloc (.cells (vcells x) 42)) (fun i _ => 0)
    case atStart => exact ⟨rfl, rfl⟩
    case round =>
      obtain ⟨rfl, rfl⟩ := hrel
      go_wp2_with fail
      go_end0
      exact ⟨rfl, fun h => absurd h (by omega), fun _ => (Keep.refl _ w).alloc _⟩
  · obtain ⟨rfl, hL, hg⟩ := h h0
    obtain ⟨w1, hw1⟩ : ∃ w1, w1 = w.alloc (.cells (vcells x) 42) := ⟨_, rfl⟩
    have HK1 : Hid (Keep (fun _ => False) w w1) := Lib.hid (by rw [hw1]; exact (Keep.refl _ w).alloc _)
    have HL1 := Lib.hid (hL.keep hg HK1.out (fun x => x))
    have HQ1 : Hid (w1.heap[w.heap.size]? = some (.cells (vcells x) 42 (0, 0))) := Lib.hid (by rw [hw1]; exact heap_alloc_new w _)
    have hg1 : g < w1.heap.size := by have := HK1.out.size; omega
    have HG := Lib.hid hg
    have HP0 : Hid (PutC g o 0 (fun _ => x) w1 w1) := Lib.hid (PutC.refl _ _ _ _)
    clear h hL hg
    simp only [CellM.v]
    unfold vcells at hw1
    go_enter Try.func45, Try.ntmps45
    go_upto_region 1 with fail
    rw [← hw1]
    obtain ⟨q, hq⟩ : ∃ q, q = w.heap.size := ⟨_, rfl⟩
    rw [← hq] at HQ1
    rw [← hq]
    have hgq : g ≠ q := by have := HG.out; omega
    clear hw1 hq
    go_wp2_with fail
    go_loopw [4, 7] (fun _ i wr => ∃ k : Nat, i = .int .i64 k ∧ k ≤ n ∧ Hid (PutC g o k (fun _ => x) w1 wr)) (fun _ i _ => n - (intOf i).toNat)
    case atStart => exact ⟨0, rfl, Nat.zero_le _, HP0⟩
    case round =>
      obtain ⟨k, rfl, hk, HP⟩ := hrel
      by_cases hlt : k < n
      · have hq2 := HP.out.keep.heap HQ1.out (fun e => hgq e.symm)
        have c0 : wr.cell? ⟨q, 0, none⟩ = some (.int .i32 x.r) := cell_at hq2 0
        have c1 : wr.cell? ⟨q, 1, none⟩ = some (.int .i64 x.a.fg) := cell_at hq2 1
        have c2 : wr.cell? ⟨q, 2, none⟩ = some (.int .i64 x.a.bg) := cell_at hq2 2
        have c3 : wr.cell? ⟨q, 3, none⟩ = some (.bool x.a.b) := cell_at hq2 3
        have c4 : wr.cell? ⟨q, 4, none⟩ = some (.bool x.a.u) := cell_at hq2 4
        have c5 : wr.cell? ⟨q, 5, none⟩ = some (.bool x.a.i) := cell_at hq2 5
        have hki : ((k : Int) < (n : Int)) := by omega
        have hk0 : (0 : Int) ≤ (k : Int) := by omega
        have HLr := Lib.hid (PutC.lies (a := 0) HL1.out (by simpa using HP.out) (by omega))
        clear hq2
        go_wp2_with (with_reducible refine wpList_store_cell rfl _ _ _ rfl g o k n _ HLr.out hlt x ?hx ?hy cell_info ?_)
        case hx => first | rfl | (simp; done) | (congr 3; omega)
        case hy => rfl
        intro w2 hp2
        have HP2 : Hid (PutC g o (k + 1) (fun _ => x) w1 w2) := Lib.hid ((HP.out.grow hp2).congr (fun j hj => by simp))
        clear hp2
        go_wp2_with fail
        go_roundw
        case rel => exact ⟨k + 1, by go_num, by omega, HP2⟩
        case measure => simp [intOf]; omega
      · have hkn : k = n := by omega
        subst hkn
        go_wp2_with fail
        go_end0
        exact ⟨rfl, fun _ => PutC.keep_then HK1.out HG.out HP.out, fun e => absurd e (by omega)⟩

end Go.Proofs.Ytbjdcbnmpmcdiaa
