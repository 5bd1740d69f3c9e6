/- esc's table: lay, common. Own work. -/
import Derived.Test.YthphnjilbpidgaaEscO
import Derived.Test.YthphnjilbpidgaaBase
import Derived.Laws.Rows
import Derived.Laws.Tables
import Derived.Deep.WholeRow
import Derived.Deep.CutRange
import Derived.Deep.Cut
import Derived.Deep.RegionLaw
namespace Go.Proofs.Ythphnjilbpidgaa
set_option linter.unusedVariables false
set_option linter.unusedSimpArgs false
open Go.RowKit

theorem wpList_built {P : Program} {ops : Array Oper} {rest : List Oper} {o : Oper} {a : Act} {w : World} {Q : Exit → Act → World → Prop} (hgd : o.guard = none) (t : TypeId) (parts : Array (Nat × Operand)) (ho : o.op = .build t parts) (cells : Array Value)
    (h : P.built t (parts.map fun (i, x) => (i, a.eval x)).toList = some cells) (hK : wpList P ops Q rest (a.put o.dst (.agg cells)) w) : wpList P ops Q (o :: rest) a w :=
  wpList_plain hgd fun K hK' => by
    unfold Oper.wp execOp
    simp only [ho, Sem.run_bind, run_build w t _ cells h, Result.andThen_ok]
    exact hK' _ _ hK

/-- Cells of small numbers. -/
def u8a (l : List Nat) : Array Value := (l.map fun n : Nat => Value.int .u8 (n : Int)).toArray
theorem u8a_size (l : List Nat) : (u8a l).size = l.length := by simp [u8a]
theorem u8a_set (l : List Nat) (i a : Nat) : (u8a l).setIfInBounds i (.int .u8 (a : Int)) = u8a (l.set i a) := by
  simp [u8a, List.map_set]
theorem u8a_at (l : List Nat) (i : Nat) (h : i < l.length) : (u8a l)[i]? = some (.int .u8 ((l.getD i 0 : Nat) : Int)) := by
  simp [u8a, List.getD_eq_getElem?_getD, List.getElem?_eq_getElem h]
theorem u8a_one (l : List Nat) : (u8a l).all (·.oneCell') = true := by
  simp [u8a, Value.oneCell']

def layN (l : List Nat) (f : Nat) : Nat → Nat → Nat → List Nat
  | 0, _, _ => l
  | n + 1, a, b => ((layN l f n a b).set ((f + n) * 2) a).set ((f + n) * 2 + 1) b
def layR (l : List Nat) (f t a b : Nat) : List Nat := layN l f (t + 1 - f) a b
theorem layN_len (l : List Nat) (f n a b : Nat) : (layN l f n a b).length = l.length := by
  induction n with
  | zero => rfl
  | succ n ih => simp [layN, ih]
theorem layR_len (l : List Nat) (f t a b : Nat) : (layR l f t a b).length = l.length := layN_len ..

theorem step_info : (Try.prog.info? 71).map (fun i => (i.size, i.bytes)) = some (2, 2) := by kernel_rfl
theorem row_info : (Try.prog.info? 73).map (·.size) = some 30 := by kernel_rfl
def zrow : List Nat := List.replicate 30 0

set_option maxRecDepth 100000 in
set_option maxHeartbeats 1600000 in
theorem lay_any (l : List Nat) (f t a b : Nat) (w : World) (hl : l.length = 30) (hf : f ≤ t) (ht : t ≤ 14) :
    Calls Try.prog 38 #[.agg (u8a l), .int .u8 (f : Int), .int .u8 (t : Int), .agg #[.int .u8 (a : Int), .int .u8 (b : Int)]] w fun e w' => e = .returned (.agg (u8a (layR l f t a b))) ∧ Below w.heap.size w w' := by
  obtain ⟨g, hg⟩ : ∃ g, g = w.heap.size := ⟨_, rfl⟩
  have HG := Lib.hid hg
  obtain ⟨R, hR⟩ : ∃ R, R = u8a l := ⟨_, rfl⟩
  have HR := Lib.hid hR
  have HI : Hid ((Try.prog.info? 73).map (·.size) = some R.size) := Lib.hid (by rw [hR, u8a_size, hl]; exact row_info)
  rw [← hR]
  clear hg hR
  go_enter Try.func38, Try.ntmps38
  go_wp2_with fail
  rw [← HG.out]
  go_loopw [9] (fun i wr => ∃ k : Nat, f ≤ k ∧ k ≤ t + 1 ∧ i = .int .u8 k ∧ Hid (wr.heap[g]? = some (.cells (u8a (layN l f (k - f) a b)) 73 (0, 0))) ∧ Hid (wr.heap[g + 1]? = some (.cells #[.int .u8 (a : Int), .int .u8 (b : Int)] 71 (0, 0))) ∧
    Hid (wr.heap[g + 1 + 1]? = some (.cells (u8a zrow) 73 (0, 0))) ∧ Hid (Below g w wr)) (fun i _ => 16 - (intOf i).toNat)
  case atStart =>
    refine ⟨f, Nat.le_refl _, by omega, rfl, ?_, ?_, ?_, ?_⟩
    · show _ = _
      rw [Nat.sub_self, HG.out, show u8a (layN l f 0 a b) = R from HR.out.symm]
      exact heap_alloc (heap_alloc (heap_alloc_new w _) _) _
    · show _ = _
      rw [HG.out]
      have := heap_alloc_new (w.alloc (.cells R 73)) (.cells #[.int .u8 (a : Int), .int .u8 (b : Int)] 71)
      rw [show (w.alloc (.cells R 73)).heap.size = w.heap.size + 1 from by simp] at this
      exact heap_alloc this _
    · show _ = _
      rw [HG.out]
      have := heap_alloc_new ((w.alloc (.cells R 73)).alloc (.cells #[.int .u8 (a : Int), .int .u8 (b : Int)] 71)) (.cells (u8a zrow) 73)
      rw [show ((w.alloc (.cells R 73)).alloc (.cells #[.int .u8 (a : Int), .int .u8 (b : Int)] 71)).heap.size = w.heap.size + 1 + 1 from by simp] at this
      exact this
    · show Below _ _ _
      rw [HG.out]
      exact (((Below.refl _ w).alloc (Nat.le_refl _) _).alloc (by simp) _).alloc (by simp; omega) _
  case round =>
    obtain ⟨k, hk1, hk2, rfl, h2, h0, h1, hb⟩ := hrel
    have hlk : (layN l f (k - f) a b).length = 30 := by rw [layN_len, hl]
    by_cases hlt : k ≤ t
    · have a0 : wr.cell? ⟨g + 1, 0, none⟩ = some (.int .u8 (a : Int)) := cell_at h0.out 0
      have a1 : wr.cell? ⟨g + 1, 1, none⟩ = some (.int .u8 (b : Int)) := cell_at h0.out 1
      have b0 := (cell_at h2.out (k * 2)).trans (u8a_at _ _ (by omega))
      have b1 := (cell_at h2.out (k * 2 + 1)).trans (u8a_at _ _ (by omega))
      have f0 := free_at h2.out (k * 2)
      have f1 := free_at h2.out (k * 2 + 1)
      have HST : Hid (((u8a (layN l f (k - f) a b)).setIfInBounds (k * 2) (.int .u8 (a : Int))).setIfInBounds (k * 2 + 1) (.int .u8 (b : Int)) = u8a (layN l f (k + 1 - f) a b)) := by
        show _ = _
        rw [u8a_set, u8a_set, show k + 1 - f = (k - f) + 1 by omega]
        simp only [layN]
        rw [show f + (k - f) = k by omega]
      have hk8 : (k : Int) ≤ (t : Int) := by omega
      have hk15 : (k : Int) < 15 := by omega
      have hk0 : (0 : Int) ≤ (k : Int) := by omega
      clear hlk
      go_wp2_with fail
      go_roundw
      case rel =>
        refine ⟨k + 1, by omega, by omega, by go_num, ?_, ?_, ?_, ?_⟩
        · show _ = _
          rw [← HST.out]
          exact heap_set (heap_set h2.out _ _) _ _
        · exact heap_far (heap_far h0.out (show g + 1 ≠ g by omega) _) (show g + 1 ≠ g by omega) _
        · exact heap_far (heap_far h1.out (show g + 1 + 1 ≠ g by omega) _) (show g + 1 + 1 ≠ g by omega) _
        · exact (hb.out.setCell (show g ≤ g by omega) _).setCell (show g ≤ g by omega) _
      case measure => simp [intOf]; omega
    · obtain rfl : k = t + 1 := by omega
      obtain ⟨T, hT⟩ : ∃ T, u8a (layN l f (t + 1 - f) a b) = T := ⟨_, rfl⟩
      have HT := Lib.hid hT
      have hTs : T.size = 30 := by rw [← hT, u8a_size, hlk]
      have HI : Hid ((Try.prog.info? 73).map (·.size) = some T.size) := Lib.hid (by rw [hTs]; exact row_info)
      have HI0 : Hid ((u8a zrow).size = T.size) := Lib.hid (by rw [hTs]; rfl)
      have H1 : Hid (T.all (·.oneCell') = true) := Lib.hid (by rw [← hT]; exact u8a_one _)
      have H2 : Hid (wr.heap[g]? = some (.cells T 73 (0, 0))) := Lib.hid (by rw [← hT]; exact h2.out)
      have hkt : ¬ ((t : Int) + 1 ≤ (t : Int)) := by omega
      have hkt2 : ¬ (((t + 1 : Nat) : Int) ≤ (t : Int)) := by omega
      clear hT hTs hlk h2
      go_wp2_with (first
        | (with_reducible refine wpList_load_row rfl 73 (.tmp 4) rfl g rfl 73 T (0, 0) _ H2.out Try.underlying73 rfl HI.out ?_)
        | (with_reducible refine wpList_store_row rfl 73 (.tmp 8) (.tmp 19) rfl (g + 1 + 1) T rfl rfl 73 (u8a zrow) h1.out HI.out HI0.out H1.out ?_))
      refine bodyPost_ret (v := .agg T) ?_ rfl ⟨by rw [← HT.out]; rfl, ?_⟩
      · exact results_cell_row Try.results38 _ _ (g + 1 + 1) 73 _ (0, 0) _ rfl (setRow_heap _ _ _ _ _ _ h1.out) Try.underlying73 rfl HI.out
      · rw [← HG.out]
        exact ⟨hb.out.os, hb.out.tape, hb.out.output, by simpa using hb.out.size, fun k hk => (setRow_other _ _ _ _ (by omega)).trans (hb.out.block k hk)⟩

end Go.Proofs.Ythphnjilbpidgaa
