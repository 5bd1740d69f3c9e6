/- nvt's table: every, makeTable. Own work. -/
import Derived.Test.YtopgejjencoelaaNvtM
import Derived.Test.YtopgejjencoelaaBase
import Derived.Laws.Rows
import Derived.Laws.Tables
import Derived.Deep.WholeRow
namespace Go.Proofs.Ytopgejjencoelaa
set_option linter.unusedVariables false
set_option linter.unusedSimpArgs false
open Go.RowKit

/-- A row of which the first k steps are set. -/
def rowK (a b : Int) (k : Nat) : Array Value := ((List.range 7).flatMap fun i => if i < k then [Value.int .u8 a, .int .u8 b] else [.int .u8 0, .int .u8 0]).toArray

theorem rowK_size (a b : Int) : ∀ k, k ≤ 7 → (rowK a b k).size = 14 := fun k hk => by
  rcases k with _ | _ | _ | _ | _ | _ | _ | _ | k <;> first | rfl | omega

theorem rowK_set (a b : Int) : ∀ k, k < 7 → ((rowK a b k).setIfInBounds (k * 2) (.int .u8 a)).setIfInBounds (k * 2 + 1) (.int .u8 b) = rowK a b (k + 1) := fun k hk => by
  rcases k with _ | _ | _ | _ | _ | _ | _ | k <;> first | rfl | omega

theorem rowK_one (a b : Int) : (rowK a b 7).all (·.oneCell') = true := by
  simp [rowK, List.range, List.range.loop, Value.oneCell']

theorem step_info : (Try.prog.info? 54).map (fun i => (i.size, i.bytes)) = some (2, 2) := by kernel_rfl
theorem row_info : (Try.prog.info? 56).map (·.size) = some 14 := by kernel_rfl

set_option maxRecDepth 100000 in
set_option maxHeartbeats 1600000 in
theorem every_any (a b : Int) (w : World) :
    Calls Try.prog 45 #[.agg #[.int .u8 a, .int .u8 b]] w fun e w' => e = .returned (.agg (rowK a b 7)) ∧ Below w.heap.size w w' := by
  obtain ⟨g, hg⟩ : ∃ g, g = w.heap.size := ⟨_, rfl⟩
  have HG := Lib.hid hg
  clear hg
  go_enter Try.func45, Try.ntmps45
  go_wp2_with fail
  rw [← HG.out]
  go_loopw [5] (fun i wr => ∃ k : Nat, k ≤ 7 ∧ i = .int .i64 k ∧ Hid (wr.heap[g + 1 + 1]? = some (.cells (rowK a b k) 56 (0, 0))) ∧ Hid (wr.heap[g]? = some (.cells #[.int .u8 a, .int .u8 b] 54 (0, 0))) ∧
    Hid (wr.heap[g + 1]? = some (.cells (rowK 0 0 0) 56 (0, 0))) ∧ Hid (Below g w wr)) (fun i _ => 7 - (intOf i).toNat)
  case atStart =>
    have hz0 : rowK a b 0 = rowK 0 0 0 := rfl
    refine ⟨0, by omega, rfl, ?_, ?_, ?_, ?_⟩
    · show _ = _
      rw [HG.out, hz0]
      have := heap_alloc_new ((w.alloc (.cells #[.int .u8 a, .int .u8 b] 54)).alloc (.cells (rowK 0 0 0) 56)) (.cells (rowK 0 0 0) 56)
      rw [show ((w.alloc (.cells #[.int .u8 a, .int .u8 b] 54)).alloc (.cells (rowK 0 0 0) 56)).heap.size = w.heap.size + 1 + 1 from by simp] at this
      exact this
    · show _ = _
      rw [HG.out]
      exact heap_alloc (heap_alloc (heap_alloc_new w _) _) _
    · show _ = _
      rw [HG.out]
      have := heap_alloc_new (w.alloc (.cells #[.int .u8 a, .int .u8 b] 54)) (.cells (rowK 0 0 0) 56)
      rw [show (w.alloc (.cells #[.int .u8 a, .int .u8 b] 54)).heap.size = w.heap.size + 1 from by simp] at this
      exact heap_alloc this _
    · show Below _ _ _
      rw [HG.out]
      exact (((Below.refl _ w).alloc (Nat.le_refl _) _).alloc (by simp) _).alloc (by simp; omega) _
  case round =>
    obtain ⟨k, hk, rfl, h2, h0, h1, hb⟩ := hrel
    by_cases hlt : k < 7
    · have a0 := cell_at h0.out 0
      have a1 := cell_at h0.out 1
      simp only [List.getElem?_toArray, List.getElem?_cons_zero, List.getElem?_cons_succ] at a0 a1
      have hs := rowK_size a b k hk
      obtain ⟨x, hx⟩ : ∃ x, (rowK a b k)[k * 2]? = some x := ⟨_, Array.getElem?_eq_getElem (by omega)⟩
      obtain ⟨y, hy⟩ : ∃ y, (rowK a b k)[k * 2 + 1]? = some y := ⟨_, Array.getElem?_eq_getElem (by omega)⟩
      have b0 := (cell_at h2.out (k * 2)).trans hx
      have b1 := (cell_at h2.out (k * 2 + 1)).trans hy
      have f0 := free_at h2.out (k * 2)
      have f1 := free_at h2.out (k * 2 + 1)
      have HST := Lib.hid (rowK_set a b k hlt)
      clear hs hx hy
      go_wp2_with fail
      go_roundw
      case rel =>
        refine ⟨k + 1, by omega, by go_num, ?_, ?_, ?_, ?_⟩
        · show _ = _
          rw [← HST.out]
          exact heap_set (heap_set h2.out _ _) _ _
        · exact heap_far (heap_far h0.out (show g ≠ g + 1 + 1 by omega) _) (show g ≠ g + 1 + 1 by omega) _
        · exact heap_far (heap_far h1.out (show g + 1 ≠ g + 1 + 1 by omega) _) (show g + 1 ≠ g + 1 + 1 by omega) _
        · exact (hb.out.setCell (show g ≤ g + 1 + 1 by omega) _).setCell (show g ≤ g + 1 + 1 by omega) _
      case measure => simp [intOf]; omega
    · have hk7 : k = 7 := by omega
      subst hk7
      have HI : Hid ((Try.prog.info? 56).map (·.size) = some (rowK a b 7).size) := row_info
      have HI0 : Hid ((rowK 0 0 0).size = (rowK a b 7).size) := rfl
      have H1 : Hid ((rowK a b 7).all (·.oneCell') = true) := rowK_one a b
      go_wp2_with (first
        | (with_reducible refine wpList_load_row rfl 56 (.tmp 3) rfl (g + 1 + 1) rfl 56 (rowK a b 7) (0, 0) _ h2.out Try.underlying56 rfl HI.out ?_)
        | (with_reducible refine wpList_store_row rfl 56 (.tmp 2) (.tmp 12) rfl (g + 1) (rowK a b 7) rfl rfl 56 (rowK 0 0 0) h1.out HI.out HI0.out H1.out ?_))
      refine bodyPost_ret (v := .agg (rowK a b 7)) ?_ rfl ⟨rfl, ?_⟩
      · exact results_cell_row Try.results45 _ _ (g + 1) 56 _ (0, 0) _ rfl (setRow_heap _ _ _ _ _ _ h1.out) Try.underlying56 rfl HI.out
      · rw [← HG.out]
        exact ⟨hb.out.os, hb.out.tape, hb.out.output, by simpa using hb.out.size, fun k hk => (setRow_other _ _ _ _ (by omega)).trans (hb.out.block k hk)⟩

end Go.Proofs.Ytopgejjencoelaa
