/- grid: the document's Grid: a row, a place. Own work. -/
import Derived.Test.YtgomnigchfmfhaaGridB
namespace Go.Proofs.Ytgomnigchfmfhaa
set_option linter.unusedVariables false
set_option linter.unusedSimpArgs false
open Go.RowKit

set_option maxRecDepth 100000 in
set_option maxHeartbeats 1600000 in
/-- A new row of the document's Grid. -/
theorem ref_row (n : Nat) (x : CellM) (w : World) (h0 : 0 < n) (hn : n ≤ 40) :
    Calls Try.prog 59 #[.int .i64 n, x.v] w fun e w' => ∃ g, e = .returned (.slice (some ⟨g, 0, none⟩) n n) ∧ w.heap.size ≤ g ∧ g < w'.heap.size ∧ Lies w' g 0 n (fun _ => x) ∧ Below w.heap.size w w' := by
  obtain ⟨i0, hi0, hz0, hz1, hz2⟩ := info_parts cell_row
  have hni : (n : Int) ≤ 40 := by omega
  obtain ⟨M, hM⟩ : ∃ M, M = madeCells #[.int .i32 0, .int .i64 0, .int .i64 0, .bool false, .bool false, .bool false] (n * 6) := ⟨_, rfl⟩
  have HM := Lib.hid hM
  have hmk : ∀ V : World, (Instr.makeSlice 22 (.int .i64 (n : Int)) (.int .i64 (n : Int))).run Try.prog V = .ok (.slice (some ⟨V.heap.size, 0, none⟩) n n) (V.alloc (.cells M 40)) := fun V => by
    have h := run_make (P := Try.prog) V 22 40 i0 _ Try.underlying22 hi0 hz0 .i64 .i64 (n : Int) (n : Int) (by omega) (by omega) (by rw [hz2]; omega) (by omega)
    rw [hz1] at h
    rw [HM.out]
    simp at h
    exact h
  clear hM
  obtain ⟨w1, hw1⟩ : ∃ w1, w1 = w.alloc (.cells (vcells x) 40) := ⟨_, rfl⟩
  have HB1 : Hid (Below w.heap.size w w1) := Lib.hid (by rw [hw1]; exact (Below.refl _ w).alloc (Nat.le_refl _) _)
  have HQ1 : Hid (w1.heap[w.heap.size]? = some (.cells (vcells x) 40 (0, 0))) := Lib.hid (by rw [hw1]; exact heap_alloc_new w _)
  obtain ⟨w2, hw2⟩ : ∃ w2, w2 = w1.alloc (.cells M 40) := ⟨_, rfl⟩
  obtain ⟨g, hg⟩ : ∃ g, g = w.heap.size + 1 := ⟨_, rfl⟩
  obtain ⟨q, hq⟩ : ∃ q, q = w.heap.size := ⟨_, rfl⟩
  have hs1 : w1.heap.size = w.heap.size + 1 := by rw [hw1]; simp
  have HL2 : Hid (Lies w2 g 0 n (fun _ => CellM.z)) := Lib.hid (by
    have hl := lies_made w1 n 40
    rw [← HM.out, ← hw2, hs1, ← hg] at hl
    exact hl)
  have HB2 : Hid (Below w.heap.size w w2) := Lib.hid (by rw [hw2]; exact HB1.out.alloc HB1.out.size _)
  have HQ2 : Hid (w2.heap[q]? = some (.cells (vcells x) 40 (0, 0))) := Lib.hid (by rw [hw2, hq]; exact heap_alloc HQ1.out _)
  have HG2 : Hid (g < w2.heap.size) := Lib.hid (by rw [hw2, hg]; simp [hs1])
  have hgw : Hid (w.heap.size ≤ g) := Lib.hid (by omega)
  have hgq : g ≠ q := by omega
  have HP0 : Hid (PutC g 0 0 (fun _ => x) w2 w2) := Lib.hid (PutC.refl _ _ _ _)
  clear hs1 HQ1 HB1
  rw [hw1] at hw2
  unfold vcells at hw2
  clear hw1
  simp only [CellM.v]
  go_enter Try.func59, Try.ntmps59
  go_wp2_with fail
  rw [← hw2]
  rw [← hg]
  rw [← hq]
  clear hw2 hg hq
  go_loopw [6, 11] (fun _ i wr => ∃ k : Nat, i = .int .i64 k ∧ k ≤ n ∧ Hid (PutC g 0 k (fun _ => x) w2 wr)) (fun _ i _ => n - (intOf i).toNat)
  case atStart => exact ⟨0, rfl, Nat.zero_le _, HP0⟩
  case round =>
    obtain ⟨k, rfl, hk, HP⟩ := hrel
    by_cases hlt : k < n
    · have hq2 := HP.out.keep.heap HQ2.out (fun e => hgq e.symm)
      have c0 : wr.cell? ⟨q, 0, none⟩ = some (.int .i32 x.r) := cell_at hq2 0
      have c1 : wr.cell? ⟨q, 1, none⟩ = some (.int .i64 x.a.fg) := cell_at hq2 1
      have c2 : wr.cell? ⟨q, 2, none⟩ = some (.int .i64 x.a.bg) := cell_at hq2 2
      have c3 : wr.cell? ⟨q, 3, none⟩ = some (.bool x.a.b) := cell_at hq2 3
      have c4 : wr.cell? ⟨q, 4, none⟩ = some (.bool x.a.u) := cell_at hq2 4
      have c5 : wr.cell? ⟨q, 5, none⟩ = some (.bool x.a.i) := cell_at hq2 5
      have hki : ((k : Int) < (n : Int)) := by omega
      have hk0 : (0 : Int) ≤ (k : Int) := by omega
      have HLr := Lib.hid (PutC.lies (a := 0) HL2.out (by simpa using HP.out) (by omega))
      clear hq2
      go_wp2_with (with_reducible refine wpList_store_cell rfl _ _ _ rfl g 0 k n _ HLr.out hlt x ?hx ?hy cell_info ?_)
      case hx => rw [Nat.zero_add]; rfl
      case hy => rfl
      intro w3 hp3
      have hp3 : PutC g (0 + k * 6) 1 (fun _ => x) wr w3 := by simpa using hp3
      have HP3 : Hid (PutC g 0 (k + 1) (fun _ => x) w2 w3) := Lib.hid ((HP.out.grow hp3).congr (fun j hj => by simp))
      clear hp3
      go_wp2_with fail
      go_roundw
      case rel => exact ⟨k + 1, by go_num, by omega, HP3⟩
      case measure => simp [intOf]; omega
    · have hkn : k = n := by omega
      subst hkn
      go_wp2_with fail
      go_ret
      exact ⟨g, rfl, hgw.out, Nat.lt_of_lt_of_le HG2.out HP.out.keep.size, PutC.whole HL2.out HP.out, HB2.out.trans (HP.out.keep.below HB2.out.size (fun i hi e => by have := hgw.out; omega))⟩

end Go.Proofs.Ytgomnigchfmfhaa
