/- The statements' line: a row of one letter. Own work. -/
import Derived.Test.YtpmnbfifpenlkaaGreatDoorEmuZs
import Derived.Test.YtpmnbfifpenlkaaGreatDoorBase
import Derived.IntWalk
namespace Go.Proofs.YtpmnbfifpenlkaaGreatDoor
set_option linter.unusedVariables false
set_option linter.unusedSimpArgs false
open Go.RowKit

/-- A row of bytes, the first k of which are c. -/
def LineAt (w : World) (g n c k : Nat) : Prop := ∃ cs : Array Value, w.heap[g]? = some (.cells cs 5 (0, 0)) ∧ cs.size = n ∧ ∀ i, i < n → cs[i]? = some (.int .u8 ((if i < k then c else 0 : Nat) : Int))
theorem LineAt.set {w : World} {g n c k : Nat} (h : LineAt w g n c k) (hk : k < n) : LineAt (w.setCell ⟨g, k, none⟩ (.int .u8 (c : Int))) g n c (k + 1) := by
  obtain ⟨cs, h1, h2, h3⟩ := h
  refine ⟨_, heap_set h1 k _, by simp [h2], fun i hi => ?_⟩
  rw [Array.getElem?_setIfInBounds]
  by_cases e : k = i
  · subst e
    rw [if_pos rfl, if_pos (by omega), if_pos (by omega)]
  · rw [if_neg e, h3 i hi]
    by_cases e2 : i < k
    · rw [if_pos e2, if_pos (by omega)]
    · rw [if_neg e2, if_neg (by omega)]

set_option maxRecDepth 100000 in
set_option maxHeartbeats 1600000 in
theorem line_is (n c : Nat) (hn : n ≤ 1000) (hc : c < 256) (w : World) :
    Calls Tryz.prog 23 #[.int .i64 n, .int .u8 c] w fun e w' => e = .returned (.string (bytesN (List.replicate n c))) ∧ Below w.heap.size w w' := by
  obtain ⟨i0, hi, hz0, hz1, hz2⟩ := info_parts byte_info
  obtain ⟨M, hM⟩ : ∃ M, M = madeCells (Value.int .u8 0).cells (((n : Nat) : Int).toNat * i0.size) := ⟨_, rfl⟩
  have hmk : ∀ W : World, (Instr.makeSlice 42 (.int .i64 (n : Int)) (.int .i64 (n : Int))).run Tryz.prog W = .ok (.slice (some ⟨W.heap.size, 0, none⟩) n n) (W.alloc (.cells M 5)) := fun W => by
    have h := run_make (P := Tryz.prog) W 42 5 i0 (.int .u8 0) Tryz.underlying42 hi hz0 .i64 .i64 (n : Int) (n : Int) (by omega) (by omega) (by rw [hz2]; omega) (by omega)
    rw [← hM] at h
    simpa using h
  have hMs : M.size = n := by rw [hM, size_madeCells, hz1]; simp
  have hMa : ∀ i, i < n → M[i]? = some (.int .u8 0) := fun i hi => by
    rw [hM, hz1, ← Array.getElem?_toList, show (Value.int .u8 0).cells = #[Value.int .u8 0] from rfl, toList_madeCells_one, List.getElem?_replicate_of_lt (by simp; omega)]
  obtain ⟨W1, hW1⟩ : ∃ W1, W1 = w.alloc (.cells M 5) := ⟨_, rfl⟩
  obtain ⟨g, hg⟩ : ∃ g, g = w.heap.size := ⟨_, rfl⟩
  have HL : Hid (LineAt W1 g n c 0) := Lib.hid ⟨M, by rw [hW1, hg]; exact heap_alloc_new w _, hMs, fun i hi => by rw [hMa i hi]; rfl⟩
  have HK : Hid (Below w.heap.size w W1) := Lib.hid (by rw [hW1]; exact (Below.refl _ w).alloc (Nat.le_refl _) _)
  have HG : Hid (w.heap.size ≤ g ∧ g < W1.heap.size) := Lib.hid (by rw [hW1, hg]; simp)
  have HW := Lib.hid hW1
  have HGE := Lib.hid hg
  have HMK := Lib.hid hmk
  clear hMa hMs hM hi hz0 hz1 hz2 hW1 hg
  go_enter Tryz.func23, Tryz.ntmps23
  go_upto_region 2 with fail
  rw [← HW.out, ← HGE.out]
  clear hmk
  go_wp2_with fail
  go_loopw [11] (fun i wr => ∃ k : Nat, i = .int .i64 k ∧ k ≤ n ∧ Hid (LineAt wr g n c k) ∧ Hid (Keep (fun q => q = g) W1 wr)) (fun i _ => n - (intOf i).toNat)
  case atStart => exact ⟨0, rfl, by omega, HL.out, Keep.refl _ _⟩
  case round =>
    obtain ⟨k, rfl, hk, HL2, HK2⟩ := hrel
    by_cases hlt : k < n
    · have hki : (k : Int) < (n : Int) := by omega
      have hk0 : (0 : Int) ≤ (k : Int) := by omega
      obtain ⟨cs, q1, q2, q3⟩ := HL2.out
      have hcx : wr.cell? ⟨g, k, none⟩ = some (.int .u8 0) := by rw [cell_at q1 k, q3 k hlt, if_neg (by omega)]; rfl
      have hfx : wr.frozen? ⟨g, k, none⟩ = false := free_at q1 k
      have HS := Lib.hid (HL2.out.set hlt)
      have HK3 := Lib.hid (HK2.out.own k (.int .u8 (c : Int)))
      clear q1 q2 q3
      go_wp2_with fail
      go_roundw
      case rel => exact ⟨k + 1, by go_num, by omega, HS.out, HK3.out⟩
      case measure => simp [intOf]; omega
    · obtain rfl : k = n := by omega
      have hki : ¬ (k : Int) < (k : Int) := by omega
      obtain ⟨cs, q1, q2, q3⟩ := HL2.out
      have hcs : cs.toList = (List.replicate k c).map fun n : Nat => Value.int .u8 (n : Int) := by
        apply List.ext_getElem?
        intro i
        rw [Array.getElem?_toList]
        rcases Nat.lt_or_ge i k with e | e
        · rw [q3 i e, if_pos e, List.getElem?_map, List.getElem?_replicate_of_lt e]; rfl
        · rw [Array.getElem?_eq_none (by omega), List.getElem?_eq_none (by simp; omega)]
      have hcv := bytes_str (W := wr) (P := Tryz.prog) 42 9 5 (List.replicate k c) cs g k q1 hcs (by intro x hx; rw [List.eq_of_mem_replicate hx]; exact hc) q2 (by unfold maxLen; omega) Tryz.underlying42 Tryz.underlying5 Tryz.underlying9
      have HB : Hid (Below w.heap.size w wr) := Lib.hid (HK.out.trans (HK2.out.below HK.out.size (fun q _ e => by have := HG.out; omega)))
      clear q1 q2 q3 hcs HL2 HK2
      go_wp2_with fail
      go_ret
      exact ⟨rfl, HB.out⟩

end Go.Proofs.YtpmnbfifpenlkaaGreatDoor
