/- What is hashed, as it lies in memory. Own work. -/
import Derived.Test.YtncfnpibigohoaaDoorRot
import Derived.Deep.MidRow
namespace Go.Proofs.YtncfnpibigohoaaDoor
set_option linter.unusedVariables false
open Go.RowKit

/-- Words as cells. -/
def wcells (l : List Wd) : List Value := l.map fun x => .int .u32 x.n

theorem wcells_length (l : List Wd) : (wcells l).length = l.length := by simp [wcells]
theorem wcells_at (l : List Wd) {i : Nat} {x : Wd} (h : l[i]? = some x) : (wcells l)[i]? = some (.int .u32 x.n) := by simp [wcells, h]
theorem wcells_one (l : List Wd) : (wcells l).toArray.all (·.oneCell') = true := by
  rw [Array.all_eq_true_iff_forall_mem]
  intro v hv
  have hv' : v ∈ wcells l := by simpa using hv
  obtain ⟨x, _, rfl⟩ := List.mem_map.1 hv'
  rfl

/-- The cells of a message. -/
def msgCells (s : St) (part : List UInt8) (size : Nat) : List Value := wcells s.words ++ (Lib.byteCells part ++ [.int .i64 size])

/-- A message behind a pointer. -/
structure MsgAt (w : World) (p : Nat) (s : St) (part : List UInt8) (size : Nat) : Prop where
  len : part.length = 64
  row : w.heap[p]? = some (.cells (msgCells s part size).toArray 59 (0, 0))

theorem words_length (s : St) : s.words.length = 8 := rfl
theorem msg_length {s : St} {part : List UInt8} {size : Nat} (h : part.length = 64) : (msgCells s part size).length = 73 := by
  simp [msgCells, wcells_length, words_length, Lib.byteCells_length, h]

namespace MsgAt
variable {w w' : World} {p : Nat} {s : St} {part : List UInt8} {size : Nat}
theorem lt (h : MsgAt w p s part size) : p < w.heap.size := lt_heap h.row
theorem cell (h : MsgAt w p s part size) (i : Nat) : w.cell? ⟨p, i, none⟩ = (msgCells s part size)[i]? := by
  rw [cell_at h.row i]; simp
theorem fr (h : MsgAt w p s part size) (i : Nat) : w.frozen? ⟨p, i, none⟩ = false := free_at h.row i
theorem word (h : MsgAt w p s part size) {i : Nat} {x : Wd} (hx : s.words[i]? = some x) : w.cell? ⟨p, i, none⟩ = some (.int .u32 x.n) := by
  have hi : i < s.words.length := (List.getElem?_eq_some_iff.1 hx).1
  rw [h.cell, msgCells, List.getElem?_append_left (by rw [wcells_length]; exact hi)]
  exact wcells_at _ hx
theorem byte (h : MsgAt w p s part size) {i : Nat} {x : UInt8} (hx : part[i]? = some x) : w.cell? ⟨p, 8 + i, none⟩ = some (.int .u8 x.toNat) := by
  have hi : i < part.length := (List.getElem?_eq_some_iff.1 hx).1
  rw [h.cell, msgCells, List.getElem?_append_right (by rw [wcells_length, words_length]; omega), wcells_length, words_length, show 8 + i - 8 = i from by omega,
    List.getElem?_append_left (by rw [Lib.byteCells_length]; exact hi)]
  simp [Lib.byteCells, hx]
theorem size_at (h : MsgAt w p s part size) : w.cell? ⟨p, 72, none⟩ = some (.int .i64 size) := by
  rw [h.cell, msgCells, List.getElem?_append_right (by rw [wcells_length, words_length]; omega), wcells_length, words_length,
    List.getElem?_append_right (by rw [Lib.byteCells_length, h.len]; omega), Lib.byteCells_length, h.len]
  rfl
theorem keep {S : Nat → Prop} (h : MsgAt w p s part size) (k : Keep S w w') (hn : ¬ S p) : MsgAt w' p s part size := ⟨h.len, k.heap h.row hn⟩
theorem below (h : MsgAt w p s part size) (k : Below w.heap.size w w') : MsgAt w' p s part size := h.keep (Keep.of_below (fun _ => False) k) (fun x => x)
theorem drewN (h : MsgAt w p s part size) (n : Nat) : MsgAt (w.drewN n) p s part size := ⟨h.len, h.row⟩
/-- All of the part. -/
theorem part_range (h : MsgAt w p s part size) : w.rangeAt p 8 (Lib.byteCells part) := by
  intro j v hv
  have hj : j < part.length := by have := (List.getElem?_eq_some_iff.1 hv).1; rwa [Lib.byteCells_length] at this
  have h1 := h.byte (i := j) (List.getElem?_eq_getElem hj)
  rw [h1]
  rw [← hv]
  simp [Lib.byteCells, hj]
theorem state_range (h : MsgAt w p s part size) : w.rangeAt p 0 (wcells s.words) := by
  intro j v hv
  have hj : j < s.words.length := by have := (List.getElem?_eq_some_iff.1 hv).1; rwa [wcells_length] at this
  have h1 := h.word (i := j) (List.getElem?_eq_getElem hj)
  rw [Nat.zero_add, h1, ← hv, wcells_at _ (List.getElem?_eq_getElem hj)]
end MsgAt

theorem part_info : (Tryd.prog.info? 57).map (·.size) = some 64 := by kernel_rfl
theorem words_info : (Tryd.prog.info? 53).map (·.size) = some 64 := by kernel_rfl
theorem state_info : (Tryd.prog.info? 49).map (·.size) = some 8 := by kernel_rfl

/-- The part, loaded whole. -/
theorem load_part {w : World} {p : Nat} {s : St} {part : List UInt8} {size : Nat} (h : MsgAt w p s part size) :
    (Instr.loadAt 57 (.pointer (some ⟨p, 8, none⟩))).run Tryd.prog w = .ok (.agg (Lib.byteCells part).toArray) w :=
  run_loadAt_mid w p 8 57 (Lib.byteCells part) _ h.part_range Tryd.underlying57 rfl (by rw [part_info, Lib.byteCells_length, h.len])

theorem load_state {w : World} {p : Nat} {s : St} {part : List UInt8} {size : Nat} (h : MsgAt w p s part size) :
    (Instr.loadAt 49 (.pointer (some ⟨p, 0, none⟩))).run Tryd.prog w = .ok (.agg (wcells s.words).toArray) w :=
  run_loadAt_mid w p 0 49 (wcells s.words) _ h.state_range Tryd.underlying49 rfl (by rw [state_info, wcells_length, words_length])

end Go.Proofs.YtncfnpibigohoaaDoor
