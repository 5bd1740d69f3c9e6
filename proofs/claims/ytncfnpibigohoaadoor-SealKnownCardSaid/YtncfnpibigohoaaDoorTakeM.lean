/- What a message holds: lists. Own work. -/
import Derived.Test.YtncfnpibigohoaaDoorMix
import Derived.Test.YtncfnpibigohoaaDoorCopy
namespace Go.Proofs.YtncfnpibigohoaaDoor
set_option linter.unusedVariables false
open Go.RowKit

theorem block_app (l x : List UInt8) {n : Nat} (h : 64 * (n + 1) ≤ l.length) : blockAt (l ++ x) n = blockAt l n := by
  unfold blockAt
  rw [List.drop_append_of_le_length (by omega), List.take_append_of_le_length (by rw [List.length_drop]; omega)]

theorem run_app (l x : List UInt8) (n : Nat) (h : 64 * n ≤ l.length) : run (l ++ x) n = run l n := by
  induction n with
  | zero => rfl
  | succ n ih => simp only [run]; rw [ih (by omega), block_app l x h]

/-- A message that has taken l. -/
def MsgL (w : World) (p : Nat) (l : List UInt8) : Prop :=
  ∃ part, MsgAt w p (run l (l.length / 64)) part l.length ∧ part.take (l.length % 64) = l.drop (64 * (l.length / 64))

theorem MsgL.keep {S : Nat → Prop} {w w' : World} {p : Nat} {l : List UInt8} (h : MsgL w p l) (k : Keep S w w') (hn : ¬ S p) : MsgL w' p l := by
  obtain ⟨part, h1, h2⟩ := h
  exact ⟨part, h1.keep k hn, h2⟩
theorem MsgL.below {w w' : World} {p : Nat} {l : List UInt8} (h : MsgL w p l) (k : Below w.heap.size w w') : MsgL w' p l := h.keep (Keep.of_below (fun _ => False) k) (fun x => x)
theorem MsgL.lt {w : World} {p : Nat} {l : List UInt8} (h : MsgL w p l) : p < w.heap.size := by obtain ⟨part, h1, _⟩ := h; exact h1.lt

/-- Bytes are copied into the part. -/
theorem copied_cells (s : St) (part y : List UInt8) (size r n : Nat) (hp : part.length = 64) (hy : y.length = n) (hr : r + n ≤ 64) :
    (msgCells s part size).take (8 + r) ++ Lib.byteCells y ++ (msgCells s part size).drop (8 + r + n) = msgCells s (part.take r ++ y ++ part.drop (r + n)) size := by
  have h8 : (wcells s.words).length = 8 := by rw [wcells_length, words_length]
  have hb : (Lib.byteCells part).length = 64 := by rw [Lib.byteCells_length, hp]
  unfold msgCells
  rw [List.take_append, List.drop_append, h8, List.take_of_length_le (by omega), List.drop_of_length_le (by omega), show 8 + r - 8 = r from by omega, show 8 + r + n - 8 = r + n from by omega,
    List.take_append_of_le_length (by omega), List.drop_append_of_le_length (by omega)]
  simp [Lib.byteCells, List.map_take, List.map_drop]

theorem copied_len (part y : List UInt8) (r n : Nat) (hp : part.length = 64) (hy : y.length = n) (hr : r + n ≤ 64) : (part.take r ++ y ++ part.drop (r + n)).length = 64 := by
  simp only [List.length_append, List.length_take, List.length_drop]; omega

/-- What is held then, if the part is not full. -/
theorem held_some (l y part : List UInt8) (n : Nat) (hy : y.length = n) (hn : l.length % 64 + n < 64) (h : part.take (l.length % 64) = l.drop (64 * (l.length / 64))) :
    (part.take (l.length % 64) ++ y ++ part.drop (l.length % 64 + n)).take ((l ++ y).length % 64) = (l ++ y).drop (64 * ((l ++ y).length / 64)) ∧ run (l ++ y) ((l ++ y).length / 64) = run l (l.length / 64) := by
  have e1 : (l ++ y).length = l.length + n := by rw [List.length_append, hy]
  have e2 : (l.length + n) / 64 = l.length / 64 := by omega
  have e3 : (l.length + n) % 64 = l.length % 64 + n := by omega
  rw [e1, e2, e3]
  refine ⟨?_, run_app _ _ _ (by omega)⟩
  have hl : (part.take (l.length % 64)).length = l.length % 64 := by rw [h, List.length_drop]; omega
  rw [List.take_append_of_le_length (by rw [List.length_append, hl]; omega), List.take_of_length_le (by rw [List.length_append, hl]; omega), h, List.drop_append_of_le_length (by omega)]

/-- What is held then, if the part is full: it is the block that is mixed in. -/
theorem held_full (l y part : List UInt8) (n : Nat) (hy : y.length = n) (hn : l.length % 64 + n = 64) (hp : part.length = 64) (h : part.take (l.length % 64) = l.drop (64 * (l.length / 64))) :
    (part.take (l.length % 64) ++ y ++ part.drop (l.length % 64 + n)).take ((l ++ y).length % 64) = (l ++ y).drop (64 * ((l ++ y).length / 64)) ∧
      run (l ++ y) ((l ++ y).length / 64) = mixed (run l (l.length / 64)) (part.take (l.length % 64) ++ y ++ part.drop (l.length % 64 + n)) := by
  have e1 : (l ++ y).length = l.length + n := by rw [List.length_append, hy]
  have e2 : (l.length + n) / 64 = l.length / 64 + 1 := by omega
  have e3 : (l.length + n) % 64 = 0 := by omega
  rw [e1, e2, e3]
  refine ⟨?_, ?_⟩
  · rw [List.take_zero, List.drop_of_length_le (by rw [e1]; omega)]
  · simp only [run]
    rw [run_app _ _ _ (by omega)]
    congr 1
    unfold blockAt
    have d1 : part.drop (l.length % 64 + n) = [] := by rw [hn]; exact List.drop_of_length_le (by omega)
    have d2 : (l ++ y).drop (64 * (l.length / 64)) = l.drop (64 * (l.length / 64)) ++ y := List.drop_append_of_le_length (by omega)
    rw [d1, List.append_nil, h, d2, List.take_of_length_le (by rw [List.length_append, List.length_drop]; omega)]

end Go.Proofs.YtncfnpibigohoaaDoor
