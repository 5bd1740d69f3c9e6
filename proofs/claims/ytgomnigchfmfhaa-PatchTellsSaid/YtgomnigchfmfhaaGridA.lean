/- grid: the law's alive. Own work (rgn/XGridA.lean by rgn.py). -/
import Derived.Test.YtgomnigchfmfhaaGrids
namespace Go.Proofs.Ytgomnigchfmfhaa
set_option linter.unusedVariables false
set_option linter.unusedSimpArgs false
open Go.RowKit

theorem lies_block (w : World) (cs : Array Value) (t : TypeId) (f : Nat → CellM) (n : Nat) (h : cs.toList = flatF f n) : Lies (w.alloc (.cells cs t)) w.heap.size 0 n f := by
  refine ⟨fun k hk i v hv => ?_, fun j hj => free_at (heap_alloc_new w _) _⟩
  have hi := cellCs_lt hv
  rw [Nat.zero_add, cell_at (heap_alloc_new w _)]
  have : (flatF f n)[k * 6 + i]? = some v := by rw [flatF_at, show (k * 6 + i) / 6 = k from by omega, show (k * 6 + i) % 6 = i from by omega]; exact ⟨by omega, hv⟩
  rw [← h] at this
  simpa using this

def cA : CellM := ⟨97, .z⟩
def cX : CellM := ⟨120, .z⟩

def lA (k : Nat) : CellM := if k = 1 then cX else cA
def fA1 (k : Nat) : CellM := if 2 ≤ k ∧ k < 4 then lA (k - 2) else blankC
def fA2 (k : Nat) : CellM := frontF (fun i => fA1 (rowsA 2 0 + i)) (rowsN 2 2 0 2) (min (1 * 2) (rowsN 2 2 0 2)) cX k

theorem six_of {w : World} {q : Nat} {x : CellM} (h : w.heap[q]? = some (.cells (vcells x) 40 (0, 0))) (k : Nat) (u : Value) (hu : (vcells x)[k]? = some u) : w.cell? ⟨q, k, none⟩ = some u := (cell_at h k).trans hu

end Go.Proofs.Ytgomnigchfmfhaa

