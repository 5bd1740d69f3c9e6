/- Law CellColors: what its walk needs. By program (rgn/XCellColorsWalk.py). Own work. -/
import Derived.Test.YtadlmbheppnjfaaCellA
import Derived.Test.YtadlmbheppnjfaaCellRead
namespace Go.Proofs.Ytadlmbheppnjfaa
set_option linter.unusedVariables false
set_option linter.unusedSimpArgs false
open Go.RowKit

theorem ch_fg (a : At) (k low : Int) (h0 : 0 ≤ k) (h1 : k ≤ 15) (hl : (k < 8 ∧ low = 30 + k) ∨ (8 ≤ k ∧ low = 82 + k)) : sgrL a [low] = { a with fg := k + 1 } := by
  rw [sgrL_one _ _ (by omega) (by omega)]
  unfold changeL
  repeat' split
  all_goals first | (exfalso; omega) | (have : low - 29 = k + 1 := by omega
                                        rw [this]) | (have : low - 81 = k + 1 := by omega
                                                      rw [this])
theorem ch_bg (a : At) (k low : Int) (h0 : 0 ≤ k) (h1 : k ≤ 15) (hl : (k < 8 ∧ low = 30 + k) ∨ (8 ≤ k ∧ low = 82 + k)) : sgrL a [low + 10] = { a with bg := k + 1 } := by
  rw [sgrL_one _ _ (by omega) (by omega)]
  unfold changeL
  repeat' split
  all_goals first | (exfalso; omega) | (have : low + 10 - 39 = k + 1 := by omega
                                        rw [this]) | (have : low + 10 - 91 = k + 1 := by omega
                                                      rw [this])
theorem ch_5 (a : At) (k : Int) (h0 : 0 ≤ k) (h1 : k ≤ 15) : sgrL a [38, 5, k] = { a with fg := k + 1 } ∧ sgrL a [48, 5, k] = { a with bg := k + 1 } := by
  constructor
  · rw [sgrL_cons, sgrOn_step _ _ (by simp)]
    simp [stepL, chooseL, h0, h1, sgrOn_nil]
  · rw [sgrL_cons, sgrOn_step _ _ (by simp)]
    simp [stepL, chooseL, h0, h1, sgrOn_nil]
theorem ch_far (a : At) (k : Int) (h0 : 0 ≤ k) (h1 : k ≤ 15) : sgrL a [38, 5, 16 + k] = a := by
  rw [sgrL_cons, sgrOn_step _ _ (by simp)]
  have : ¬ (16 + k ≤ 15) := by omega
  simp [stepL, chooseL, this, sgrOn_nil]
theorem ch_none (a : At) (k : Int) (h0 : 0 ≤ k) (h1 : k ≤ 15) : sgrL a [200 + k] = a := by
  rw [sgrL_one _ _ (by omega) (by omega)]
  unfold changeL
  repeat' split
  all_goals first | (exfalso; omega) | rfl

theorem alloc_two (w : World) (o1 o2 : Obj) : ((w.alloc o1).alloc o2).heap[w.heap.size]? = some o1 ∧ ((w.alloc o1).alloc o2).heap[w.heap.size + 1]? = some o2 := by
  refine ⟨heap_alloc (heap_alloc_new w _) _, ?_⟩
  have := heap_alloc_new (w.alloc o1) o2
  rwa [show (w.alloc o1).heap.size = w.heap.size + 1 from by simp] at this

/-- The four attributes that lie in memory. -/
structure Four (W : World) (p p7 p8 p9 : Nat) (a b c d : At) : Prop where
  a : W.heap[p]? = some (attrO a)
  b : W.heap[p7]? = some (attrO b)
  c : W.heap[p8]? = some (attrO c)
  d : W.heap[p9]? = some (attrO d)
theorem Four.below {W W' : World} {p p7 p8 p9 : Nat} {a b c d : At} (h : Four W p p7 p8 p9 a b c d) (k : Below W.heap.size W W') : Four W' p p7 p8 p9 a b c d :=
  ⟨(k.block _ (lt_heap h.a)).trans h.a, (k.block _ (lt_heap h.b)).trans h.b, (k.block _ (lt_heap h.c)).trans h.c, (k.block _ (lt_heap h.d)).trans h.d⟩
theorem Four.alloc {W : World} {p p7 p8 p9 : Nat} {a b c d : At} (h : Four W p p7 p8 p9 a b c d) (o : Obj) : Four (W.alloc o) p p7 p8 p9 a b c d :=
  ⟨heap_alloc h.a o, heap_alloc h.b o, heap_alloc h.c o, heap_alloc h.d o⟩

def kOf (n : Int) : Int := (wrap64 (n.tmod 16 + 16)).tmod 16

end Go.Proofs.Ytadlmbheppnjfaa
