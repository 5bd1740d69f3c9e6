/- A row of ints that was just laid. Own work. -/
import Derived.Test.YtmkgcmnimpkmjaaBase
set_option linter.unusedVariables false
set_option linter.unusedSimpArgs false
namespace Go.Proofs.Ytmkgcmnimpkmjaa
set_option linter.unusedVariables false
open Go.RowKit

theorem ints_row {w W : World} {g : Nat} (hg : g = w.heap.size) (xs : List Int) (n : Nat) (hn : xs.length = n) (t : TypeId) (hm : n ≤ maxLen) (hb : ∀ x ∈ xs, -9223372036854775808 ≤ x ∧ x ≤ 9223372036854775807) (k : Below (w.heap.size + 1) (w.alloc (.cells (xs.map (Value.int .i64)).toArray t)) W) :
    Ints W (some ⟨g, 0, none⟩) n xs := by
  subst hg
  refine ⟨hn, fun _ => ⟨_, 0, rfl, by have := k.size; simp at this; omega, fun i x hx => ?_⟩, hb, hm⟩
  rw [k.cell (p := ⟨w.heap.size, 0 + i, none⟩) (by simp), Nat.zero_add]
  exact (Cell.box (w := w) i (by simp [hx])).1

end Go.Proofs.Ytmkgcmnimpkmjaa
