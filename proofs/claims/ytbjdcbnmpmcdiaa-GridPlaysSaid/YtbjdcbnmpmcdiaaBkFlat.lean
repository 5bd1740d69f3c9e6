/- Cells of records, one behind the other. It speaks of no program. Own work. -/
import Derived.Test.YtbjdcbnmpmcdiaaBkMark
set_option linter.unusedVariables false
set_option linter.unusedSimpArgs false
namespace Go.Proofs.Ytbjdcbnmpmcdiaa
set_option linter.unusedVariables false

theorem flat_len {α : Type} (enc : α → List Value) (z : Nat) (hz : ∀ x, (enc x).length = z) (l : List α) : (l.flatMap enc).length = l.length * z := by
  induction l with
  | nil => simp
  | cons x r ih => rw [List.flatMap_cons, List.length_append, hz, ih, List.length_cons, Nat.succ_mul, Nat.add_comm]

theorem flat_at {α : Type} (enc : α → List Value) (z : Nat) (hz : ∀ x, (enc x).length = z) (l : List α) : ∀ (k t : Nat) (x : α), l[k]? = some x → t < z → (l.flatMap enc)[k * z + t]? = (enc x)[t]? := by
  induction l with
  | nil => intro k t x h; simp at h
  | cons y r ih =>
    intro k t x h ht
    rw [List.flatMap_cons]
    rcases k with _ | k
    · simp at h
      subst h
      rw [Nat.zero_mul, Nat.zero_add, List.getElem?_append_left (by rw [hz]; exact ht)]
    · simp at h
      rw [List.getElem?_append_right (by rw [hz, Nat.succ_mul]; omega), hz, Nat.succ_mul, show k * z + z + t - z = k * z + t from by omega]
      exact ih k t x h ht

end Go.Proofs.Ytbjdcbnmpmcdiaa
