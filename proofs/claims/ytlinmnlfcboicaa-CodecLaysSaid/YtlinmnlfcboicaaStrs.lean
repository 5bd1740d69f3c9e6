/- A []string that came in, told by its cells. Own work; it speaks of no program. -/
import Derived.Test.YtlinmnlfcboicaaKeep
import Derived.ProofKit
namespace Go.Proofs.Ytlinmnlfcboicaa
set_option linter.unusedVariables false
open Go.RowKit

/-- n strings that are read. -/
def Strs (w : World) (A : Option Addr) (n : Nat) (ss : List ByteArray) : Prop :=
  ss.length = n ∧ (0 < n → ∃ b off, A = some ⟨b, off, none⟩ ∧ b < w.heap.size ∧ ∀ i s, ss[i]? = some s → w.cell? ⟨b, off + i, none⟩ = some (.string s)) ∧ (∀ s ∈ ss, s.size ≤ maxLen) ∧ n ≤ maxLen

theorem strs_nil (w : World) (A : Option Addr) : Strs w A 0 [] := ⟨rfl, fun h => absurd h (by omega), by simp, by unfold maxLen; omega⟩

theorem strs_of {w : World} {x : Addr} {len : Nat} {zs : List ByteArray} (hl : len ≤ zs.length) (hcell : ∀ i, i < zs.length → w.cell? (x.add i) = some (.string (zs.getD i ByteArray.empty))) (hws : ∀ s ∈ zs, s.size ≤ maxLen) (hm : len ≤ maxLen) :
    Strs w (some x) len (zs.take len) := by
  refine ⟨by rw [List.length_take]; omega, fun h0 => ?_, fun s hs => hws s (List.mem_of_mem_take hs), hm⟩
  obtain ⟨b, off, spot⟩ := x
  have hc := hcell 0 (by omega)
  have hspot : spot = none := by simpa [Addr.add] using World.cell?_spot hc
  subst hspot
  refine ⟨b, off, rfl, ?_, fun i s hi => ?_⟩
  · have := World.block_lt_of_cell? w _ hc
    simpa [Addr.add] using this
  · rw [List.getElem?_take] at hi
    split at hi
    · have hiz : i < zs.length := by
        rcases Nat.lt_or_ge i zs.length with h | h
        · exact h
        · rw [List.getElem?_eq_none h] at hi; cases hi
      have h1 := hcell i hiz
      have hadd : (⟨b, off, none⟩ : Addr).add i = ⟨b, off + i, none⟩ := by unfold Addr.add; split <;> simp_all
      rw [hadd] at h1
      rw [h1, List.getD_eq_getElem?_getD, hi]
      rfl
    · cases hi

end Go.Proofs.Ytlinmnlfcboicaa
