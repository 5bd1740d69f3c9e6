/- A slice of structs whose fields take a cell each, told by its cells. It speaks of no program. Own work. -/
import Derived.Test.YtihdiijnidcgkaaBase
import Derived.Deep.Slices
import Derived.Deep.Fields
set_option linter.unusedVariables false
set_option linter.unusedSimpArgs false
namespace Go.Proofs.Ytihdiijnidcgkaa
set_option linter.unusedVariables false
open Go.RowKit Go.ChangeShapes Go.WideShapes Go.Deep

/-- n structs of m cells that are read; Q says what stands at a place. -/
def Structs {α : Type} (Q : Nat → Nat → α → Prop) (m : Nat) (w : World) (A : Option Addr) (n : Nat) (ops : List α) : Prop :=
  ops.length = n ∧ n ≤ maxLen ∧ (0 < n → ∃ b off, A = some ⟨b, off, none⟩ ∧ b < w.heap.size ∧ ∀ i o, ops[i]? = some o → Q b (off + i * m) o)

theorem Structs.at {α : Type} {Q : Nat → Nat → α → Prop} {m : Nat} {w : World} {A : Option Addr} {n : Nat} {ops : List α} (h : Structs Q m w A n ops) {i : Nat} (hi : i < n) : ∃ b off o, A = some ⟨b, off, none⟩ ∧ b < w.heap.size ∧ ops[i]? = some o ∧ Q b (off + i * m) o := by
  obtain ⟨b, off, e, hb, hq⟩ := h.2.2 (by omega)
  have hl : i < ops.length := by rw [h.1]; exact hi
  exact ⟨b, off, ops[i], e, hb, List.getElem?_eq_getElem hl, hq i _ (List.getElem?_eq_getElem hl)⟩

section
variable {H : Type} {enc : TypeId × Value → H} {P : Program} {w : World}

theorem structs_read {α : Type} (Q : Nat → Nat → α → Prop) (m : Nat) (h0 : 0 < m) {t e : TypeId} (ht : P.underlying t = some (.slice e)) (hC : P.cellsOf e = m)
    (hone : ∀ b off n cs y, (∀ i, i < m → w.cell? ⟨b, off + i, none⟩ = cs[i]?) → cs.length = m → DataW.trod enc P w 0 (fun _ => true) true n e cs = some y → ∃ o, Q b off o)
    {fuel : Nat} {A : Option Addr} {len cap : Nat} {y : DataW H × List MemPlace} (h : DataW.trod enc P w 0 (fun _ => true) true fuel t [.slice A len cap] = some y) : ∃ ops, Structs Q m w A len ops := by
  rcases open_slice ht h with ⟨hcs', _⟩ | ⟨a, len', cap', mm, n, D, Pl, hcs', _, hl, hm, hmm, _, hi⟩
  · injection hcs' with h4
    injection h4 with hA hn hc
    subst hA hn
    exact ⟨[], rfl, by unfold maxLen; omega, fun h => absurd h (by omega)⟩
  · injection hcs' with h4
    injection h4 with hA hn hc
    subst hA hn hc
    simp only [if_true] at hmm
    subst hmm
    rcases Nat.eq_zero_or_pos len with h5 | h5
    · subst h5
      exact ⟨[], rfl, by unfold maxLen; omega, fun h => absurd h (by omega)⟩
    · obtain ⟨b, off, spot⟩ := a
      have hcl : ∀ i, i < len → ∃ cs' : List Value, cs'.length = m ∧ (∀ j, j < m → w.cell? (((⟨b, off, spot⟩ : Addr).add (i * m)).add j) = cs'[j]?) ∧ ∃ x, DataW.trod enc P w 0 (fun _ => true) true n e cs' = some x := fun i hil => by
        obtain ⟨cs', hc, htr⟩ := hi i (by omega)
        obtain ⟨_, hcl, hat⟩ := World.cells?_some hc
        rw [hC] at hat hcl
        exact ⟨cs', hcl, hat, _, htr⟩
      have hspot : spot = none := by
        obtain ⟨cs', hcl, hat, _⟩ := hcl 0 (by omega)
        have h6 := hat 0 (by omega)
        have h7 : cs'[0]? = some (cs'[0]'(by omega)) := List.getElem?_eq_getElem (by omega)
        rw [h7] at h6
        have h8 := World.cell?_spot h6
        simpa [Addr.add] using h8
      subst hspot
      have hall : ∀ i, i < len → ∃ o, Q b (off + i * m) o := fun i hil => by
        obtain ⟨cs', hcl, hat, x, htr⟩ := hcl i hil
        refine hone b (off + i * m) n cs' x (fun j hj => ?_) hcl htr
        have h6 := hat j hj
        rw [add_mk, add_mk] at h6
        exact h6
      have hlt : b < w.heap.size := by
        obtain ⟨cs', hcl, hat, _⟩ := hcl 0 (by omega)
        have h6 := hat 0 (by omega)
        have h7 : cs'[0]? = some (cs'[0]'(by omega)) := List.getElem?_eq_getElem (by omega)
        rw [h7] at h6
        have h8 := World.block_lt_of_cell? w _ h6
        rw [add_mk, add_mk] at h8
        exact h8
      refine ⟨List.ofFn fun i : Fin len => (hall i i.2).choose, by simp, Nat.le_trans hl hm, fun _ => ⟨b, off, rfl, hlt, fun i o hio => ?_⟩⟩
      have hil : i < len := by
        rcases Nat.lt_or_ge i len with h6 | h6
        · exact h6
        · rw [List.getElem?_eq_none (by simpa using h6)] at hio; cases hio
      rw [List.getElem?_ofFn, dif_pos hil] at hio
      injection hio with hio
      rw [← hio]
      exact (hall i hil).choose_spec
end

end Go.Proofs.Ytihdiijnidcgkaa
