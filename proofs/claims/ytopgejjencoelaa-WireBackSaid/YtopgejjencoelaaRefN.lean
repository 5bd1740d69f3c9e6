/- How much the document's Reader tells. Own work. -/
import Derived.Test.YtopgejjencoelaaRefM
set_option linter.unusedVariables false
set_option linter.unusedSimpArgs false
namespace Go.Proofs.Ytopgejjencoelaa
set_option linter.unusedVariables false
open Go.RowKit

theorem commandR_few (f : Rf) (c : UInt8) : (commandR f c).2.length ≤ 1 ∧ tsum (commandR f c).2 ≤ 1 ∧ (commandR f c).1.body = f.body := by
  unfold commandR
  repeat' split
  all_goals simp [dataR, tsum]
theorem feedR_few (bin : Bool) (f : Rf) (c : UInt8) (h : f.body.length ≤ 40) : (feedR bin f c).2.length ≤ 1 ∧ tsum (feedR bin f c).2 ≤ 40 ∧ (feedR bin f c).1.body.length ≤ 40 := by
  have hc := fun g : Rf => commandR_few g c
  unfold feedR subR
  repeat' split
  all_goals first
    | (have h1 := hc f; rw [h1.2.2]; exact ⟨h1.1, by omega, h⟩)
    | (have h1 := hc ⟨f.cr, f.cmd, false, f.opt, [], false, false⟩; rw [h1.2.2]; exact ⟨h1.1, by omega, by simp⟩)
    | (simp [dataR, tsum]; omega)
    | (simp [dataR, tsum])
theorem joinsT_few (acc l : List Tok) : (joinsT acc l).length ≤ acc.length + l.length := joinsT_len l acc
theorem allR_few (bin : Bool) (s : List UInt8) : ∀ x : Rf × List Tok, x.1.body.length ≤ 40 → (allR bin x s).2.length ≤ x.2.length + s.length ∧ tsum (allR bin x s).2 ≤ tsum x.2 + 40 * s.length ∧ (allR bin x s).1.body.length ≤ 40 := by
  induction s with
  | nil => intro x h; exact ⟨Nat.le_refl _, Nat.le_refl _, h⟩
  | cons b s ih =>
    intro x h
    obtain ⟨h1, h2, h3⟩ := feedR_few bin x.1 b h
    obtain ⟨i1, i2, i3⟩ := ih ((feedR bin x.1 b).1, joinsT x.2 (feedR bin x.1 b).2) h3
    have j1 := joinsT_few x.2 (feedR bin x.1 b).2
    have j2 := tsum_joinsT (feedR bin x.1 b).2 x.2
    refine ⟨?_, ?_, i3⟩
    · show (allR bin ((feedR bin x.1 b).1, joinsT x.2 (feedR bin x.1 b).2) s).2.length ≤ _
      simp only [List.length_cons] at i1 ⊢
      omega
    · show tsum (allR bin ((feedR bin x.1 b).1, joinsT x.2 (feedR bin x.1 b).2) s).2 ≤ _
      simp only [List.length_cons] at i2 ⊢
      omega
theorem joins_next {acc l : List Tok} {k : Nat} {t : Tok} (h : l[k]? = some t) : joinsT acc (l.take (k + 1)) = joinT (joinsT acc (l.take k)) t := by
  rw [take_next h, joinsT_add]
  rfl

end Go.Proofs.Ytopgejjencoelaa
