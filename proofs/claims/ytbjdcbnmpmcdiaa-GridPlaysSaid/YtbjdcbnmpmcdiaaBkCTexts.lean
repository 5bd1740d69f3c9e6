/- pontoonbook's copyTexts, of a Book. Own work. -/
import Derived.Test.YtbjdcbnmpmcdiaaBkSTexts
import Derived.Test.YtbjdcbnmpmcdiaaBookT0
set_option linter.unusedVariables false
set_option linter.unusedSimpArgs false
namespace Go.Proofs.Ytbjdcbnmpmcdiaa
set_option linter.unusedVariables false
open Go.RowKit

theorem weaker_Texts {rd rd' : Nat → Prop} {w : World} {us vs : List Value} (h : SmTexts rd w us vs) (hs : ∀ i, rd i → rd' i) : SmTexts rd' w us vs := h
theorem copy'_Texts (rd : Nat → Prop) (A : Option Addr) (n c : Nat) (us : List Value) (w : World) (h : Src w A (n * 1) us) (hs : SmTexts rd w us us) (hr : ∀ i, rd i → i < w.heap.size) (hn : n ≤ 1099511627776) :
    Calls Try.prog 58 #[.slice A n c] w fun e w' => ∃ (v : Value) (vs : List Value) (rd2 : Nat → Prop), e = .returned v ∧ w'.ownsRow w.heap.size 9 1 v n vs ∧ Below w.heap.size w w' ∧ SmTexts (fun i => rd i ∨ rd2 i) w' us vs ∧ ∀ i, rd2 i → w.heap.size ≤ i ∧ i < w'.heap.size := by
  obtain ⟨xs, rfl, -⟩ := hs
  rw [Nat.mul_one] at h
  refine (copy_Texts A n c xs w h hn).mono ?_
  rintro e w' ⟨v, rfl, h1, h2⟩
  exact ⟨v, _, fun _ => False, rfl, h1, h2, ⟨xs, rfl, rfl⟩, fun _ x => x.elim⟩

end Go.Proofs.Ytbjdcbnmpmcdiaa
