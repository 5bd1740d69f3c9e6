/- pontoonbook's copyInts, of a Book. Own work. -/
import Derived.Test.YthmogbldfecckaaBkSInts
import Derived.Test.YthmogbldfecckaaBookI0
set_option linter.unusedVariables false
set_option linter.unusedSimpArgs false
namespace Go.Proofs.Ythmogbldfecckaa
set_option linter.unusedVariables false
open Go.RowKit

theorem weaker_Ints {rd rd' : Nat → Prop} {w : World} {us vs : List Value} (h : SmInts rd w us vs) (hs : ∀ i, rd i → rd' i) : SmInts rd' w us vs := h
theorem copy'_Ints (rd : Nat → Prop) (A : Option Addr) (n c : Nat) (us : List Value) (w : World) (h : Src w A (n * 1) us) (hs : SmInts rd w us us) (hr : ∀ i, rd i → i < w.heap.size) (hn : n ≤ 1099511627776) :
    Calls Try.prog 25 #[.slice A n c] w fun e w' => ∃ (v : Value) (vs : List Value) (rd2 : Nat → Prop), e = .returned v ∧ w'.ownsRow w.heap.size 3 1 v n vs ∧ Below w.heap.size w w' ∧ SmInts (fun i => rd i ∨ rd2 i) w' us vs ∧ ∀ i, rd2 i → w.heap.size ≤ i ∧ i < w'.heap.size := by
  obtain ⟨xs, rfl, -⟩ := hs
  rw [Nat.mul_one] at h
  refine (copy_Ints A n c xs w h hn).mono ?_
  rintro e w' ⟨v, rfl, h1, h2⟩
  exact ⟨v, _, fun _ => False, rfl, h1, h2, ⟨xs, rfl, rfl⟩, fun _ x => x.elim⟩

end Go.Proofs.Ythmogbldfecckaa
