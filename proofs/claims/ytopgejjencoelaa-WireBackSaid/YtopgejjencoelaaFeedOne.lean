/- A Feed of one text. Own work. -/
import Derived.Test.YtopgejjencoelaaNew
namespace Go.Proofs.Ytopgejjencoelaa
set_option linter.unusedVariables false
set_option linter.unusedSimpArgs false
open Go.RowKit

/-- Behind a Feed of one text. -/
def OneTo (p : Nat) (bin : Bool) (A : Option Addr) (w : World) (l : List Tok) (r : Rd) (e : Ending) (w' : World) : Prop :=
  ∃ v, e = .returned v ∧ w'.ownsRow w.heap.size 67 4 v l.length (toks l) ∧ ∃ A' c', RdIn w' p bin true r A' c' ∧ Step (rdOwn p A) w (rdOwn p A') w' ∧ ∀ k, v.ownBlock = some k → ¬ rdOwn p A' k

theorem feed_one (p : Nat) (bin made : Bool) (r : Rd) (A : Option Addr) (c : Nat) (x : ByteArray) (w : World) (h : RdIn w p bin made r A c) (hx : x.size ≤ 1000000000000) :
    Calls Try.prog 20 #[.pointer (some ⟨p, 0, none⟩), .slice (some ⟨w.heap.size, 0, none⟩) 1 1] (w.alloc (.cells #[.string x] 9)) (OneTo p bin A w (feedL bin r x.data.toList) (goL bin r x.data.toList)) := by
  have h1 := feed_any p bin made r A c (some ⟨w.heap.size, 0, none⟩) 1 1 [x] (w.alloc (.cells #[.string x] 9)) (h.alloc _) (src_one _ _ _ rfl) (fun i hi hr => by
    have : i = w.heap.size := by simp [blk] at hi; omega
    have := h.lto hr
    omega) (by omega) (by rw [sum_one]; exact hx)
  have e1 : joinL [x] = x.data.toList := by simp [joinL]
  rw [e1] at h1
  refine h1.mono ?_
  rintro e w' ⟨v, rfl, hr, A', c', h2, s2, hv⟩
  have k0 : Step (rdOwn p A) w (rdOwn p A) (w.alloc (.cells #[.string x] 9)) := ⟨(Keep.refl _ w).alloc _, fun _ y => .inl y⟩
  exact ⟨v, rfl, own_base hr (by simp), A', c', h2, k0.trans s2, hv⟩

/-- A Reader that was laid in w0 at p, in a later world. -/
def RdAny (p : Nat) (bin : Bool) (w0 : World) (r : Rd) (w : World) : Prop := ∃ made, RdTo p bin made none w0 r w

theorem RdAny.of {w : World} {p : Nat} {bin made : Bool} {r : Rd} (h : RdIn w p bin made r none 0) : RdAny p bin w r w := ⟨made, none, 0, h, Step.refl _ _⟩

theorem rdOwn_none {p k : Nat} (h : rdOwn p none k) : k = p := by
  rcases h with h | h
  · exact h
  · simp [blk] at h

/-- One more Feed. -/
theorem RdAny.fed {p : Nat} {bin : Bool} {w0 w w' : World} {r' : Rd} {A A' : Option Addr} {c' : Nat} (s : Step (rdOwn p none) w0 (rdOwn p A) w) (h : RdIn w' p bin true r' A' c') (k : Step (rdOwn p A) w (rdOwn p A') w') : RdAny p bin w0 r' w' := ⟨true, A', c', h, s.trans k⟩
/-- What it owns is its block, or was made since. -/
theorem far_of {p : Nat} {w0 w : World} {A : Option Addr} (s : Step (rdOwn p none) w0 (rdOwn p A) w) {i : Nat} (h : rdOwn p A i) : i = p ∨ w0.heap.size ≤ i := (s.2 i h).imp rdOwn_none id
end Go.Proofs.Ytopgejjencoelaa
