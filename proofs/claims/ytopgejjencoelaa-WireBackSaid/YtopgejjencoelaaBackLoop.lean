/- Law WireBack: what stands in its loops. Own work. -/
import Derived.Test.YtopgejjencoelaaWireBackM
import Derived.Test.YtopgejjencoelaaWireAlive
import Derived.Test.YtopgejjencoelaaFeedOne
import Derived.Test.YtopgejjencoelaaCuts
import Derived.Test.YtopgejjencoelaaShort
import Derived.Test.YtopgejjencoelaaJoin
namespace Go.Proofs.Ytopgejjencoelaa
set_option linter.unusedVariables false
set_option linter.unusedSimpArgs false
open Go.RowKit

/-- What turns: the Reader's block, and what was made since. -/
def Since (p : Nat) (w0 : World) : Nat → Prop := fun k => k = p ∨ w0.heap.size ≤ k

/-- Behind bytes s that were fed in parts: the Reader, and the row of all that is no Data. -/
def BackAt (p : Nat) (bin : Bool) (w0 : World) (s : List UInt8) (v : Value) (w : World) : Prop :=
  ∃ made A c, RdIn w p bin made (goL bin Rd.new s) A c ∧ w.ownsRow w0.heap.size 67 4 v (othersOf (feedL bin Rd.new s)).length (toks (othersOf (feedL bin Rd.new s))) ∧
    (∀ i, v.ownBlock = some i → ¬ rdOwn p A i) ∧ (∀ i, rdOwn p A i → Since p w0 i) ∧ Keep (Since p w0) w0 w
theorem BackAt.new {p : Nat} {bin made : Bool} {w : World} (h : RdIn w p bin made Rd.new none 0) : BackAt p bin w [] (.slice none 0 0) w :=
  ⟨made, none, 0, h, World.ownsRow_nil _ _ _ _, by simp [Value.ownBlock], fun i hi => .inl (rdOwn_none hi), Keep.refl _ _⟩

/-- Behind k tokens of what a Feed told. -/
structure InAt (w0 w3 : World) (L F : List Tok) (v3 : Value) (k : Nat) (v : Value) (w : World) : Prop where
  o : w.ownsRow w0.heap.size 67 4 v (L ++ othersOf (F.take k)).length (toks (L ++ othersOf (F.take k)))
  k : Keep (fun i => v3.ownBlock = some i) w3 w
  b : ∀ i, v.ownBlock = some i → v3.ownBlock = some i ∨ w3.heap.size ≤ i

theorem othersOf_one (t : Tok) : othersOf [t] = if t.kind = 0 then [] else [t] := by
  by_cases h : t.kind = 0 <;> simp [othersOf, h]
theorem InAt.same {w0 w3 w : World} {L F : List Tok} {v3 v : Value} {k : Nat} {t : Tok} (h : InAt w0 w3 L F v3 k v w) (ht : F[k]? = some t) (hk : t.kind = 0) : InAt w0 w3 L F v3 (k + 1) v w := by
  have e : othersOf (F.take (k + 1)) = othersOf (F.take k) := by rw [take_next ht, othersOf_add, othersOf_one, if_pos hk, List.append_nil]
  exact ⟨by rw [e]; exact h.o, h.k, h.b⟩
theorem InAt.more {w0 w3 w w' : World} {L F : List Tok} {v3 v v' : Value} {k m : Nat} {t : Tok} {X : Obj} (h : InAt w0 w3 L F v3 k v w) (ht : F[k]? = some t) (hk : ¬ t.kind = 0)
    (hm : m = (L ++ othersOf (F.take k)).length + 1) (hown : w'.ownsRow w0.heap.size 67 4 v' m (toks (L ++ othersOf (F.take k)) ++ t.cells)) (hkeep : Keep (fun i => v.ownBlock = some i) (w.alloc X) w')
    (hat : ∀ i, v'.ownBlock = some i → v.ownBlock = some i ∨ (w.alloc X).heap.size ≤ i) : InAt w0 w3 L F v3 (k + 1) v' w' := by
  have e : othersOf (F.take (k + 1)) = othersOf (F.take k) ++ [t] := by rw [take_next ht, othersOf_add, othersOf_one, if_neg hk]
  have hz := h.k.size
  have k1 : Keep (fun i => v.ownBlock = some i) w w' := ((Keep.refl _ w).alloc X).trans hkeep (fun _ _ x => x)
  refine ⟨?_, h.k.trans k1 (fun i hi x => (h.b i x).elim id (fun y => by omega)), fun i hi => ?_⟩
  · subst hm
    rw [e, ← List.append_assoc, toks_add, toks_one, List.length_append]
    exact hown
  · rcases hat i hi with x | x
    · exact h.b i x
    · rw [World.size_alloc] at x
      exact .inr (by omega)

section
variable {p : Nat} {bin made : Bool} {w0 w w3 : World} {s x : List UInt8} {v : Value} {A A' : Option Addr} {c c' : Nat}
theorem back_fed (h1 : RdIn w p bin made (goL bin Rd.new s) A c) (h5 : w.ownsRow w0.heap.size 67 4 v (othersOf (feedL bin Rd.new s)).length (toks (othersOf (feedL bin Rd.new s))))
    (h6 : ∀ i, v.ownBlock = some i → ¬ rdOwn p A i) (f2 : Step (rdOwn p A) w (rdOwn p A') w3) :
    InAt w0 w3 (othersOf (feedL bin Rd.new s)) (feedL bin (goL bin Rd.new s) x) v 0 v w3 := by
  refine ⟨?_, Keep.refl _ _, fun i hi => .inl hi⟩
  have := own_keep h5 f2.1 h6
  simpa [othersOf] using this
theorem back_end (h5 : w.ownsRow w0.heap.size 67 4 v (othersOf (feedL bin Rd.new s)).length (toks (othersOf (feedL bin Rd.new s))))
    (h6 : ∀ i, v.ownBlock = some i → ¬ rdOwn p A i) (h7 : ∀ i, rdOwn p A i → Since p w0 i) (h8 : Keep (Since p w0) w0 w)
    (f1 : RdIn w3 p bin true (goL bin (goL bin Rd.new s) x) A' c') (f2 : Step (rdOwn p A) w (rdOwn p A') w3) {v' : Value} {w' : World} {k : Nat}
    (hi : InAt w0 w3 (othersOf (feedL bin Rd.new s)) (feedL bin (goL bin Rd.new s) x) v k v' w') (hk : (feedL bin (goL bin Rd.new s) x).length ≤ k) : BackAt p bin w0 (s ++ x) v' w' := by
  have hA' : ∀ i, rdOwn p A' i → v.ownBlock ≠ some i := fun i hi e => by
    rcases f2.2 i hi with y | y
    · exact h6 i e y
    · have := own_lt h5 e; omega
  refine ⟨true, A', c', ?_, ?_, ?_, ?_, ?_⟩
  · rw [← go_cut]
    exact f1.keep hi.k hA'
  · have := hi.o
    rw [List.take_of_length_le hk, ← others_cut] at this
    exact this
  · intro i hv hr
    rcases hi.b i hv with y | y
    · exact hA' i hr y
    · have := f1.lto hr; omega
  · intro i hr
    rcases f2.2 i hr with y | y
    · exact h7 i y
    · exact .inr (Nat.le_trans h8.size y)
  · have k1 : Keep (Since p w0) w0 w3 := h8.trans f2.1 (fun i _ hi => h7 i hi)
    exact k1.trans hi.k (fun i _ hi => .inr (h5.lt i hi).1)
end
/-- A row that the Feed told stays while others are put to the list. -/
theorem InAt.told {w0 w3 w : World} {L F : List Tok} {v3 v m : Value} {k n : Nat} {xs : List Value} {base : Nat} (h : InAt w0 w3 L F v3 k v w) (hm : w3.ownsRow base 67 4 m n xs) (hb : ∀ i, v3.ownBlock = some i → i < base) : w.ownsRow base 67 4 m n xs :=
  own_keep hm h.k (fun i hi x => by have := hb i x; have := (hm.lt i hi).1; omega)

end Go.Proofs.Ytopgejjencoelaa
