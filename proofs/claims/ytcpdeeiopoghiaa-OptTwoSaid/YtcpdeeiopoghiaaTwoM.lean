/- Two sides that tell each other: where they stand. Own work. -/
import Derived.Test.YtcpdeeiopoghiaaHeard
import Derived.Test.YtcpdeeiopoghiaaTwo
namespace Go.Proofs.Ytcpdeeiopoghiaa
set_option linter.unusedVariables false
set_option linter.unusedSimpArgs false
open Go.RowKit

/-- Behind q rounds of telling: a, what is under way to b, b. -/
def PhaseAt (ag o : Bool) (fin : Int) (q : Nat) (sa : Int) (oa : Bool) (sb : Int) (nb : Nat) (lb : List Value) : Prop :=
  (q = 0 ∧ sa = 3 ∧ oa = o ∧ sb = 0 ∧ nb = 1 ∧ lb = [.bool true] ∧ fin = if ag && !o then 1 else 0) ∨
  (q = 1 ∧ ag = true ∧ o = true ∧ sa = 2 ∧ oa = false ∧ sb = 1 ∧ nb = 1 ∧ lb = [.bool false] ∧ fin = 0) ∨
  (q ≤ 2 ∧ nb = 0 ∧ lb = [] ∧ sa = fin ∧ oa = false ∧ sb = fin)

theorem phase_step {ag o : Bool} {fin : Int} {q : Nat} {sa : Int} {oa : Bool} {sb : Int} {nb : Nat} {lb : List Value} (h : PhaseAt ag o fin q sa oa sb nb lb) (h0 : nb ≠ 0) :
    ∃ x sb' n1 y sa' n2, nb = 1 ∧ lb = [.bool x] ∧ q ≤ 1 ∧ heardL sb false x ag = (sb', n1) ∧ (n1 == 0) = false ∧ decide (0 < n1) = y ∧ heardL sa oa y true = (sa', n2) ∧ validB sb false = true ∧ validB sa oa = true ∧
      (((n2 == 0) = true ∧ PhaseAt ag o fin (q + 1) sa' false sb' 0 []) ∨ ((n2 == 0) = false ∧ PhaseAt ag o fin (q + 1) sa' false sb' 1 [.bool (decide (0 < n2))])) := by
  rcases h with ⟨rfl, rfl, rfl, rfl, rfl, rfl, rfl⟩ | ⟨rfl, rfl, rfl, rfl, rfl, rfl, rfl, rfl, rfl⟩ | ⟨_, h, _⟩
  · cases ag
    · exact ⟨true, 0, -1, false, 0, 0, rfl, rfl, by omega, rfl, rfl, rfl, by cases oa <;> rfl, rfl, by cases oa <;> rfl, .inl ⟨rfl, .inr (.inr ⟨by omega, rfl, rfl, rfl, rfl, rfl⟩)⟩⟩
    · cases oa
      · exact ⟨true, 1, 1, true, 1, 0, rfl, rfl, by omega, rfl, rfl, rfl, rfl, rfl, rfl, .inl ⟨rfl, .inr (.inr ⟨by omega, rfl, rfl, rfl, rfl, rfl⟩)⟩⟩
      · exact ⟨true, 1, 1, true, 2, -1, rfl, rfl, by omega, rfl, rfl, rfl, rfl, rfl, rfl, .inr ⟨rfl, .inr (.inl ⟨rfl, rfl, rfl, rfl, rfl, rfl, rfl, rfl, rfl⟩)⟩⟩
  · exact ⟨false, 0, -1, false, 0, 0, rfl, rfl, by omega, rfl, rfl, rfl, rfl, rfl, rfl, .inl ⟨rfl, .inr (.inr ⟨by omega, rfl, rfl, rfl, rfl, rfl⟩)⟩⟩
  · exact absurd h h0

/-- What was wanted last. -/
def lastOf (xs : List Bool) (k : Nat) : Bool := decide (0 < k) && xs.getD (k - 1) false

theorem lastOf_next {xs : List Bool} {k : Nat} {x : Bool} (h : xs[k]? = some x) : lastOf xs (k + 1) = x := by
  unfold lastOf
  simp [List.getD_eq_getElem?_getD, h]

/-- While a wants, and behind it. -/
def OuterAt (xs : List Bool) (n : Nat) (ag : Bool) (k : Nat) (sa : Int) (oa : Bool) (sb : Int) (nb : Nat) (lb : List Value) : Prop :=
  (k ≤ n ∧ sb = 0 ∧ ((sa = 0 ∧ oa = false ∧ nb = 0 ∧ lb = [] ∧ lastOf xs k = false) ∨ (sa = 3 ∧ nb = 1 ∧ lb = [.bool true] ∧ lastOf xs k = !oa))) ∨
  (k = n + 1 ∧ nb = 0 ∧ lb = [] ∧ sa = (if ag && lastOf xs n then 1 else 0) ∧ oa = false ∧ sb = sa)

theorem outer_le {xs : List Bool} {n : Nat} {ag : Bool} {k : Nat} {sa : Int} {oa : Bool} {sb : Int} {nb : Nat} {lb : List Value} (h : OuterAt xs n ag k sa oa sb nb lb) : k ≤ n + 1 := by
  rcases h with ⟨h, _⟩ | ⟨h, _⟩ <;> omega

/-- a wants. -/
theorem ask_step {xs : List Bool} {n : Nat} {ag : Bool} {k : Nat} {sa : Int} {oa : Bool} {sb : Int} {nb : Nat} {lb : List Value} (h : OuterAt xs n ag k sa oa sb nb lb) (hk : k < n) {x : Bool} (hx : xs[k]? = some x) :
    ∃ sa' oa' n1, (∀ W, Calls Try.prog 10 #[.agg #[.int .i64 sa, .bool oa], .bool x] W fun e w' => e = .returned (.tuple #[.agg #[.int .i64 sa', .bool oa'], .int .i64 n1]) ∧ Below W.heap.size W w') ∧
      (((n1 == 0) = true ∧ OuterAt xs n ag (k + 1) sa' oa' sb nb lb) ∨ ((n1 == 0) = false ∧ decide (0 < n1) = true ∧ nb = 0 ∧ lb = [] ∧ OuterAt xs n ag (k + 1) sa' oa' sb 1 [.bool true])) := by
  have hl := lastOf_next hx
  rcases h with ⟨_, rfl, ⟨rfl, rfl, rfl, rfl, h⟩ | ⟨rfl, rfl, rfl, h⟩⟩ | ⟨h, _⟩
  · refine ⟨_, _, _, fun W => side_ask 0 false x W rfl, ?_⟩
    cases x
    · exact .inl ⟨rfl, .inl ⟨by omega, rfl, .inl ⟨rfl, rfl, rfl, rfl, hl⟩⟩⟩
    · exact .inr ⟨rfl, rfl, rfl, rfl, .inl ⟨by omega, rfl, .inr ⟨rfl, rfl, rfl, hl⟩⟩⟩
  · refine ⟨_, _, _, fun W => side_ask 3 oa x W (by cases oa <;> rfl), .inl ⟨rfl, .inl ⟨by omega, rfl, .inr ⟨rfl, rfl, rfl, ?_⟩⟩⟩⟩
    rw [hl]
    simp [askL]
  · omega

/-- The telling begins. -/
theorem phase_start {xs : List Bool} {n : Nat} {ag : Bool} {sa : Int} {oa : Bool} {sb : Int} {nb : Nat} {lb : List Value} (h : OuterAt xs n ag n sa oa sb nb lb) :
    ∃ o, PhaseAt ag o (if ag && lastOf xs n then 1 else 0) 0 sa oa sb nb lb := by
  rcases h with ⟨_, rfl, ⟨rfl, rfl, rfl, rfl, h⟩ | ⟨rfl, rfl, rfl, h⟩⟩ | ⟨h, _⟩
  · exact ⟨false, .inr (.inr ⟨by omega, rfl, rfl, by simp [h], rfl, by simp [h]⟩)⟩
  · exact ⟨oa, .inl ⟨rfl, rfl, rfl, rfl, rfl, rfl, by rw [h]⟩⟩
  · omega

theorem phase_end {ag o : Bool} {fin : Int} {q : Nat} {sa : Int} {oa : Bool} {sb : Int} {lb : List Value} (h : PhaseAt ag o fin q sa oa sb 0 lb) : sa = fin ∧ oa = false ∧ sb = fin ∧ lb = [] := by
  rcases h with ⟨_, _, _, _, h, _⟩ | ⟨_, _, _, _, _, _, h, _⟩ | ⟨_, _, h1, h2, h3, h4⟩
  · cases h
  · cases h
  · exact ⟨h2, h3, h4, h1⟩

end Go.Proofs.Ytcpdeeiopoghiaa
