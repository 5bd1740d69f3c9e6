/- Bytes that are Data as they are. Own work. -/
import Derived.Test.YtnnkgdggkinblaaNvtLawM
import Derived.Test.YtnnkgdggkinblaaToks
set_option linter.unusedVariables false
set_option linter.unusedSimpArgs false
namespace Go.Proofs.Ytnnkgdggkinblaa
set_option linter.unusedVariables false
open Go.RowKit

/-- A byte that is Data as it is. -/
def okB (bin : Bool) (b : UInt8) : Prop := b ≠ 255 ∧ (b = 13 → bin = true)
/-- Where the next byte is Data, whatever it is. -/
def Rd.Easy (bin : Bool) (r : Rd) : Prop := r.at' ≤ 1 ∧ (bin = false → r.at' = 0)

theorem easy_new (bin : Bool) : Rd.new.Easy bin := ⟨Nat.zero_le _, fun _ => rfl⟩

theorem easy_take (bin : Bool) (r : Rd) (a : An) (b : UInt8) (h : r.Easy bin) (hb : okB bin b) : ∃ s, s ≤ 1 ∧ (bin = false → s = 0) ∧ takeL bin (r, a) b = (r.goes s, dataA a b) := by
  have hk7 := kindL_lt bin b
  have hk6 : kindL bin b ≠ 6 := by unfold kindL; repeat' split
                                   all_goals first | omega | (exact absurd ‹_› hb.1)
  have h1 : bin = true → kindL bin b ≠ 1 := by
    intro e; subst e; unfold kindL; simp only [Bool.true_eq_false, and_false, if_false]; repeat' split
    all_goals omega
  have h2 : bin = false → kindL bin b ≠ 2 := by
    intro e; subst e
    have : b ≠ 13 := fun x => by simpa using hb.2 x
    unfold kindL; repeat' split
    all_goals first | omega | (exact absurd ‹_› this)
  have ht : ∀ s k, s ≤ 1 → k < 7 → k ≠ 6 → (bin = true → k ≠ 1) → (bin = false → k ≠ 2 ∧ s = 0) → actL s k = 1 ∧ nextL s k ≤ 1 ∧ (bin = false → nextL s k = 0) := by
    cases bin
    · have : ∀ s, s ≤ 1 → ∀ k, k < 7 → k ≠ 6 → (k ≠ 2 ∧ s = 0) → actL s k = 1 ∧ nextL s k ≤ 1 ∧ nextL s k = 0 := by
        intro s hs
        match s, hs with
        | 0, _ => decide
        | 1, _ => intro k _ _ h; omega
      intro s k a1 a2 a3 _ a5
      have := this s a1 k a2 a3 (a5 rfl)
      exact ⟨this.1, this.2.1, fun _ => this.2.2⟩
    · have : ∀ s, s ≤ 1 → ∀ k, k < 7 → k ≠ 6 → k ≠ 1 → actL s k = 1 ∧ nextL s k ≤ 1 := by
        intro s hs
        match s, hs with
        | 0, _ => decide
        | 1, _ => decide
      intro s k a1 a2 a3 a4 _
      have := this s a1 k a2 a3 (a4 rfl)
      exact ⟨this.1, this.2, fun h => by cases h⟩
  obtain ⟨e1, e2, e3⟩ := ht r.at' (kindL bin b) h.1 hk7 hk6 h1 (fun e => ⟨h2 e, h.2 e⟩)
  refine ⟨nextL r.at' (kindL bin b), e2, e3, ?_⟩
  unfold takeL
  simp only
  rw [e1]
  rfl

theorem easy_bytes (bin : Bool) (s : List UInt8) (hs : ∀ b ∈ s, okB bin b) : ∀ (r : Rd) (a : An), r.Easy bin → ∃ k, k ≤ 1 ∧ (bin = false → k = 0) ∧ bytesL bin (r, a) s = (r.goes k, ⟨a.told, a.bytes ++ s⟩) := by
  induction s with
  | nil => intro r a h; exact ⟨r.at', h.1, h.2, by rw [List.append_nil]; rfl⟩
  | cons b s ih =>
    intro r a h
    obtain ⟨k, h1, h2, e⟩ := easy_take bin r a b h (hs b (by simp))
    obtain ⟨k', h1', h2', e'⟩ := ih (fun x hx => hs x (by simp [hx])) (r.goes k) (dataA a b) ⟨h1, h2⟩
    refine ⟨k', h1', h2', ?_⟩
    show bytesL bin (takeL bin (r, a) b) s = _
    rw [e, e']
    simp [dataA, Rd.goes]

/-- What one Feed tells of such bytes. -/
theorem easy_feed (bin : Bool) (r : Rd) (s : List UInt8) (hs : ∀ b ∈ s, okB bin b) (h : r.Easy bin) : feedL bin r s = (if s = [] then [] else [⟨0, 0, 0, s⟩]) ∧ (goL bin r s).Easy bin ∧ (goL bin r s).text = r.text := by
  obtain ⟨k, h1, h2, e⟩ := easy_bytes bin s hs r An.new h
  have e1 : feedL bin r s = (endA ⟨[], s⟩).told := by show (endA (bytesL bin (r, An.new) s).2).told = _; rw [e]; rfl
  have e2 : goL bin r s = r.goes k := by show (bytesL bin (r, An.new) s).1 = _; rw [e]
  rw [e1, e2]
  refine ⟨?_, ⟨h1, h2⟩, rfl⟩
  unfold endA
  simp only
  split
  · rfl
  · simp
theorem easy_whole (bin : Bool) (r : Rd) (h : r.Easy bin) : wholeL r = true := by simp [wholeL]; exact h.1

end Go.Proofs.Ytnnkgdggkinblaa
