/- Chapter 9 over lists: what is sent (wire's text of that name without what speaks of readers). Own work. -/
import Derived.Test.YtmkgcmnimpkmjaaBase
set_option linter.unusedVariables false
set_option linter.unusedSimpArgs false
namespace Go.Proofs.Ytmkgcmnimpkmjaa
set_option linter.unusedVariables false
open Go.RowKit

/-- What one byte is sent as, with those behind it. -/
def pieceL (bin : Bool) (b : UInt8) (s : List UInt8) : List UInt8 := if b = 255 then [255, 255] else if b = 13 ∧ bin = false ∧ s.head? ≠ some 10 then [13, 0] else [b]
/-- What bytes are sent as. -/
def sentL (bin : Bool) : List UInt8 → List UInt8
  | [] => []
  | b :: s => pieceL bin b s ++ sentL bin s

theorem piece_len (bin : Bool) (b : UInt8) (s : List UInt8) : 1 ≤ (pieceL bin b s).length ∧ (pieceL bin b s).length ≤ 2 := by
  unfold pieceL
  repeat' split
  all_goals simp
theorem sent_len (bin : Bool) (s : List UInt8) : s.length ≤ (sentL bin s).length ∧ (sentL bin s).length ≤ 2 * s.length := by
  induction s with
  | nil => simp [sentL]
  | cons b s ih =>
    have := piece_len bin b s
    simp only [sentL, List.length_append, List.length_cons]
    omega
theorem sent_at {bin : Bool} {s : List UInt8} {i : Nat} {b : UInt8} (h : s[i]? = some b) : sentL bin (s.drop i) = pieceL bin b (s.drop (i + 1)) ++ sentL bin (s.drop (i + 1)) := by rw [drop_next h]; rfl
/-- Behind i bytes. -/
def Sent (bin : Bool) (s : List UInt8) (i : Nat) (acc : List UInt8) : Prop := acc ++ sentL bin (s.drop i) = sentL bin s
theorem Sent.nil (bin : Bool) (s : List UInt8) : Sent bin s 0 [] := by simp [Sent]
theorem Sent.next {bin : Bool} {s acc : List UInt8} {i : Nat} {b : UInt8} (h : Sent bin s i acc) (hb : s[i]? = some b) : Sent bin s (i + 1) (acc ++ pieceL bin b (s.drop (i + 1))) := by
  unfold Sent at h ⊢
  rw [List.append_assoc, ← sent_at hb]
  exact h
theorem Sent.all {bin : Bool} {s acc : List UInt8} {i : Nat} (h : Sent bin s i acc) (hi : s.length ≤ i) : acc = sentL bin s := by
  unfold Sent at h
  rw [List.drop_of_length_le hi] at h
  simpa [sentL] using h
theorem Sent.len {bin : Bool} {s acc : List UInt8} {i : Nat} (h : Sent bin s i acc) : acc.length ≤ 2 * s.length := by
  have h1 := congrArg List.length h
  rw [List.length_append] at h1
  have := (sent_len bin s).2
  omega
theorem piece_255 (bin : Bool) (s : List UInt8) : pieceL bin 255 s = [255, 255] := rfl
theorem piece_cr {s : List UInt8} (h : s.head? ≠ some 10) : pieceL false 13 s = [13, 0] := by
  unfold pieceL
  rw [if_neg (by decide), if_pos ⟨rfl, rfl, h⟩]
theorem piece_one {bin : Bool} {b : UInt8} {s : List UInt8} (h : b ≠ 255) (h2 : ¬ (b = 13 ∧ bin = false ∧ s.head? ≠ some 10)) : pieceL bin b s = [b] := by
  unfold pieceL
  rw [if_neg h, if_neg h2]
theorem head_drop (s : List UInt8) (i : Nat) : (s.drop i).head? = s[i]? := by rw [List.head?_drop]

/-- A command about an option, a subnegotiation. -/
def optL (cmd o : Nat) : List UInt8 := [255, UInt8.ofNat cmd, UInt8.ofNat o]
def subL (o : Nat) (s : List UInt8) : List UInt8 := [255, 250, UInt8.ofNat o] ++ sentL true s ++ [255, 240]

end Go.Proofs.Ytmkgcmnimpkmjaa
