/- Ends of lines. Own work. -/
import Derived.Test.YtnnkgdggkinblaaRefP
set_option linter.unusedVariables false
set_option linter.unusedSimpArgs false
namespace Go.Proofs.Ytnnkgdggkinblaa
set_option linter.unusedVariables false
open Go.RowKit

def endOf (k : Nat) : List UInt8 := if k % 3 = 0 then [13, 10] else if k % 3 = 1 then [13, 0] else [13]
def wantEnd (bin : Bool) (k : Nat) : List UInt8 := if k % 3 = 0 then [13, 10] else if k % 3 = 1 then (if bin = true then [13, 0] else [13]) else [13]

/-- Where lines end. -/
def Grnd (bin : Bool) (S W : List UInt8) : Prop := ∃ q, q ≤ 1 ∧ bytesL bin (Rd.new, An.new) S = (Rd.new.goes q, ⟨[], W⟩)

theorem doR_one (b : UInt8) (r : Rd) : doR 1 b r = r := rfl
theorem doR_zero (b : UInt8) (r : Rd) : doR 0 b r = r := rfl

theorem grnd_more {bin : Bool} {S W : List UInt8} {b : UInt8} (h : Grnd bin S W) (hb : ∀ q, q ≤ 1 → ∃ q', q' ≤ 1 ∧ ∀ W, takeL bin (Rd.new.goes q, ⟨[], W⟩) b = (Rd.new.goes q', ⟨[], W ++ [b]⟩)) : Grnd bin (S ++ [b]) (W ++ [b]) := by
  obtain ⟨q, h1, h2⟩ := h
  obtain ⟨q', h3, h4⟩ := hb q h1
  exact ⟨q', h3, by rw [bytes_add, h2, bytes_one, h4]⟩
theorem grnd_text {bin : Bool} {S W : List UInt8} {b : UInt8} (h : Grnd bin S W) (hk : kindL bin b = 0) : Grnd bin (S ++ [b]) (W ++ [b]) :=
  grnd_more h (fun q hq => ⟨0, by omega, fun W => by
    match q, hq with
    | 0, _ => exact take_is (r := Rd.new.goes 0) (a := ⟨[], W⟩) (s := 0) (c := 1) (n := 0) hk rfl rfl rfl
    | 1, _ => exact take_is (r := Rd.new.goes 1) (a := ⟨[], W⟩) (s := 1) (c := 1) (n := 0) hk rfl rfl rfl⟩)
theorem grnd_cr {bin : Bool} {S W : List UInt8} (h : Grnd bin S W) : ∃ q, q = 1 ∧ bytesL bin (Rd.new, An.new) (S ++ [13]) = (Rd.new.goes q, ⟨[], W ++ [13]⟩) := by
  obtain ⟨q, h1, h2⟩ := h
  have hk : kindL bin 13 = 2 := by cases bin <;> rfl
  refine ⟨1, rfl, ?_⟩
  rw [bytes_add, h2, bytes_one]
  match q, h1 with
  | 0, _ => exact take_is (r := Rd.new.goes 0) (a := ⟨[], W⟩) (s := 0) (c := 1) (n := 1) hk rfl rfl rfl
  | 1, _ => exact take_is (r := Rd.new.goes 1) (a := ⟨[], W⟩) (s := 1) (c := 1) (n := 1) hk rfl rfl rfl
theorem kind_text {bin : Bool} {b : UInt8} (h1 : 32 ≤ b) (h2 : b ≤ 126) : kindL bin b = 0 := by
  rcases kind_cases bin b with ⟨rfl, _⟩ | ⟨rfl, _⟩ | ⟨rfl, _⟩ | ⟨rfl, _⟩ | ⟨h3, _, _⟩ | ⟨rfl, _⟩ | ⟨_, _, _, _, _, h⟩
  · exact absurd h2 (by decide)
  · exact absurd h1 (by decide)
  · exact absurd h2 (by decide)
  · exact absurd h2 (by decide)
  · have : (251 : UInt8) ≤ 126 := by
      rw [UInt8.le_iff_toNat_le] at *
      omega
    exact absurd this (by decide)
  · exact absurd h1 (by decide)
  · exact h
theorem grnd_texts {bin : Bool} (x : List UInt8) : ∀ {S W : List UInt8}, (∀ b ∈ x, 32 ≤ b ∧ b ≤ 126) → Grnd bin S W → Grnd bin (S ++ x) (W ++ x) := by
  induction x with
  | nil => intro S W _ h; rwa [List.append_nil, List.append_nil]
  | cons b x ih =>
    intro S W hx h
    have hb := hx b (by simp)
    have := ih (S := S ++ [b]) (W := W ++ [b]) (fun y hy => hx y (by simp [hy])) (grnd_text h (kind_text hb.1 hb.2))
    rwa [List.append_assoc, List.append_assoc] at this
theorem grnd_end {bin : Bool} {S W : List UInt8} (h : Grnd bin S W) (k : Nat) : Grnd bin (S ++ endOf k) (W ++ wantEnd bin k) := by
  obtain ⟨q, rfl, hc⟩ := grnd_cr h
  have g : Grnd bin (S ++ [13]) (W ++ [13]) := ⟨1, by omega, hc⟩
  unfold endOf wantEnd
  split
  · have := grnd_text (b := 10) g (by cases bin <;> rfl)
    rwa [List.append_assoc, List.append_assoc] at this
  · split
    · cases bin
      · refine ⟨0, by omega, ?_⟩
        rw [show S ++ [13, 0] = (S ++ [13]) ++ [0] by simp, bytes_add, hc, bytes_one]
        exact take_is (r := Rd.new.goes 1) (a := ⟨[], W ++ [13]⟩) (b := 0) (s := 1) (c := 0) (n := 0) (k := 1) rfl rfl rfl rfl
      · have := grnd_text (b := 0) g rfl
        rwa [List.append_assoc, List.append_assoc] at this
    · exact g

/-- Behind k lines. -/
structure LinesAt (bin : Bool) (k : Nat) (S W : List UInt8) : Prop where
  g : Grnd bin S W
  e : S = [] ↔ W = []
  s : S.length ≤ 52 * k
  w : W.length ≤ 52 * k
theorem lines_nil (bin : Bool) : LinesAt bin 0 [] [] := ⟨⟨0, by omega, rfl⟩, Iff.rfl, by simp, by simp⟩
theorem end_len (bin : Bool) (k : Nat) : 1 ≤ (endOf k).length ∧ (endOf k).length ≤ 2 ∧ 1 ≤ (wantEnd bin k).length ∧ (wantEnd bin k).length ≤ 2 := by
  unfold endOf wantEnd
  repeat' split
  all_goals simp
theorem lines_next {bin : Bool} {k : Nat} {S W x : List UInt8} (h : LinesAt bin k S W) (hx : ∀ b ∈ x, 32 ≤ b ∧ b ≤ 126) (hl : x.length ≤ 50) : LinesAt bin (k + 1) (S ++ x ++ endOf k) (W ++ x ++ wantEnd bin k) := by
  obtain ⟨e1, e2, e3, e4⟩ := end_len bin k
  have h1 := h.s
  have h2 := h.w
  refine ⟨grnd_end (grnd_texts x hx h.g) k, ⟨fun z => ?_, fun z => ?_⟩, ?_, ?_⟩
  · have := congrArg List.length z; simp at this; rw [this.2.2] at e1; simp at e1
  · have := congrArg List.length z; simp at this; rw [this.2.2] at e3; simp at e3
  · simp; omega
  · simp; omega
theorem lines_fed {bin : Bool} {k : Nat} {S W : List UInt8} (h : LinesAt bin k S W) : feedL bin Rd.new S = (if W = [] then [] else [⟨0, 0, 0, W⟩]) ∧ wholeL (goL bin Rd.new S) = true ∧ plainOf bin S = W := by
  obtain ⟨q, hq, e⟩ := h.g
  have e1 : feedL bin Rd.new S = (endA ⟨[], W⟩).told := by show (endA (bytesL bin (Rd.new, An.new) S).2).told = _; rw [e]
  have e2 : goL bin Rd.new S = Rd.new.goes q := by show (bytesL bin (Rd.new, An.new) S).1 = _; rw [e]
  have e3 : feedL bin Rd.new S = (if W = [] then [] else [⟨0, 0, 0, W⟩]) := by
    rw [e1]
    unfold endA
    simp only
    split <;> simp
  refine ⟨e3, by rw [e2]; exact decide_eq_true hq, ?_⟩
  unfold plainOf
  rw [e3]
  split
  · rename_i hw; rw [hw]; rfl
  · show dataOf [⟨0, 0, 0, W⟩] = W
    simp [dataOf]

end Go.Proofs.Ytnnkgdggkinblaa
