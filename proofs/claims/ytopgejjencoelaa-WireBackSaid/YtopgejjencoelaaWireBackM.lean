/- What is sent, one behind the other, and read: lists. Own work. -/
import Derived.Test.YtopgejjencoelaaWireM
set_option linter.unusedVariables false
set_option linter.unusedSimpArgs false
namespace Go.Proofs.Ytopgejjencoelaa
set_option linter.unusedVariables false
open Go.RowKit

/-- Within a subnegotiation. -/
def inSub (o : Int) (T : List UInt8) : Rd := ⟨5, 0, o, T, false⟩
theorem sub_acts : ∀ k, k < 7 → k ≠ 6 → actL 5 k = 7 ∧ nextL 5 k = 5 := by decide
theorem keep_text (o : Int) (T : List UInt8) (b : UInt8) (s : Nat) (h : T.length < 40) : (doR 7 b ((inSub o T).goes s)).goes 5 = inSub o (T ++ [b]) := by
  show (keepR ((inSub o T).goes s) b).goes 5 = _
  unfold keepR
  rw [if_neg (show ¬ ((inSub o T).goes s).text.length = 40 from by show ¬ T.length = 40; omega)]
  rfl
theorem sub_byte {bin : Bool} (o : Int) (T : List UInt8) (a : An) (b : UInt8) (h : b ≠ 255) (hl : T.length < 40) : takeL bin (inSub o T, a) b = (inSub o (T ++ [b]), a) := by
  have h7 := kindL_lt bin b
  have h6 : kindL bin b ≠ 6 := by
    intro e
    rcases kind_cases bin b with ⟨e1, _⟩ | ⟨_, e1⟩ | ⟨_, e1⟩ | ⟨_, e1⟩ | ⟨_, _, e1⟩ | ⟨_, _, e1⟩ | ⟨_, _, _, _, _, e1⟩
    · exact h e1
    all_goals (rw [e1] at e; exact absurd e (by decide))
  obtain ⟨e1, e2⟩ := sub_acts _ h7 h6
  have := take_is (bin := bin) (r := inSub o T) (a := a) (b := b) (s := 5) rfl rfl e1 e2
  rw [this]
  have h3 := keep_text o T b 5 hl
  exact congrArg (fun x => (x, a)) h3
theorem sub_255 {bin : Bool} (o : Int) (T : List UInt8) (a : An) (hl : T.length < 40) : bytesL bin (inSub o T, a) [255, 255] = (inSub o (T ++ [255]), a) := by
  show takeL bin (takeL bin (inSub o T, a) 255) 255 = _
  have h1 := take_is (bin := bin) (r := inSub o T) (a := a) (b := 255) (s := 5) (k := 6) (c := 0) (n := 6) (kind_iac bin) rfl rfl rfl
  rw [h1]
  have h2 := take_is (bin := bin) (r := (inSub o T).goes 6) (a := a) (b := 255) (s := 6) (k := 6) (c := 7) (n := 5) (kind_iac bin) rfl rfl rfl
  show takeL bin ((inSub o T).goes 6, a) 255 = _
  rw [h2]
  exact congrArg (fun x => (x, a)) (keep_text o T 255 6 hl)
theorem sub_text {bin : Bool} (o : Int) (a : An) (s : List UInt8) : ∀ T, T.length + s.length ≤ 40 → bytesL bin (inSub o T, a) (sentL true s) = (inSub o (T ++ s), a) := by
  induction s with
  | nil => intro T _; simp [sentL, bytesL]
  | cons b s ih =>
    intro T hl
    simp only [List.length_cons] at hl
    have ih1 := ih (T ++ [b]) (by simp; omega)
    by_cases h : b = 255
    · subst h
      rw [sentL, piece_255, bytes_add, sub_255 o T a (by omega), ih1]
      simp
    · rw [sentL, piece_one h (fun q => by have := q.2.1; cases this), bytes_add, bytes_one, sub_byte o T a b h (by omega), ih1]
      simp

theorem any_acts3 : ∀ k, k < 7 → actL 3 k = 4 ∧ nextL 3 k = 0 := by decide
theorem any_acts4 : ∀ k, k < 7 → actL 4 k = 6 ∧ nextL 4 k = 5 := by decide
theorem toNat_small {o : Nat} (h : o ≤ 255) : (((UInt8.ofNat o).toNat : Nat) : Int) = (o : Int) := by rw [toNat_ofNat (by omega)]

/-- A command about an option, behind bytes. -/
theorem read_opt {bin : Bool} {q : Nat} (hq : Between bin q) (W : List UInt8) (o : Nat) (ho : o ≤ 255) :
    bytesL bin (Rd.new.goes q, ⟨[], W⟩) (optL 253 o) = (Rd.new.goes 0, tellA ⟨[], W⟩ ⟨2, 253, o, []⟩) := by
  show takeL bin (takeL bin (takeL bin (Rd.new.goes q, ⟨[], W⟩) 255) (UInt8.ofNat 253)) (UInt8.ofNat o) = _
  rw [read_iac hq]
  have h1 := take_is (bin := bin) (r := Rd.new.goes 2) (a := ⟨[], W⟩) (b := UInt8.ofNat 253) (s := 2) (k := 5) (c := 3) (n := 3) (by cases bin <;> rfl) rfl rfl rfl
  rw [h1]
  obtain ⟨e1, e2⟩ := any_acts3 _ (kindL_lt bin (UInt8.ofNat o))
  have h2 := take_is (bin := bin) (r := ⟨3, 253, 0, [], false⟩) (a := ⟨[], W⟩) (b := UInt8.ofNat o) (s := 3) rfl rfl e1 e2
  show takeL bin ((⟨3, 253, 0, [], false⟩ : Rd), (⟨[], W⟩ : An)) (UInt8.ofNat o) = _
  rw [h2]
  show (Rd.new.goes 0, tellA ⟨[], W⟩ ⟨2, 253, ((UInt8.ofNat o).toNat : Int), []⟩) = _
  rw [toNat_small ho]
/-- A subnegotiation. -/
theorem read_sub {bin : Bool} (a : An) (o : Nat) (ho : o ≤ 255) (s : List UInt8) (hs : s.length ≤ 40) :
    bytesL bin (Rd.new.goes 0, a) (subL o s) = (Rd.new.goes 0, tellA a ⟨3, 0, o, s⟩) := by
  unfold subL
  rw [bytes_add, bytes_add]
  have e0 : bytesL bin (Rd.new.goes 0, a) [255, 250, UInt8.ofNat o] = (inSub o [], a) := by
    show takeL bin (takeL bin (takeL bin (Rd.new.goes 0, a) 255) 250) (UInt8.ofNat o) = _
    rw [take_is (bin := bin) (r := Rd.new.goes 0) (a := a) (b := 255) (s := 0) (k := 6) (c := 0) (n := 2) (kind_iac bin) rfl rfl rfl]
    show takeL bin (takeL bin (Rd.new.goes 2, a) 250) (UInt8.ofNat o) = _
    rw [take_is (bin := bin) (r := Rd.new.goes 2) (a := a) (b := 250) (s := 2) (k := 4) (c := 5) (n := 4) (by cases bin <;> rfl) rfl rfl rfl]
    show takeL bin (Rd.new.goes 4, a) (UInt8.ofNat o) = _
    obtain ⟨e1, e2⟩ := any_acts4 _ (kindL_lt bin (UInt8.ofNat o))
    rw [take_is (bin := bin) (r := Rd.new.goes 4) (a := a) (b := UInt8.ofNat o) (s := 4) rfl rfl e1 e2]
    show ((⟨5, 0, ((UInt8.ofNat o).toNat : Int), [], false⟩ : Rd), a) = _
    rw [toNat_small ho]
    rfl
  rw [e0, sub_text (o : Int) a s [] (by simpa using hs), List.nil_append]
  show takeL bin (takeL bin (inSub o s, a) 255) 240 = _
  rw [take_is (bin := bin) (r := inSub o s) (a := a) (b := 255) (s := 5) (k := 6) (c := 0) (n := 6) (kind_iac bin) rfl rfl rfl]
  show takeL bin ((inSub o s).goes 6, a) 240 = _
  rw [take_is (bin := bin) (r := (inSub o s).goes 6) (a := a) (b := 240) (s := 6) (k := 3) (c := 8) (n := 0) (by cases bin <;> rfl) rfl rfl rfl]
  rfl

/-- All that the law sends. -/
def backL (bin : Bool) (s : List UInt8) (o : Nat) : List UInt8 := sentL bin s ++ optL 253 o ++ subL o (s.take 40)
theorem back_read (bin : Bool) (s : List UInt8) (o : Nat) (ho : o ≤ 255) : bytesL bin (Rd.new, An.new) (backL bin s o) = (Rd.new.goes 0, tellA (tellA ⟨[], s⟩ ⟨2, 253, o, []⟩) ⟨3, 0, o, s.take 40⟩) := by
  obtain ⟨q, h1, h2⟩ := sent_read bin s.length s (Nat.le_refl _) 0 [] (.inl rfl)
  unfold backL
  rw [bytes_add, bytes_add]
  show bytesL bin (bytesL bin (bytesL bin (Rd.new.goes 0, ⟨[], []⟩) (sentL bin s)) (optL 253 o)) _ = _
  rw [h2, List.nil_append, read_opt h1 s o ho, read_sub _ o ho _ (by rw [List.length_take]; omega)]
theorem back_told (bin : Bool) (s : List UInt8) (o : Nat) (ho : o ≤ 255) :
    dataOf (feedL bin Rd.new (backL bin s o)) = s ∧ othersOf (feedL bin Rd.new (backL bin s o)) = [⟨2, 253, o, []⟩, ⟨3, 0, o, s.take 40⟩] ∧ (goL bin Rd.new (backL bin s o)).at' = 0 := by
  have h := back_read bin s o ho
  have e1 : feedL bin Rd.new (backL bin s o) = (endA ⟨[], s⟩).told ++ [⟨2, 253, o, []⟩] ++ [⟨3, 0, o, s.take 40⟩] := by
    show (endA (bytesL bin (Rd.new, An.new) (backL bin s o)).2).told = _
    rw [h]
    show (endA (tellA (tellA ⟨[], s⟩ ⟨2, 253, o, []⟩) ⟨3, 0, o, s.take 40⟩)).told = _
    unfold tellA
    rw [endA_none, endA_none]
  have e2 : (goL bin Rd.new (backL bin s o)).at' = 0 := by
    show (bytesL bin (Rd.new, An.new) (backL bin s o)).1.at' = 0
    rw [h]; rfl
  refine ⟨?_, ?_, e2⟩
  · rw [e1, dataOf_add, dataOf_add]
    unfold endA
    simp only
    split
    · rename_i h; rw [h]; rfl
    · simp [dataOf]
  · rw [e1, othersOf_add, othersOf_add]
    unfold endA
    simp only
    split
    · rfl
    · rfl

end Go.Proofs.Ytopgejjencoelaa
