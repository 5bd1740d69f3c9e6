/- Datagrams as lists of bytes: what is laid, what is read. Own work. -/
import Derived.Test.YtncpjapfkcgjnaaDoorSealC
namespace Go.Proofs.YtncpjapfkcgjnaaDoor
set_option linter.unusedVariables false
set_option linter.unusedSimpArgs false
open Go.RowKit

/-- A number's bytes, the lowest first. -/
def lowB : Nat → Nat → List UInt8
  | _, 0 => []
  | n, k + 1 => UInt8.ofNat (n % 256) :: lowB (n / 256) k

theorem lowB_len (n k : Nat) : (lowB n k).length = k := by
  induction k generalizing n with
  | zero => rfl
  | succ k ih => simp [lowB, ih]

theorem lowB_snoc (n k : Nat) : lowB n (k + 1) = lowB n k ++ [UInt8.ofNat (n / 256 ^ k % 256)] := by
  induction k generalizing n with
  | zero => simp [lowB]
  | succ k ih =>
    rw [lowB, ih, lowB, Nat.div_div_eq_div_mul, Nat.pow_succ']
    rfl

/-- The number that bytes are, the lowest first. -/
def numL : List UInt8 → Nat
  | [] => 0
  | b :: r => b.toNat + 256 * numL r

theorem numL_lt (l : List UInt8) : numL l < 256 ^ l.length := by
  induction l with
  | nil => simp [numL]
  | cons b r ih =>
    have := b.toNat_lt
    simp only [numL, List.length_cons, Nat.pow_succ]
    omega

theorem numL_snoc (l : List UInt8) (b : UInt8) : numL (l ++ [b]) = numL l + b.toNat * 256 ^ l.length := by
  induction l with
  | nil => simp [numL]
  | cons c r ih =>
    simp only [List.cons_append, numL, ih, List.length_cons, Nat.pow_succ, Nat.mul_add]
    rw [Nat.mul_comm (256 ^ r.length) 256, Nat.mul_left_comm]
    omega

theorem numL_low (n k : Nat) (h : n < 256 ^ k) : numL (lowB n k) = n := by
  induction k generalizing n with
  | zero => simp at h; subst h; rfl
  | succ k ih =>
    rw [lowB, numL, toNat_ofNat (Nat.mod_lt _ (by omega)), ih _ (by rw [Nat.pow_succ] at h; omega)]
    omega

/-- Why a Frame may not be. -/
def faultI (way seq : Int) (n : Nat) : Int :=
  if ¬ (way = 1 ∨ way = 2) ∨ seq < 1 ∨ 4611686018427387904 < seq then 1 else if 20000 < n then 4 else 0

theorem fault_ok {way seq : Int} {n : Nat} : faultI way seq n = 0 ↔ (way = 1 ∨ way = 2) ∧ 1 ≤ seq ∧ seq ≤ 4611686018427387904 ∧ n ≤ 20000 := by
  unfold faultI
  split
  · constructor
    · intro h; omega
    · intro h; omega
  · split
    · constructor
      · intro h; omega
      · intro h; omega
    · constructor
      · intro h; omega
      · intro h; rfl

theorem fault_arg {way seq : Int} {n : Nat} (h : ¬ (way = 1 ∨ way = 2) ∨ seq < 1 ∨ 4611686018427387904 < seq) : faultI way seq n = 1 := if_pos h
theorem fault_long {way seq : Int} {n : Nat} (h : ¬ (¬ (way = 1 ∨ way = 2) ∨ seq < 1 ∨ 4611686018427387904 < seq)) (hn : 20000 < n) : faultI way seq n = 4 := by unfold faultI; rw [if_neg h, if_pos hn]

def headL (way seq : Int) : List UInt8 := UInt8.ofNat way.toNat :: lowB seq.toNat 8

theorem headL_len (way seq : Int) : (headL way seq).length = 9 := by simp [headL, lowB_len]

/-- What Lay tells. -/
def layL (key : List UInt8) (way seq : Int) (body : List UInt8) : List UInt8 × Int :=
  if faultI way seq body.length = 0 then (sealedL key (headL way seq ++ body), 0) else ([], faultI way seq body.length)

/-- A datagram, read. -/
structure Frm where
  way : Int
  seq : Int
  body : ByteArray

def Frm.none : Frm := ⟨0, 0, .empty⟩

/-- What stands under a tag. -/
def textL (t : List UInt8) : Frm × Int :=
  if t.length < 9 then (Frm.none, 2)
  else if faultI (t.headD 0).toNat (numL ((t.drop 1).take 8)) (t.length - 9) = 0 then (⟨(t.headD 0).toNat, numL ((t.drop 1).take 8), ⟨(t.drop 9).toArray⟩⟩, 0)
  else (Frm.none, 3)

/-- What Read tells. -/
def readL (key b : List UInt8) : Frm × Int :=
  if (openL key b).2 = 0 then textL (openL key b).1 else (Frm.none, (openL key b).2)

theorem open_sealed (key text : List UInt8) : openL key (sealedL key text) = (text, 0) := by
  have hl := tagL_len key text
  unfold openL sealedL
  rw [if_neg (by rw [List.length_append, hl]; omega)]
  have e : (text ++ tagL key text).length - 16 = text.length := by rw [List.length_append, hl]; omega
  rw [e, List.drop_left, List.take_left, if_pos rfl]

theorem open_cases (key b : List UInt8) : (openL key b).2 = 0 ∨ (openL key b).2 = 2 ∨ (openL key b).2 = 5 := by
  unfold openL
  split
  · exact .inr (.inl rfl)
  · split
    · exact .inl rfl
    · exact .inr (.inr rfl)

theorem open_len (key b : List UInt8) : (openL key b).1.length ≤ b.length := by
  unfold openL
  split
  · simp
  · split
    · simp
    · simp

theorem text_cases (t : List UInt8) : (textL t).2 = 0 ∨ (textL t).1 = Frm.none ∧ ((textL t).2 = 2 ∨ (textL t).2 = 3) := by
  unfold textL
  split
  · exact .inr ⟨rfl, .inl rfl⟩
  · split
    · exact .inl rfl
    · exact .inr ⟨rfl, .inr rfl⟩

/-- What was laid is read as it was. -/
theorem read_laid (key : List UInt8) (way seq : Int) (body : ByteArray) (h : faultI way seq body.size = 0) : readL key (layL key way seq body.data.toList).1 = (⟨way, seq, body⟩, 0) := by
  have hb : body.data.toList.length = body.size := (Lib.size_eq body).symm
  obtain ⟨h1, h2, h3, h4⟩ := fault_ok.1 h
  unfold layL
  rw [hb, if_pos h]
  unfold readL
  rw [open_sealed, if_pos rfl]
  have hs : ((lowB seq.toNat 8 ++ body.data.toList).take 8) = lowB seq.toNat 8 := by
    rw [List.take_append_of_le_length (by rw [lowB_len]; omega), List.take_of_length_le (by rw [lowB_len]; omega)]
  have hn : numL (lowB seq.toNat 8) = seq.toNat := numL_low _ _ (by omega)
  have hw : ((UInt8.ofNat way.toNat).toNat : Int) = way := by rw [toNat_ofNat (by omega)]; omega
  have e0 : (headL way seq ++ body.data.toList).headD 0 = UInt8.ofNat way.toNat := rfl
  have e1 : (headL way seq ++ body.data.toList).drop 1 = lowB seq.toNat 8 ++ body.data.toList := rfl
  have e9 : (headL way seq ++ body.data.toList).drop 9 = body.data.toList := by
    rw [← headL_len way seq, List.drop_left]
  have el : (headL way seq ++ body.data.toList).length = 9 + body.size := by rw [List.length_append, headL_len, hb]
  unfold textL
  rw [if_neg (by rw [el]; omega), e0, e1, hs, hn, hw, e9, el, show ((seq.toNat : Nat) : Int) = seq from by omega, show 9 + body.size - 9 = body.size from by omega, if_pos h]

end Go.Proofs.YtncpjapfkcgjnaaDoor
