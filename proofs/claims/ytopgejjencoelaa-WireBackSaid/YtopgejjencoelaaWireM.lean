/- Chapter 9 over lists: what is sent, and how it is read. Own work. -/
import Derived.Test.YtopgejjencoelaaRefP
set_option linter.unusedVariables false
set_option linter.unusedSimpArgs false
namespace Go.Proofs.Ytopgejjencoelaa
set_option linter.unusedVariables false
open Go.RowKit

/-- What one byte is sent as, with those behind it. -/
def pieceL (bin : Bool) (b : UInt8) (s : List UInt8) : List UInt8 := if b = 255 then [255, 255] else if b = 13 ∧ bin = false ∧ s.head? ≠ some 10 then [13, 0] else [b]
/-- What bytes are sent as. -/
def sentL (bin : Bool) : List UInt8 → List UInt8
  | [] => []
  | b :: s => pieceL bin b s ++ sentL bin s

theorem piece_len (bin : Bool) (b : UInt8) (s : List UInt8) : 1 ≤ (pieceL bin b s).length ∧ (pieceL bin b s).length ≤ 2 := by
  unfold pieceL
  repeat' split
  all_goals simp
theorem sent_len (bin : Bool) (s : List UInt8) : s.length ≤ (sentL bin s).length ∧ (sentL bin s).length ≤ 2 * s.length := by
  induction s with
  | nil => simp [sentL]
  | cons b s ih =>
    have := piece_len bin b s
    simp only [sentL, List.length_append, List.length_cons]
    omega
theorem sent_at {bin : Bool} {s : List UInt8} {i : Nat} {b : UInt8} (h : s[i]? = some b) : sentL bin (s.drop i) = pieceL bin b (s.drop (i + 1)) ++ sentL bin (s.drop (i + 1)) := by rw [drop_next h]; rfl
/-- Behind i bytes. -/
def Sent (bin : Bool) (s : List UInt8) (i : Nat) (acc : List UInt8) : Prop := acc ++ sentL bin (s.drop i) = sentL bin s
theorem Sent.nil (bin : Bool) (s : List UInt8) : Sent bin s 0 [] := by simp [Sent]
theorem Sent.next {bin : Bool} {s acc : List UInt8} {i : Nat} {b : UInt8} (h : Sent bin s i acc) (hb : s[i]? = some b) : Sent bin s (i + 1) (acc ++ pieceL bin b (s.drop (i + 1))) := by
  unfold Sent at h ⊢
  rw [List.append_assoc, ← sent_at hb]
  exact h
theorem Sent.all {bin : Bool} {s acc : List UInt8} {i : Nat} (h : Sent bin s i acc) (hi : s.length ≤ i) : acc = sentL bin s := by
  unfold Sent at h
  rw [List.drop_of_length_le hi] at h
  simpa [sentL] using h
theorem Sent.len {bin : Bool} {s acc : List UInt8} {i : Nat} (h : Sent bin s i acc) : acc.length ≤ 2 * s.length := by
  have h1 := congrArg List.length h
  rw [List.length_append] at h1
  have := (sent_len bin s).2
  omega
theorem piece_255 (bin : Bool) (s : List UInt8) : pieceL bin 255 s = [255, 255] := rfl
theorem piece_cr {s : List UInt8} (h : s.head? ≠ some 10) : pieceL false 13 s = [13, 0] := by
  unfold pieceL
  rw [if_neg (by decide), if_pos ⟨rfl, rfl, h⟩]
theorem piece_one {bin : Bool} {b : UInt8} {s : List UInt8} (h : b ≠ 255) (h2 : ¬ (b = 13 ∧ bin = false ∧ s.head? ≠ some 10)) : pieceL bin b s = [b] := by
  unfold pieceL
  rw [if_neg h, if_neg h2]
theorem head_drop (s : List UInt8) (i : Nat) : (s.drop i).head? = s[i]? := by rw [List.head?_drop]

/-- A command about an option, a subnegotiation. -/
def optL (cmd o : Nat) : List UInt8 := [255, UInt8.ofNat cmd, UInt8.ofNat o]
def subL (o : Nat) (s : List UInt8) : List UInt8 := [255, 250, UInt8.ofNat o] ++ sentL true s ++ [255, 240]

/-! ### How it is read -/
theorem kind_plain {bin : Bool} {b : UInt8} (h : b ≠ 255) (h2 : b ≠ 13) : kindL bin b ≠ 6 ∧ kindL bin b ≠ 2 ∧ (kindL bin b = 1 → bin = false) := by
  rcases kind_cases bin b with ⟨rfl, _⟩ | ⟨rfl, _⟩ | ⟨_, e⟩ | ⟨_, e⟩ | ⟨_, _, e⟩ | ⟨_, e1, e⟩ | ⟨_, _, _, _, _, e⟩
  · exact absurd rfl h
  · exact absurd rfl h2
  all_goals (rw [e]; exact ⟨by decide, by decide, fun q => by first | exact e1 | (exact absurd q (by decide))⟩)
theorem kind_cr (bin : Bool) : kindL bin 13 = 2 := by cases bin <;> rfl
theorem kind_iac (bin : Bool) : kindL bin 255 = 6 := by cases bin <;> rfl

/-- Where a Reader is between bytes. -/
def Between (bin : Bool) (q : Nat) : Prop := q = 0 ∨ (bin = true ∧ q = 1)
theorem text_acts : ∀ k, k < 7 → k ≠ 6 → k ≠ 2 → actL 0 k = 1 ∧ nextL 0 k = 0 := by decide
theorem text_acts1 : ∀ k, k < 7 → k ≠ 6 → k ≠ 2 → k ≠ 1 → actL 1 k = 1 ∧ nextL 1 k = 0 := by decide
theorem read_text {bin : Bool} {q : Nat} (hq : Between bin q) {b : UInt8} (h : b ≠ 255) (h2 : b ≠ 13) (W : List UInt8) : takeL bin (Rd.new.goes q, ⟨[], W⟩) b = (Rd.new.goes 0, ⟨[], W ++ [b]⟩) := by
  obtain ⟨h6, h22, h1⟩ := kind_plain (bin := bin) h h2
  have h7 := kindL_lt bin b
  rcases hq with rfl | ⟨rfl, rfl⟩
  · obtain ⟨e1, e2⟩ := text_acts _ h7 h6 h22
    exact take_is (r := Rd.new.goes 0) (s := 0) rfl rfl e1 e2
  · obtain ⟨e1, e2⟩ := text_acts1 _ h7 h6 h22 (fun e => by have := h1 e; cases this)
    exact take_is (r := Rd.new.goes 1) (s := 1) rfl rfl e1 e2
theorem read_cr {bin : Bool} {q : Nat} (hq : Between bin q) (W : List UInt8) : takeL bin (Rd.new.goes q, ⟨[], W⟩) 13 = (Rd.new.goes 1, ⟨[], W ++ [13]⟩) := by
  rcases hq with rfl | ⟨_, rfl⟩
  · exact take_is (r := Rd.new.goes 0) (s := 0) (kind_cr bin) rfl rfl rfl
  · exact take_is (r := Rd.new.goes 1) (s := 1) (kind_cr bin) rfl rfl rfl
theorem read_iac {bin : Bool} {q : Nat} (hq : Between bin q) (W : List UInt8) : takeL bin (Rd.new.goes q, ⟨[], W⟩) 255 = (Rd.new.goes 2, ⟨[], W⟩) := by
  rcases hq with rfl | ⟨_, rfl⟩
  · exact take_is (r := Rd.new.goes 0) (s := 0) (kind_iac bin) rfl rfl rfl
  · exact take_is (r := Rd.new.goes 1) (s := 1) (kind_iac bin) rfl rfl rfl
theorem read_255 {bin : Bool} {q : Nat} (hq : Between bin q) (W : List UInt8) : bytesL bin (Rd.new.goes q, ⟨[], W⟩) [255, 255] = (Rd.new.goes 0, ⟨[], W ++ [255]⟩) := by
  show takeL bin (takeL bin (Rd.new.goes q, ⟨[], W⟩) 255) 255 = _
  rw [read_iac hq]
  exact take_is (r := Rd.new.goes 2) (s := 2) (kind_iac bin) rfl rfl rfl
theorem read_crs (q : Nat) (hq : Between false q) (c : UInt8) (W : List UInt8) (hc : c = 0 ∨ c = 10) : bytesL false (Rd.new.goes q, ⟨[], W⟩) [13, c] = (Rd.new.goes 0, ⟨[], if c = 0 then W ++ [13] else W ++ [13, 10]⟩) := by
  show takeL false (takeL false (Rd.new.goes q, ⟨[], W⟩) 13) c = _
  rw [read_cr hq]
  rcases hc with rfl | rfl
  · exact take_is (r := Rd.new.goes 1) (s := 1) (k := 1) rfl rfl rfl rfl
  · have := take_is (bin := false) (a := ⟨[], W ++ [13]⟩) (b := 10) (r := Rd.new.goes 1) (s := 1) (k := 0) rfl rfl rfl rfl
    rw [this]
    show _ = (Rd.new.goes 0, (⟨[], if (10 : UInt8) = 0 then W ++ [13] else W ++ [13, 10]⟩ : An))
    rw [if_neg (by decide)]
    show (Rd.new.goes 0, (⟨[], (W ++ [13]) ++ [10]⟩ : An)) = _
    simp

/-- What was sent is read as it was. -/
theorem sent_read (bin : Bool) : ∀ n s, s.length ≤ n → ∀ q W, Between bin q → ∃ q', Between bin q' ∧ bytesL bin (Rd.new.goes q, ⟨[], W⟩) (sentL bin s) = (Rd.new.goes q', ⟨[], W ++ s⟩) := by
  intro n
  induction n with
  | zero =>
    intro s hs q W hq
    have : s = [] := List.eq_nil_of_length_eq_zero (by omega)
    subst this
    exact ⟨q, hq, by simp [sentL, bytesL]⟩
  | succ n ih =>
    intro s hs q W hq
    match s with
    | [] => exact ⟨q, hq, by simp [sentL, bytesL]⟩
    | b :: s =>
      have hl : s.length ≤ n := by simp at hs; omega
      by_cases h255 : b = 255
      · subst h255
        obtain ⟨q', h1, h2⟩ := ih s hl 0 (W ++ [255]) (.inl rfl)
        refine ⟨q', h1, ?_⟩
        rw [sentL, piece_255, bytes_add, read_255 hq, h2]
        simp
      · by_cases h13 : b = 13
        · subst h13
          cases bin
          · by_cases h10 : s.head? = some 10
            · match s, h10 with
              | c :: t, h10 =>
                have hc : c = 10 := by simpa using h10
                subst hc
                obtain ⟨q', h1, h2⟩ := ih t (by simp at hl; omega) 0 (W ++ [13, 10]) (.inl rfl)
                refine ⟨q', h1, ?_⟩
                have e : sentL false (13 :: 10 :: t) = [13, 10] ++ sentL false t := by
                  rw [sentL, sentL, piece_one (by decide) (fun q => q.2.2 h10), piece_one (by decide) (fun q => absurd q.1 (by decide))]
                  simp
                rw [e, bytes_add, read_crs q hq 10 W (.inr rfl), if_neg (by decide), h2]
                simp
            · obtain ⟨q', h1, h2⟩ := ih s hl 0 (W ++ [13]) (.inl rfl)
              refine ⟨q', h1, ?_⟩
              rw [sentL, piece_cr h10, bytes_add, read_crs q hq 0 W (.inl rfl), if_pos rfl, h2]
              simp
          · obtain ⟨q', h1, h2⟩ := ih s hl 1 (W ++ [13]) (.inr ⟨rfl, rfl⟩)
            refine ⟨q', h1, ?_⟩
            rw [sentL, piece_one (by decide) (fun q => by have := q.2.1; cases this), bytes_add, bytes_one, read_cr hq, h2]
            simp
        · obtain ⟨q', h1, h2⟩ := ih s hl 0 (W ++ [b]) (.inl rfl)
          refine ⟨q', h1, ?_⟩
          rw [sentL, piece_one h255 (fun q => h13 q.1), bytes_add, bytes_one, read_text hq h255 h13, h2]
          simp

theorem dataOf_joinT (acc : List Tok) (t : Tok) : dataOf (joinT acc t) = dataOf acc ++ (if t.kind = 0 then t.text else []) := by
  rcases List.eq_nil_or_concat acc with rfl | ⟨i, y, rfl⟩
  · rw [joinT_nil]; simp [dataOf]
  · rw [List.concat_eq_append, joinT_snoc]
    split
    · rename_i h
      rw [dataOf_add, dataOf_add]
      simp [dataOf, h.1, h.2]
    · rw [dataOf_add]; simp [dataOf]
theorem dataOf_joinsT (l : List Tok) : ∀ acc, dataOf (joinsT acc l) = dataOf acc ++ dataOf l := by
  induction l with
  | nil => intro acc; simp [joinsT, dataOf]
  | cons t l ih => intro acc; show dataOf (joinsT (joinT acc t) l) = _; rw [ih, dataOf_joinT, List.append_assoc]; rfl
theorem dataOf_plain (l : List Tok) : dataOf (plainL l) = dataOf l := by unfold plainL; rw [dataOf_joinsT]; simp [dataOf]
/-- All but Data. -/
def othersOf (l : List Tok) : List Tok := l.filter fun t => !decide (t.kind = 0)
theorem othersOf_add (l m : List Tok) : othersOf (l ++ m) = othersOf l ++ othersOf m := by simp [othersOf]
theorem othersOf_joinT (acc : List Tok) (t : Tok) : othersOf (joinT acc t) = othersOf acc ++ othersOf [t] := by
  rcases List.eq_nil_or_concat acc with rfl | ⟨i, y, rfl⟩
  · rw [joinT_nil]; simp [othersOf]
  · rw [List.concat_eq_append, joinT_snoc]
    split
    · rename_i h
      rw [othersOf_add, othersOf_add]
      simp [othersOf, h.1, h.2]
    · rw [othersOf_add]
theorem othersOf_joinsT (l : List Tok) : ∀ acc, othersOf (joinsT acc l) = othersOf acc ++ othersOf l := by
  induction l with
  | nil => intro acc; simp [joinsT, othersOf]
  | cons t l ih => intro acc; show othersOf (joinsT (joinT acc t) l) = _; rw [ih, othersOf_joinT, List.append_assoc, ← othersOf_add]; rfl
theorem othersOf_plain (l : List Tok) : othersOf (plainL l) = othersOf l := by unfold plainL; rw [othersOf_joinsT]; rfl
theorem othersOf_len (l : List Tok) : (othersOf l).length ≤ l.length := List.length_filter_le _ _

/-- One Feed behind another. -/
theorem data_cut (bin : Bool) (r : Rd) (s t : List UInt8) : dataOf (feedL bin r (s ++ t)) = dataOf (feedL bin r s) ++ dataOf (feedL bin (goL bin r s) t) := by
  rw [← dataOf_plain, ← feed_cut, dataOf_plain, dataOf_add]
theorem others_cut (bin : Bool) (r : Rd) (s t : List UInt8) : othersOf (feedL bin r (s ++ t)) = othersOf (feedL bin r s) ++ othersOf (feedL bin (goL bin r s) t) := by
  rw [← othersOf_plain, ← feed_cut, othersOf_plain, othersOf_add]

/-- P903. -/
theorem sent_plain (bin : Bool) (s : List UInt8) : plainOf bin (sentL bin s) = s := by
  obtain ⟨q, _, h⟩ := sent_read bin s.length s (Nat.le_refl _) 0 [] (.inl rfl)
  unfold plainOf
  rw [dataOf_plain]
  have e : feedL bin Rd.new (sentL bin s) = (endA ⟨[], s⟩).told := by
    show (endA (bytesL bin (Rd.new.goes 0, ⟨[], []⟩) (sentL bin s)).2).told = _
    rw [h]; rfl
  rw [e]
  unfold endA
  simp only
  split
  · rename_i h; rw [h]; rfl
  · simp [dataOf]
/-- Parts, one behind the other. -/
theorem sents_plain (bin : Bool) (l : List (List UInt8)) : ∃ q, Between bin q ∧ bytesL bin (Rd.new, An.new) (l.flatMap (sentL bin)) = (Rd.new.goes q, ⟨[], l.flatten⟩) := by
  have h : ∀ (l : List (List UInt8)) q W, Between bin q → ∃ q', Between bin q' ∧ bytesL bin (Rd.new.goes q, ⟨[], W⟩) (l.flatMap (sentL bin)) = (Rd.new.goes q', ⟨[], W ++ l.flatten⟩) := by
    intro l
    induction l with
    | nil => intro q W hq; exact ⟨q, hq, by simp [bytesL]⟩
    | cons s l ih =>
      intro q W hq
      obtain ⟨q1, h1, e1⟩ := sent_read bin s.length s (Nat.le_refl _) q W hq
      obtain ⟨q2, h2, e2⟩ := ih q1 (W ++ s) h1
      exact ⟨q2, h2, by rw [List.flatMap_cons, bytes_add, e1, e2, List.flatten_cons, List.append_assoc]⟩
  obtain ⟨q, h1, h2⟩ := h l 0 [] (.inl rfl)
  exact ⟨q, h1, h2⟩
theorem told_plain {bin : Bool} {s W : List UInt8} {q : Nat} (h : bytesL bin (Rd.new, An.new) s = (Rd.new.goes q, ⟨[], W⟩)) : plainOf bin s = W := by
  unfold plainOf
  rw [dataOf_plain]
  have e : feedL bin Rd.new s = (endA ⟨[], W⟩).told := by
    show (endA (bytesL bin (Rd.new, An.new) s).2).told = _
    rw [h]
  rw [e]
  unfold endA
  simp only
  split
  · rename_i h; rw [h]; rfl
  · simp [dataOf]

end Go.Proofs.Ytopgejjencoelaa
