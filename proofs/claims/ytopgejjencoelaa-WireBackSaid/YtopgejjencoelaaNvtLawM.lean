/- Chapter 8 over lists: cut as one will; given up; plain. Own work. -/
import Derived.Test.YtopgejjencoelaaPlainM
import Derived.Test.YtopgejjencoelaaFeed
set_option linter.unusedVariables false
set_option linter.unusedSimpArgs false
namespace Go.Proofs.Ytopgejjencoelaa
set_option linter.unusedVariables false
open Go.RowKit

/-! ### However bytes are cut -/

/-- What an answer has told, Data together, with those bytes that no token stands behind yet. -/
def flatA (a : An) : List Tok := plainL (endA a).told

theorem plain_add (l m : List Tok) : plainL (l ++ m) = joinsT (plainL l) m := joinsT_add [] l m

/-- Tokens of Data that end the list join with what comes: bytes later is the same. -/
theorem joinT_data (acc : List Tok) (s t : List UInt8) : joinT (joinT acc ⟨0, 0, 0, s⟩) ⟨0, 0, 0, t⟩ = joinT acc ⟨0, 0, 0, s ++ t⟩ := by
  rcases List.eq_nil_or_concat acc with rfl | ⟨i, y, rfl⟩
  · rfl
  · rw [List.concat_eq_append, joinT_snoc, joinT_snoc]
    by_cases h : y.kind = 0
    · rw [if_pos ⟨rfl, h⟩, if_pos ⟨rfl, h⟩, joinT_snoc, if_pos ⟨rfl, h⟩, List.append_assoc]
    · rw [if_neg (fun x => h x.2), if_neg (fun x => h x.2), joinT_snoc, if_pos ⟨rfl, rfl⟩]

/-- Two answers that say the same, Data together: acc is what was told ahead. -/
def flatFrom (acc : List Tok) (a : An) : List Tok := joinsT acc (endA a).told

theorem flatFrom_data (acc : List Tok) (a : An) (b : UInt8) : flatFrom acc (dataA a b) = joinT (flatFrom acc a) ⟨0, 0, 0, [b]⟩ := by
  unfold flatFrom dataA endA
  simp only
  rw [if_neg (by simp)]
  by_cases h : a.bytes = []
  · rw [if_pos h, joinsT_add, h]
    rfl
  · rw [if_neg h, joinsT_add, joinsT_add]
    show joinT (joinsT acc a.told) _ = joinT (joinT (joinsT acc a.told) _) _
    rw [joinT_data]

theorem endA_none (l : List Tok) : endA ⟨l, []⟩ = ⟨l, []⟩ := by simp [endA]

theorem flatFrom_tell (acc : List Tok) (a : An) (t : Tok) : flatFrom acc (tellA a t) = joinT (flatFrom acc a) t := by
  unfold flatFrom tellA
  have e : (endA (⟨(endA a).told ++ [t], []⟩ : An)).told = (endA a).told ++ [t] := by rw [endA_none]
  rw [e, joinsT_add]
  rfl

theorem flatFrom_do (c : Nat) (b : UInt8) (r : Rd) (acc acc' : List Tok) (a a' : An) (h : flatFrom acc a = flatFrom acc' a') : flatFrom acc (doA c b r a) = flatFrom acc' (doA c b r a') := by
  unfold doA
  split
  · rw [flatFrom_data, flatFrom_data, h]
  · rw [flatFrom_tell, flatFrom_tell, h]
  · rw [flatFrom_tell, flatFrom_tell, h]
  · split
    · exact h
    · rw [flatFrom_tell, flatFrom_tell, h]
  · exact h

theorem flat_bytes (bin : Bool) (s : List UInt8) : ∀ (r : Rd) (acc acc' : List Tok) (a a' : An), flatFrom acc a = flatFrom acc' a' → flatFrom acc (bytesL bin (r, a) s).2 = flatFrom acc' (bytesL bin (r, a') s).2 := by
  induction s with
  | nil => intro r acc acc' a a' h; exact h
  | cons b s ih =>
    intro r acc acc' a a' h
    exact ih _ _ _ _ _ (flatFrom_do _ b r acc acc' a a' h)

theorem flatFrom_new (acc : List Tok) : flatFrom acc An.new = acc := rfl

/-- One Feed behind another tells what one Feed of both does. -/
theorem feed_cut (bin : Bool) (r : Rd) (s t : List UInt8) : plainL (feedL bin r s ++ feedL bin (goL bin r s) t) = plainL (feedL bin r (s ++ t)) := by
  have h1 : plainL (feedL bin r (s ++ t)) = flatFrom [] (bytesL bin (bytesL bin (r, An.new) s) t).2 := by
    rw [← bytes_add]; rfl
  have h2 : plainL (feedL bin r s ++ feedL bin (goL bin r s) t) = flatFrom (flatFrom [] (bytesL bin (r, An.new) s).2) (bytesL bin (goL bin r s, An.new) t).2 := by
    rw [plain_add]; rfl
  rw [h1, h2]
  have h3 : bytesL bin (r, An.new) s = (goL bin r s, (bytesL bin (r, An.new) s).2) := rfl
  rw [h3]
  exact flat_bytes bin t _ _ _ _ _ rfl

theorem go_cut (bin : Bool) (r : Rd) (s t : List UInt8) : goL bin (goL bin r s) t = goL bin r (s ++ t) := by
  show (bytesL bin (goL bin r s, An.new) t).1 = (bytesL bin (r, An.new) (s ++ t)).1
  rw [bytes_add]
  exact bytes_rd bin t _ _ _

theorem plain_more (l m m' : List Tok) (h : plainL l = plainL m) : plainL (l ++ m') = plainL (m ++ m') := by rw [plain_add, plain_add, h]

/-- What is told in parts. -/
theorem feed_next (bin : Bool) (r : Rd) (l : List Tok) (s t : List UInt8) (h : plainL l = plainL (feedL bin r s)) : plainL (l ++ feedL bin (goL bin r s) t) = plainL (feedL bin r (s ++ t)) := by
  rw [plain_more l (feedL bin r s) _ h, feed_cut]

/-! ### How long what is told is -/
theorem feed_len (bin : Bool) (r : Rd) (s : List UInt8) : (feedL bin r s).length ≤ s.length := by
  have h1 := bytes_sz bin s (r, An.new)
  have h2 := endA_sz (bytesL bin (r, An.new) s).2
  simp only [An.new, List.length_nil, Nat.zero_add] at h1
  exact Nat.le_trans h2 h1

theorem endA_sum (a : An) : tsum (endA a).told = tsum a.told + a.bytes.length := by
  unfold endA
  simp only
  split
  · rename_i h
    rw [h]; rfl
  · rw [tsum_add, tsum_one]
theorem tellA_sum (a : An) (t : Tok) : tsum (tellA a t).told + (tellA a t).bytes.length = tsum a.told + a.bytes.length + t.text.length := by
  show tsum ((endA a).told ++ [t]) + 0 = _
  rw [tsum_add, tsum_one, endA_sum]
  omega
theorem do_sum (c : Nat) (b : UInt8) (r : Rd) (a : An) : tsum (doA c b r a).told + (doA c b r a).bytes.length + (doR c b r).text.length ≤ tsum a.told + a.bytes.length + r.text.length + 1 := by
  unfold doA doR
  split
  · simp [dataA]; omega
  · rw [tellA_sum]; simp; omega
  · rw [tellA_sum]; simp; omega
  · split
    · simp; omega
    · rw [tellA_sum]; simp
  · split
    · simp; omega
    · simp; omega
    · simp; omega
    · simp; omega
    · simp
    · unfold keepR; split
      · simp
      · simp; omega
    · simp; omega
    · simp
theorem bytes_sum (bin : Bool) (s : List UInt8) : ∀ x : Rd × An, tsum (bytesL bin x s).2.told + (bytesL bin x s).2.bytes.length + (bytesL bin x s).1.text.length ≤ tsum x.2.told + x.2.bytes.length + x.1.text.length + s.length := by
  induction s with
  | nil => intro x; exact Nat.le_refl _
  | cons b s ih =>
    intro x
    have h1 := ih (takeL bin x b)
    have h2 := do_sum (actL x.1.at' (kindL bin b)) b x.1 x.2
    have h3 : tsum (takeL bin x b).2.told + (takeL bin x b).2.bytes.length + (takeL bin x b).1.text.length ≤ tsum x.2.told + x.2.bytes.length + x.1.text.length + 1 := h2
    show tsum (bytesL bin (takeL bin x b) s).2.told + (bytesL bin (takeL bin x b) s).2.bytes.length + (bytesL bin (takeL bin x b) s).1.text.length ≤ _
    simp only [List.length_cons]
    omega
theorem feed_sum (bin : Bool) (r : Rd) (s : List UInt8) : tsum (feedL bin r s) + (goL bin r s).text.length ≤ r.text.length + s.length := by
  have h1 := bytes_sum bin s (r, An.new)
  have h2 := endA_sum (bytesL bin (r, An.new) s).2
  have h3 : tsum An.new.told = 0 := rfl
  have h4 : An.new.bytes.length = 0 := rfl
  show tsum (endA (bytesL bin (r, An.new) s).2).told + (bytesL bin (r, An.new) s).1.text.length ≤ _
  simp only [h3, h4] at h1
  omega

/-! ### Given up -/

/-- Bytes among which is no IAC, in a Sub. -/
theorem in_sub (bin : Bool) (s : List UInt8) (hs : ∀ b ∈ s, b ≠ 255) : ∀ (r : Rd) (a : An), r.at' = 5 → (bytesL bin (r, a) s).1.at' = 5 ∧ (bytesL bin (r, a) s).2 = a := by
  induction s with
  | nil => intro r a h; exact ⟨h, rfl⟩
  | cons b s ih =>
    intro r a h
    have hb : b ≠ 255 := hs b (by simp)
    have hk : kindL bin b ≠ 6 := by unfold kindL; repeat' split
                                    all_goals first | omega | (exact absurd ‹_› hb)
    have hk7 := kindL_lt bin b
    have hact : actL 5 (kindL bin b) = 7 ∧ nextL 5 (kindL bin b) = 5 := by
      have : ∀ k, k < 7 → k ≠ 6 → actL 5 k = 7 ∧ nextL 5 k = 5 := by decide
      exact this _ hk7 hk
    have e : takeL bin (r, a) b = ((doR 7 b r).goes 5, a) := by
      unfold takeL
      simp only [h]
      rw [hact.1, hact.2]
      rfl
    show (bytesL bin (takeL bin (r, a) b) s).1.at' = 5 ∧ (bytesL bin (takeL bin (r, a) b) s).2 = a
    rw [e]
    exact ih (fun x hx => hs x (by simp [hx])) _ _ rfl

end Go.Proofs.Ytopgejjencoelaa
