/- Plain mathematics of chapter 1: a number's bytes, and what is read off bytes. Own work; it speaks of no program. -/
import Derived.WalkKit
namespace Go.Proofs.Ytlinmnlfcboicaa
set_option linter.unusedVariables false

/-- A number's bytes. -/
def enc (n : Nat) : List UInt8 := if n < 128 then [UInt8.ofNat n] else UInt8.ofNat (n % 128 + 128) :: enc (n / 128)
termination_by n
decreasing_by omega

theorem enc_small {n : Nat} (h : n < 128) : enc n = [UInt8.ofNat n] := by rw [enc, if_pos h]
theorem enc_big {n : Nat} (h : 128 ≤ n) : enc n = UInt8.ofNat (n % 128 + 128) :: enc (n / 128) := by rw [enc, if_neg (by omega)]

theorem enc_pos (n : Nat) : 0 < (enc n).length := by
  by_cases h : n < 128
  · rw [enc_small h]; simp
  · rw [enc_big (by omega)]; simp

theorem enc_length (j : Nat) : ∀ n, n < 128 ^ (j + 1) → (enc n).length ≤ j + 1 := by
  induction j with
  | zero => intro n h; rw [enc_small (by simpa using h)]; simp
  | succ j ih =>
    intro n h
    by_cases h1 : n < 128
    · rw [enc_small h1]; simp
    · rw [enc_big (by omega)]
      have := ih (n / 128) (by rw [Nat.pow_succ] at h; omega)
      simp; omega

theorem enc_le (n : Nat) (h : n < 9223372036854775808) : (enc n).length ≤ 9 := enc_length 8 n (by omega)

theorem enc_lower (j : Nat) : ∀ n, 128 ^ j ≤ n → j < (enc n).length := by
  induction j with
  | zero => intro n _; exact enc_pos n
  | succ j ih =>
    intro n h
    have h0 : 128 ≤ n := Nat.le_trans (by rw [Nat.pow_succ]; have : 0 < 128 ^ j := Nat.pow_pos (by omega); omega) h
    rw [enc_big h0]
    have := ih (n / 128) (by rw [Nat.pow_succ] at h; omega)
    simp; omega

/-- What bytes say from byte k on, with m so far: the number, how many bytes, the error. -/
def dec : Nat → Nat → List UInt8 → Nat × Nat × Int
  | _, _, [] => (0, 0, 2)
  | k, m, b :: r =>
    if k = 9 then (0, 0, 3)
    else if 128 ≤ b.toNat then dec (k + 1) (m + b.toNat % 128 * 128 ^ k) r
    else if b.toNat = 0 ∧ 0 < k then (0, 0, 3)
    else (m + b.toNat % 128 * 128 ^ k, k + 1, 0)

theorem dec_nil (k m : Nat) : dec k m [] = (0, 0, 2) := rfl
theorem dec_nine (m : Nat) (b : UInt8) (r : List UInt8) : dec 9 m (b :: r) = (0, 0, 3) := by simp [dec]
theorem dec_on {k m : Nat} {b : UInt8} {r : List UInt8} (h9 : k ≠ 9) (hb : 128 ≤ b.toNat) : dec k m (b :: r) = dec (k + 1) (m + b.toNat % 128 * 128 ^ k) r := by
  rw [dec, if_neg h9, if_pos hb]
theorem dec_zero {k m : Nat} {b : UInt8} {r : List UInt8} (h9 : k ≠ 9) (hb : b.toNat = 0) (hk : 0 < k) : dec k m (b :: r) = (0, 0, 3) := by
  rw [dec, if_neg h9, if_neg (by omega), if_pos ⟨hb, hk⟩]
theorem dec_end {k m : Nat} {b : UInt8} {r : List UInt8} (h9 : k ≠ 9) (hb : b.toNat < 128) (hk : b.toNat = 0 → k = 0) : dec k m (b :: r) = (m + b.toNat % 128 * 128 ^ k, k + 1, 0) := by
  rw [dec, if_neg h9, if_neg (by omega), if_neg (by omega)]

theorem toNat_ofNat {n : Nat} (h : n < 256) : (UInt8.ofNat n).toNat = n := by simp; omega

/-- What was laid is read as it was. -/
theorem dec_enc (n : Nat) : ∀ (k m : Nat) (r : List UInt8), k + (enc n).length ≤ 9 → (n = 0 → k = 0) → dec k m (enc n ++ r) = (m + n * 128 ^ k, k + (enc n).length, 0) := by
  induction n using Nat.strongRecOn with
  | _ n ih =>
    intro k m r hk h0
    have hp := enc_pos n
    by_cases h : n < 128
    · rw [enc_small h]
      rw [enc_small h] at hk
      simp only [List.length_singleton] at hk
      have ht := toNat_ofNat (n := n) (by omega)
      rw [List.singleton_append, dec_end (by omega) (by rw [ht]; exact h) (by rw [ht]; exact h0), ht, Nat.mod_eq_of_lt h]
      rfl
    · rw [enc_big (by omega)]
      rw [enc_big (by omega)] at hk
      simp only [List.length_cons] at hk
      have ht := toNat_ofNat (n := n % 128 + 128) (by omega)
      rw [List.cons_append, dec_on (by omega) (by rw [ht]; omega), ht, ih (n / 128) (by omega) _ _ _ (by omega) (by omega)]
      have e1 : (n % 128 + 128) % 128 = n % 128 := by omega
      have e2 : n * 128 ^ k = (n % 128) * 128 ^ k + (n / 128) * 128 ^ (k + 1) := by
        have := Nat.div_add_mod n 128
        calc n * 128 ^ k = (128 * (n / 128) + n % 128) * 128 ^ k := by rw [this]
          _ = (n % 128) * 128 ^ k + (n / 128) * 128 ^ (k + 1) := by rw [Nat.add_mul, Nat.pow_succ, Nat.mul_comm 128 (n / 128), Nat.mul_assoc, Nat.mul_comm 128 (128 ^ k)]; omega
      rw [e1, e2, List.length_cons]
      simp only [Prod.mk.injEq, and_true]
      omega

theorem dec_enc0 (n : Nat) (r : List UInt8) (h : n < 9223372036854775808) : dec 0 0 (enc n ++ r) = (n, (enc n).length, 0) := by
  have := enc_le n h
  rw [dec_enc n 0 0 r (by omega) (fun _ => rfl)]
  simp

/-- What is cut off is too short. -/
theorem dec_cut (n : Nat) : ∀ (k m j : Nat), k + (enc n).length ≤ 9 → j < (enc n).length → dec k m ((enc n).take j) = (0, 0, 2) := by
  induction n using Nat.strongRecOn with
  | _ n ih =>
    intro k m j hk hj
    match j with
    | 0 => simp [dec_nil]
    | j + 1 =>
      by_cases h : n < 128
      · rw [enc_small h] at hj; simp at hj
      · rw [enc_big (by omega)] at hk hj ⊢
        simp only [List.length_cons] at hk hj
        have ht := toNat_ofNat (n := n % 128 + 128) (by omega)
        rw [List.take_succ_cons, dec_on (by omega) (by rw [ht]; omega)]
        exact ih (n / 128) (by omega) _ _ _ (by omega) (by omega)

/-- Bytes that all go on, and a 0 behind them: no number. -/
theorem dec_more (l : List UInt8) : ∀ (k m : Nat), k ≤ 9 → (∀ b ∈ l, 128 ≤ b.toNat) → 0 < k + l.length → dec k m (l ++ [0]) = (0, 0, 3) := by
  induction l with
  | nil =>
    intro k m h9 _ hk
    by_cases h : k = 9
    · subst h; exact dec_nine _ _ _
    · exact dec_zero h rfl (by simpa using hk)
  | cons b r ih =>
    intro k m h9 hb _
    by_cases h : k = 9
    · subst h; exact dec_nine _ _ _
    · rw [List.cons_append, dec_on h (hb b (by simp))]
      exact ih _ _ (by omega) (fun c hc => hb c (by simp [hc])) (by omega)

/-- How far a number's bytes reach: within what is there. -/
theorem dec_len (l : List UInt8) : ∀ (k m : Nat), (dec k m l).2.2 = 0 → (dec k m l).2.1 ≤ k + l.length := by
  induction l with
  | nil => intro k m h; simp [dec_nil] at h
  | cons b r ih =>
    intro k m h
    by_cases h9 : k = 9
    · subst h9; rw [dec_nine] at h; simp at h
    · by_cases hb : 128 ≤ b.toNat
      · rw [dec_on h9 hb] at h ⊢
        have := ih _ _ h
        simp; omega
      · by_cases hz : b.toNat = 0 ∧ 0 < k
        · rw [dec_zero h9 hz.1 hz.2] at h; simp at h
        · rw [dec_end h9 (by omega) (by omega)]
          simp

theorem dec_lt (l : List UInt8) : ∀ (k m : Nat), m < 128 ^ k → k ≤ 9 → (dec k m l).1 < 9223372036854775808 := by
  induction l with
  | nil => intro k m _ _; simp [dec_nil]
  | cons b r ih =>
    intro k m hm hk
    by_cases h9 : k = 9
    · subst h9; rw [dec_nine]; simp
    · have hlt : m + b.toNat % 128 * 128 ^ k < 128 ^ (k + 1) := by
        have h1 : b.toNat % 128 ≤ 127 := by omega
        have h2 := Nat.mul_le_mul_right (128 ^ k) h1
        rw [Nat.pow_succ]; omega
      by_cases hb : 128 ≤ b.toNat
      · rw [dec_on h9 hb]
        exact ih _ _ hlt (by omega)
      · by_cases hz : b.toNat = 0 ∧ 0 < k
        · rw [dec_zero h9 hz.1 hz.2]; simp
        · rw [dec_end h9 (by omega) (by omega)]
          have h3 : 128 ^ (k + 1) ≤ 128 ^ 9 := Nat.pow_le_pow_right (by omega) (by omega)
          show _ < _
          simp only
          omega

theorem dec_err (l : List UInt8) : ∀ (k m : Nat), (dec k m l).2.2 = 0 ∨ (dec k m l).2.2 = 2 ∨ (dec k m l).2.2 = 3 := by
  induction l with
  | nil => intro k m; simp [dec_nil]
  | cons b r ih =>
    intro k m
    by_cases h9 : k = 9
    · subst h9; rw [dec_nine]; simp
    · by_cases hb : 128 ≤ b.toNat
      · rw [dec_on h9 hb]; exact ih _ _
      · by_cases hz : b.toNat = 0 ∧ 0 < k
        · rw [dec_zero h9 hz.1 hz.2]; simp
        · rw [dec_end h9 (by omega) (by omega)]; simp

end Go.Proofs.Ytlinmnlfcboicaa
