/- patch over lists: how the difference grows, how long it is. Own work. -/
import Derived.Test.YtgomnigchfmfhaaPatM
import Derived.Test.YtgomnigchfmfhaaCodec
namespace Go.Proofs.Ytgomnigchfmfhaa
set_option linter.unusedVariables false
set_option linter.unusedSimpArgs false

theorem Sorted.take {e n : Nat} {l : List (Nat × Nat)} (h : Sorted e n l) : ∀ k, Sorted e n (l.take k) := by
  induction l generalizing e with
  | nil => intro k; simp [Sorted]
  | cons r l ih =>
    intro k
    cases k with
    | zero => trivial
    | succ k => exact ⟨h.1, h.2.1, h.2.2.1, ih h.2.2.2 k⟩
theorem runsB_le (F : Nat → CellM) (n : Nat) (hF : ∀ k, k < n → okC (F k)) (hn : n ≤ 1000000) (l : List (Nat × Nat)) : ∀ (e k0 : Nat), Sorted e n l → (runsB F k0 l).length ≤ 30 * (n - e) := by
  induction l with
  | nil => intro e k0 _; simp [runsB]
  | cons r l ih =>
    intro e k0 h
    obtain ⟨f, b⟩ := r
    obtain ⟨h1, h2, h3, h4⟩ := h
    have h1 : e ≤ f := h1
    have h2 : f < b := h2
    have h3 : b ≤ n := h3
    have := ih (b + 1) b h4
    have := enc_le (f - k0) (by omega)
    have := enc_le (b - f) (by omega)
    have := cellsB_le F f (b - f) (fun i hi => hF _ (by omega))
    simp only [runsB, List.length_append]
    omega
theorem endR_cons (r : Nat × Nat) (l : List (Nat × Nat)) : endR (r :: l) = if l = [] then r.2 else endR l := by
  rcases last_split l with h | ⟨q, x, h⟩
  · subst h; rfl
  · rw [h, if_neg (by simp), show r :: (q ++ [x]) = (r :: q) ++ [x] from rfl]
    obtain ⟨x1, x2⟩ := x
    rw [endR_last, endR_last]
theorem endR_le {n : Nat} (l : List (Nat × Nat)) : ∀ (e k f b : Nat), Sorted e n l → l[k]? = some (f, b) → endR (l.take k) ≤ f := by
  induction l with
  | nil => intro e k f b _ h; simp at h
  | cons r l ih =>
    intro e k f b h hk
    cases k with
    | zero => exact Nat.zero_le _
    | succ k =>
      have hk : l[k]? = some (f, b) := by simpa using hk
      rw [List.take_succ_cons, endR_cons]
      split
      · rename_i h0
        have h4 := h.2.2.2
        cases l with
        | nil => simp at hk
        | cons s l =>
          cases k with
          | zero => simp at hk; subst hk; have := h4.1; omega
          | succ k => simp at h0
      · exact ih _ k f b h.2.2.2 hk
theorem runsB_take (F : Nat → CellM) (l : List (Nat × Nat)) (k f b : Nat) (h : l[k]? = some (f, b)) :
    runsB F 0 (l.take (k + 1)) = runsB F 0 (l.take k) ++ (enc (f - endR (l.take k)) ++ enc (b - f) ++ cellsB F f (b - f)) ∧ endR (l.take (k + 1)) = b := by
  rw [take_next h]
  exact ⟨runsB_add F _ f b, endR_last _ f b⟩
theorem nums_nat (l : List UInt8) (xs : List Nat) : numsO l 0 (xs.map fun (n : Nat) => (n : Int)) = (l ++ xs.flatMap enc, 0) := by
  induction xs generalizing l with
  | nil => simp [numsO]
  | cons x xs ih =>
    have : numsO l 0 ((x :: xs).map fun (n : Nat) => (n : Int)) = numsO (l ++ enc x) 0 (xs.map fun (n : Nat) => (n : Int)) := by
      have h0 : ¬ ((x : Int) < 0) := by omega
      simp [numsO, numO, h0]
    rw [this, ih]
    simp
theorem bytes_flag (l : List UInt8) (b : Bool) : bytesO l 0 [if b = true then 1 else 0] = (l ++ [UInt8.ofNat (if b = true then 1 else 0)], 0) := by
  cases b <;> simp [bytesO, byteO]
theorem raws_one (l : List UInt8) (s : ByteArray) : rawsO l 0 [s] = (l ++ s.data.toList, 0) := by simp [rawsO, rawO]

end Go.Proofs.Ytgomnigchfmfhaa
