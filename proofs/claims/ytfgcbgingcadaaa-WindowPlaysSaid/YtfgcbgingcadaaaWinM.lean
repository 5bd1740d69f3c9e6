/- Windows, as lists: what is fresh, what is marked. Speaks of no program. Own work. -/
import Derived.Test.YtfgcbgingcadaaaGen
namespace Go.Proofs.Ytfgcbgingcadaaa
set_option linter.unusedVariables false
set_option linter.unusedSimpArgs false
open Go.RowKit

/-- Up to where no number is fresh. -/
def oldF (t : Int) : Int := max t 64 - 64
/-- Did a number come? -/
def seenB (t : Int) (s : Nat) (n : Int) : Bool := decide (n ≤ t) && s.testBit (t - n).toNat
def freshB (t : Int) (s : Nat) (n : Int) : Bool := decide (oldF t < n) && decide (n ≤ 4611686018427387904) && !seenB t s n
/-- The bits, with one more. -/
def upS (t : Int) (s : Nat) (n : Int) : Nat := if t < n then s * 2 ^ (n - t).toNat % 18446744073709551616 else s
def markS (t : Int) (s : Nat) (n : Int) : Nat := upS t s n ||| 2 ^ (max t n - n).toNat

theorem oldF_eq (t : Int) : oldF t = if t ≤ 64 then 0 else t - 64 := by unfold oldF; split <;> omega

theorem fresh_true {t : Int} {s : Nat} {n : Int} : freshB t s n = true ↔ oldF t < n ∧ n ≤ 4611686018427387904 ∧ ¬ (n ≤ t ∧ s.testBit (t - n).toNat = true) := by
  unfold freshB seenB
  cases s.testBit (t - n).toNat <;> by_cases h3 : n ≤ t <;> simp [h3] <;> omega

theorem fresh_false {t : Int} {s : Nat} {n : Int} : freshB t s n = false ↔ n ≤ oldF t ∨ 4611686018427387904 < n ∨ (n ≤ t ∧ s.testBit (t - n).toNat = true) := by
  rw [← Bool.not_eq_true, fresh_true]
  constructor
  · intro h
    by_cases h1 : n ≤ oldF t
    · exact .inl h1
    by_cases h2 : 4611686018427387904 < n
    · exact .inr (.inl h2)
    refine .inr (.inr ?_)
    exact Classical.byContradiction fun h3 => h ⟨by omega, by omega, h3⟩
  · rintro (h | h | h) ⟨h1, h2, h3⟩
    · omega
    · omega
    · exact h3 h

/-- The bits of a list of numbers. -/
def bitsF (t : Int) (g : List Int) : Nat := g.foldl (fun b x => b ||| 2 ^ (t - x).toNat) 0

theorem bitsF_snoc (t : Int) (g : List Int) (x : Int) : bitsF t (g ++ [x]) = bitsF t g ||| 2 ^ (t - x).toNat := by
  unfold bitsF
  rw [List.foldl_append]
  rfl

theorem bits_fold (t : Int) (g : List Int) : ∀ b k, (g.foldl (fun b x => b ||| 2 ^ (t - x).toNat) b).testBit k = true ↔ b.testBit k = true ∨ ∃ x ∈ g, (t - x).toNat = k := by
  induction g with
  | nil => intro b k; simp
  | cons x r ih =>
    intro b k
    rw [List.foldl_cons, ih, Nat.testBit_or, Nat.testBit_two_pow]
    simp [or_assoc]

theorem bits_at (t : Int) (g : List Int) (k : Nat) : (bitsF t g).testBit k = true ↔ ∃ x ∈ g, (t - x).toNat = k := by
  unfold bitsF
  rw [bits_fold]
  simp

/-- What the list holds. -/
structure GotOk (t : Int) (g : List Int) : Prop where
  lo : 0 ≤ t
  hi : t ≤ 4611686018427387904
  all : ∀ x ∈ g, 1 ≤ x ∧ x ≤ t ∧ t - 64 < x

theorem got_nil : GotOk 0 [] := ⟨by omega, by omega, by simp⟩

theorem bits_lt {t : Int} {g : List Int} (h : GotOk t g) : bitsF t g < 18446744073709551616 := by
  have e : (18446744073709551616 : Nat) = 2 ^ 64 := by decide
  rw [e]
  apply Nat.lt_pow_two_of_testBit
  intro i hi
  rw [← Bool.not_eq_true, bits_at]
  rintro ⟨x, hx, h1⟩
  have := h.all x hx
  omega

/-- The document's own answer. -/
def freshL (t : Int) (g : List Int) (n : Int) : Bool := decide (1 ≤ n) && decide (n ≤ 4611686018427387904) && decide (t - 64 < n) && decide (n ∉ g)
def markL (t : Int) (g : List Int) (n : Int) : List Int := g.filter (fun x => decide (max t n - 64 < x)) ++ [n]

theorem freshL_true {t : Int} {g : List Int} {n : Int} : freshL t g n = true ↔ 1 ≤ n ∧ n ≤ 4611686018427387904 ∧ t - 64 < n ∧ n ∉ g := by
  unfold freshL
  simp [and_assoc]

theorem fresh_ref {t : Int} {g : List Int} (h : GotOk t g) (n : Int) : freshB t (bitsF t g) n = freshL t g n := by
  rw [Bool.eq_iff_iff, fresh_true, freshL_true, bits_at, oldF_eq]
  have h0 := h.lo
  have key : (n ≤ t ∧ ∃ x ∈ g, (t - x).toNat = (t - n).toNat) ↔ n ∈ g := by
    constructor
    · rintro ⟨h1, x, hx, h2⟩
      have := h.all x hx
      have e : x = n := by omega
      exact e ▸ hx
    · intro hn
      exact ⟨(h.all n hn).2.1, n, hn, rfl⟩
  rw [key]
  split <;> constructor <;> rintro ⟨h1, h2, h3⟩
  · exact ⟨by omega, h2, by omega, h3⟩
  · exact ⟨by omega, h2, h3.2⟩
  · exact ⟨by omega, h2, by omega, h3⟩
  · exact ⟨by omega, h2, h3.2⟩

theorem mark_ok {t : Int} {g : List Int} (h : GotOk t g) {n : Int} (hf : freshL t g n = true) : GotOk (max t n) (markL t g n) := by
  obtain ⟨h1, h2, h3, h4⟩ := freshL_true.1 hf
  have a := h.lo
  have b := h.hi
  refine ⟨by omega, by omega, fun x hx => ?_⟩
  unfold markL at hx
  rcases List.mem_append.1 hx with hx | hx
  · obtain ⟨hm, hp⟩ := List.mem_filter.1 hx
    have := h.all x hm
    have := of_decide_eq_true hp
    omega
  · have e : x = n := by simpa using hx
    omega

theorem bits_mark {t : Int} {g : List Int} (h : GotOk t g) {n : Int} (hf : freshL t g n = true) : markS t (bitsF t g) n = bitsF (max t n) (markL t g n) := by
  obtain ⟨h1, h2, h3, h4⟩ := freshL_true.1 hf
  have e64 : (18446744073709551616 : Nat) = 2 ^ 64 := by decide
  unfold markL markS upS
  rw [bitsF_snoc]
  congr 1
  apply Nat.eq_of_testBit_eq
  intro k
  rw [Bool.eq_iff_iff, bits_at]
  by_cases hn : t < n
  · rw [if_pos hn, e64, Nat.testBit_mod_two_pow, Nat.testBit_mul_two_pow]
    simp only [Bool.and_eq_true, decide_eq_true_eq, bits_at]
    constructor
    · rintro ⟨hk, hj, x, hx, hxe⟩
      have := h.all x hx
      refine ⟨x, List.mem_filter.2 ⟨hx, decide_eq_true ?_⟩, ?_⟩ <;> omega
    · rintro ⟨x, hx, hxe⟩
      obtain ⟨hm, hp⟩ := List.mem_filter.1 hx
      have := h.all x hm
      have := of_decide_eq_true hp
      refine ⟨by omega, by omega, x, hm, by omega⟩
  · rw [if_neg hn, bits_at]
    constructor
    · rintro ⟨x, hx, hxe⟩
      have := h.all x hx
      exact ⟨x, List.mem_filter.2 ⟨hx, decide_eq_true (by omega)⟩, by omega⟩
    · rintro ⟨x, hx, hxe⟩
      obtain ⟨hm, hp⟩ := List.mem_filter.1 hx
      exact ⟨x, hm, by omega⟩

theorem markS_lt {t : Int} {s : Nat} {n : Int} (hs : s < 18446744073709551616) (h : max t n - 64 < n) : markS t s n < 18446744073709551616 := by
  unfold markS upS
  have e : (18446744073709551616 : Nat) = 2 ^ 64 := by decide
  rw [e]
  refine Nat.or_lt_two_pow ?_ (Nat.pow_lt_pow_right (by omega) (by omega))
  split
  · exact Nat.mod_lt _ (Nat.two_pow_pos _)
  · rw [← e]; exact hs

end Go.Proofs.Ytfgcbgingcadaaa
