/- Windows, as lists: what is fresh, what is marked. Speaks of no program. Own work. The contracts of window.Window. Own work. The contract of window.Window's Mark. Own work. Mark, Fresh, Old of a window, their answers given. Own work. A window that lies somewhere. Own work. The document's own window (pontoonref1): its contracts. Own work. The document's own window: Mark. Own work. -/
import Derived.Test.YtncpjapfkcgjnaaDoorBase
import Derived.Test.YtncpjapfkcgjnaaDoorChecked
import Derived.IntWalk
import Derived.Deep.QuietTactic
import Derived.BigQuiet
import Derived.Deep.DeepCutAuto
import Derived.RegionCalls
import Derived.Deep.RegionWith
set_option linter.unusedVariables false
set_option linter.unusedSimpArgs false
namespace Go.Proofs.YtncpjapfkcgjnaaDoor
set_option linter.unusedVariables false
set_option linter.unusedSimpArgs false
open Go.RowKit

/-- Up to where no number is fresh. -/
def oldF (t : Int) : Int := max t 64 - 64
/-- Did a number come? -/
def seenB (t : Int) (s : Nat) (n : Int) : Bool := decide (n ≤ t) && s.testBit (t - n).toNat
def freshB (t : Int) (s : Nat) (n : Int) : Bool := decide (oldF t < n) && decide (n ≤ 4611686018427387904) && !seenB t s n
/-- The bits, with one more. -/
def upS (t : Int) (s : Nat) (n : Int) : Nat := if t < n then s * 2 ^ (n - t).toNat % 18446744073709551616 else s
def markS (t : Int) (s : Nat) (n : Int) : Nat := upS t s n ||| 2 ^ (max t n - n).toNat

theorem oldF_eq (t : Int) : oldF t = if t ≤ 64 then 0 else t - 64 := by unfold oldF; split <;> omega

theorem fresh_true {t : Int} {s : Nat} {n : Int} : freshB t s n = true ↔ oldF t < n ∧ n ≤ 4611686018427387904 ∧ ¬ (n ≤ t ∧ s.testBit (t - n).toNat = true) := by
  unfold freshB seenB
  cases s.testBit (t - n).toNat <;> by_cases h3 : n ≤ t <;> simp [h3] <;> omega

theorem fresh_false {t : Int} {s : Nat} {n : Int} : freshB t s n = false ↔ n ≤ oldF t ∨ 4611686018427387904 < n ∨ (n ≤ t ∧ s.testBit (t - n).toNat = true) := by
  rw [← Bool.not_eq_true, fresh_true]
  constructor
  · intro h
    by_cases h1 : n ≤ oldF t
    · exact .inl h1
    by_cases h2 : 4611686018427387904 < n
    · exact .inr (.inl h2)
    refine .inr (.inr ?_)
    exact Classical.byContradiction fun h3 => h ⟨by omega, by omega, h3⟩
  · rintro (h | h | h) ⟨h1, h2, h3⟩
    · omega
    · omega
    · exact h3 h

/-- The bits of a list of numbers. -/
def bitsF (t : Int) (g : List Int) : Nat := g.foldl (fun b x => b ||| 2 ^ (t - x).toNat) 0

theorem bitsF_snoc (t : Int) (g : List Int) (x : Int) : bitsF t (g ++ [x]) = bitsF t g ||| 2 ^ (t - x).toNat := by
  unfold bitsF
  rw [List.foldl_append]
  rfl

theorem bits_fold (t : Int) (g : List Int) : ∀ b k, (g.foldl (fun b x => b ||| 2 ^ (t - x).toNat) b).testBit k = true ↔ b.testBit k = true ∨ ∃ x ∈ g, (t - x).toNat = k := by
  induction g with
  | nil => intro b k; simp
  | cons x r ih =>
    intro b k
    rw [List.foldl_cons, ih, Nat.testBit_or, Nat.testBit_two_pow]
    simp [or_assoc]

theorem bits_at (t : Int) (g : List Int) (k : Nat) : (bitsF t g).testBit k = true ↔ ∃ x ∈ g, (t - x).toNat = k := by
  unfold bitsF
  rw [bits_fold]
  simp

/-- What the list holds. -/
structure GotOk (t : Int) (g : List Int) : Prop where
  lo : 0 ≤ t
  hi : t ≤ 4611686018427387904
  all : ∀ x ∈ g, 1 ≤ x ∧ x ≤ t ∧ t - 64 < x

theorem got_nil : GotOk 0 [] := ⟨by omega, by omega, by simp⟩

theorem bits_lt {t : Int} {g : List Int} (h : GotOk t g) : bitsF t g < 18446744073709551616 := by
  have e : (18446744073709551616 : Nat) = 2 ^ 64 := by decide
  rw [e]
  apply Nat.lt_pow_two_of_testBit
  intro i hi
  rw [← Bool.not_eq_true, bits_at]
  rintro ⟨x, hx, h1⟩
  have := h.all x hx
  omega

/-- The document's own answer. -/
def freshL (t : Int) (g : List Int) (n : Int) : Bool := decide (1 ≤ n) && decide (n ≤ 4611686018427387904) && decide (t - 64 < n) && decide (n ∉ g)
def markL (t : Int) (g : List Int) (n : Int) : List Int := g.filter (fun x => decide (max t n - 64 < x)) ++ [n]

theorem freshL_true {t : Int} {g : List Int} {n : Int} : freshL t g n = true ↔ 1 ≤ n ∧ n ≤ 4611686018427387904 ∧ t - 64 < n ∧ n ∉ g := by
  unfold freshL
  simp [and_assoc]

theorem fresh_ref {t : Int} {g : List Int} (h : GotOk t g) (n : Int) : freshB t (bitsF t g) n = freshL t g n := by
  rw [Bool.eq_iff_iff, fresh_true, freshL_true, bits_at, oldF_eq]
  have h0 := h.lo
  have key : (n ≤ t ∧ ∃ x ∈ g, (t - x).toNat = (t - n).toNat) ↔ n ∈ g := by
    constructor
    · rintro ⟨h1, x, hx, h2⟩
      have := h.all x hx
      have e : x = n := by omega
      exact e ▸ hx
    · intro hn
      exact ⟨(h.all n hn).2.1, n, hn, rfl⟩
  rw [key]
  split <;> constructor <;> rintro ⟨h1, h2, h3⟩
  · exact ⟨by omega, h2, by omega, h3⟩
  · exact ⟨by omega, h2, h3.2⟩
  · exact ⟨by omega, h2, by omega, h3⟩
  · exact ⟨by omega, h2, h3.2⟩

theorem mark_ok {t : Int} {g : List Int} (h : GotOk t g) {n : Int} (hf : freshL t g n = true) : GotOk (max t n) (markL t g n) := by
  obtain ⟨h1, h2, h3, h4⟩ := freshL_true.1 hf
  have a := h.lo
  have b := h.hi
  refine ⟨by omega, by omega, fun x hx => ?_⟩
  unfold markL at hx
  rcases List.mem_append.1 hx with hx | hx
  · obtain ⟨hm, hp⟩ := List.mem_filter.1 hx
    have := h.all x hm
    have := of_decide_eq_true hp
    omega
  · have e : x = n := by simpa using hx
    omega

theorem bits_mark {t : Int} {g : List Int} (h : GotOk t g) {n : Int} (hf : freshL t g n = true) : markS t (bitsF t g) n = bitsF (max t n) (markL t g n) := by
  obtain ⟨h1, h2, h3, h4⟩ := freshL_true.1 hf
  have e64 : (18446744073709551616 : Nat) = 2 ^ 64 := by decide
  unfold markL markS upS
  rw [bitsF_snoc]
  congr 1
  apply Nat.eq_of_testBit_eq
  intro k
  rw [Bool.eq_iff_iff, bits_at]
  by_cases hn : t < n
  · rw [if_pos hn, e64, Nat.testBit_mod_two_pow, Nat.testBit_mul_two_pow]
    simp only [Bool.and_eq_true, decide_eq_true_eq, bits_at]
    constructor
    · rintro ⟨hk, hj, x, hx, hxe⟩
      have := h.all x hx
      refine ⟨x, List.mem_filter.2 ⟨hx, decide_eq_true ?_⟩, ?_⟩ <;> omega
    · rintro ⟨x, hx, hxe⟩
      obtain ⟨hm, hp⟩ := List.mem_filter.1 hx
      have := h.all x hm
      have := of_decide_eq_true hp
      refine ⟨by omega, by omega, x, hm, by omega⟩
  · rw [if_neg hn, bits_at]
    constructor
    · rintro ⟨x, hx, hxe⟩
      have := h.all x hx
      exact ⟨x, List.mem_filter.2 ⟨hx, decide_eq_true (by omega)⟩, by omega⟩
    · rintro ⟨x, hx, hxe⟩
      obtain ⟨hm, hp⟩ := List.mem_filter.1 hx
      exact ⟨x, hm, by omega⟩

theorem markS_lt {t : Int} {s : Nat} {n : Int} (hs : s < 18446744073709551616) (h : max t n - 64 < n) : markS t s n < 18446744073709551616 := by
  unfold markS upS
  have e : (18446744073709551616 : Nat) = 2 ^ 64 := by decide
  rw [e]
  refine Nat.or_lt_two_pow ?_ (Nat.pow_lt_pow_right (by omega) (by omega))
  split
  · exact Nat.mod_lt _ (Nat.two_pow_pos _)
  · rw [← e]; exact hs

end Go.Proofs.YtncpjapfkcgjnaaDoor
namespace Go.Proofs.YtncpjapfkcgjnaaDoor
set_option linter.unusedVariables false
set_option linter.unusedSimpArgs false
open Go.RowKit

set_option maxHeartbeats 400000 in
theorem win_old (t : Int) (s : Nat) (w : World) (h0 : 0 ≤ t) (h1 : t ≤ 4611686018427387904) :
    Calls Tryd.prog 62 #[.agg #[.int .i64 t, .int .u64 (s : Int)]] w fun e w' => e = .returned (.int .i64 (oldF t)) ∧ Below w.heap.size w w' := by
  go_enter Tryd.func62, Tryd.ntmps62
  go_wp2_with fail
  go_ret
  exact ⟨rfl, (Below.refl _ _).alloc (Nat.le_refl _) _⟩

theorem u64_of {x : Int} (h0 : 0 ≤ x) (h1 : x ≤ 4611686018427387904) : IntKind.u64.wrap (wrap64 x) = x := by
  rw [show wrap64 x = x from by unfold wrap64; omega]
  simp [IntKind.wrap, IntKind.bits, IntKind.signed]
  omega

/-- The test of a bit. -/
theorem bit_is (s k : Nat) (hs : s < 18446744073709551616) (hk : k ≤ 64) : (bits .and .u64 ((s : Int) / 2 ^ k) 1 == 1) = s.testBit k := by
  have e : ((s : Int) / 2 ^ k) = ((s / 2 ^ k : Nat) : Int) := by simp
  have hl : s / 2 ^ k < 18446744073709551616 := Nat.lt_of_le_of_lt (Nat.div_le_self _ _) hs
  rw [e, show (1 : Int) = ((1 : Nat) : Int) from rfl, u64_and_nat _ _ hl (by omega), Nat.and_one_is_mod, Nat.testBit_eq_decide_div_mod_eq]
  rw [Bool.eq_iff_iff]
  simp only [beq_iff_eq, decide_eq_true_eq]
  omega

theorem seen_is {t : Int} {s : Nat} {n : Int} (hs : s < 18446744073709551616) (h0 : 0 ≤ t) (h1 : t ≤ 4611686018427387904) (h2 : oldF t < n) (h3 : n ≤ t) :
    (bits .and .u64 ((s : Int) / 2 ^ min (IntKind.u64.wrap (wrap64 (t - n))).toNat 64) 1 == 1) = seenB t s n := by
  have h4 := oldF_eq t
  have h5 : t - n < 64 ∧ 0 ≤ t - n ∧ t - n ≤ 4611686018427387904 := by split at h4 <;> omega
  rw [u64_of h5.2.1 h5.2.2, Nat.min_eq_left (by omega), bit_is s _ hs (by omega)]
  unfold seenB
  simp [h3]

set_option maxHeartbeats 400000 in
theorem win_seen (t : Int) (s : Nat) (n : Int) (w : World) (hs : s < 18446744073709551616) (h0 : 0 ≤ t) (h1 : t ≤ 4611686018427387904) (h2 : oldF t < n) :
    Calls Tryd.prog 63 #[.agg #[.int .i64 t, .int .u64 (s : Int)], .int .i64 n] w fun e w' => e = .returned (.bool (seenB t s n)) ∧ Below w.heap.size w w' := by
  by_cases h3 : n ≤ t
  · have E := Lib.hid (seen_is hs h0 h1 h2 h3)
    go_enter Tryd.func63, Tryd.ntmps63
    go_wp2_with fail
    go_ret
    refine ⟨?_, (Below.refl _ _).alloc (Nat.le_refl _) _⟩
    rw [← E.out]
    rfl
  · have E : Hid (false = seenB t s n) := Lib.hid (by unfold seenB; simp [h3])
    have hd : decide (n ≤ t) = false := by simpa using h3
    go_enter Tryd.func63, Tryd.ntmps63
    go_wp2_with fail
    go_ret
    refine ⟨?_, (Below.refl _ _).alloc (Nat.le_refl _) _⟩
    rw [← E.out]
    rfl

/-- A window's value. -/
theorem fresh_at {t : Int} {s : Nat} {n : Int} (h1 : oldF t < n) (h2 : n ≤ 4611686018427387904) : freshB t s n = !seenB t s n := by
  unfold freshB
  simp [h1, h2]

set_option maxHeartbeats 400000 in
theorem win_fresh (t : Int) (s : Nat) (n : Int) (w : World) (hs : s < 18446744073709551616) (h0 : 0 ≤ t) (h1 : t ≤ 4611686018427387904) :
    Calls Tryd.prog 47 #[.agg #[.int .i64 t, .int .u64 (s : Int)], .int .i64 n] w fun e w' => e = .returned (.bool (freshB t s n)) ∧ Below w.heap.size w w' := by
  by_cases h2 : oldF t < n
  · by_cases h3 : n ≤ 4611686018427387904
    · have E := Lib.hid (fresh_at (s := s) h2 h3)
      go_enter Tryd.func47, Tryd.ntmps47
      go_wp2_with fail
      refine (win_old t s _ h0 h1).mono ?_
      rintro e w1 ⟨rfl, hb⟩
      have HB := Lib.hid hb
      have hc : ∀ o, w1.cell? ⟨w.heap.size, o, none⟩ = (w.alloc (.cells #[.int .i64 t, .int .u64 (s : Int)] 71)).cell? ⟨w.heap.size, o, none⟩ := fun o => hb.cell (p := ⟨w.heap.size, o, none⟩) (by simp)
      clear hb
      go_wp2_with fail
      refine (win_seen t s n _ hs h0 h1 h2).mono ?_
      rintro e w2 ⟨rfl, hb2⟩
      have HB2 := Lib.hid ((((Below.refl w.heap.size w).alloc (Nat.le_refl _) _).trans (HB.out.mono (by simp))).trans (hb2.mono (by have := HB.out.size; simp at this; omega)))
      clear hb2 hc
      go_wp2_with fail
      go_ret
      refine ⟨?_, HB2.out⟩
      rw [E.out]
      rfl
    · have E : Hid (false = freshB t s n) := Lib.hid (by unfold freshB; simp [h3])
      go_enter Tryd.func47, Tryd.ntmps47
      go_wp2_with fail
      refine (win_old t s _ h0 h1).mono ?_
      rintro e w1 ⟨rfl, hb⟩
      have HB := Lib.hid (((Below.refl w.heap.size w).alloc (Nat.le_refl _) _).trans (hb.mono (by simp)))
      clear hb
      go_wp2_with fail
      go_ret
      refine ⟨?_, HB.out⟩
      rw [← E.out]
      rfl
  · have E : Hid (false = freshB t s n) := Lib.hid (by unfold freshB; simp [h2])
    go_enter Tryd.func47, Tryd.ntmps47
    go_wp2_with fail
    refine (win_old t s _ h0 h1).mono ?_
    rintro e w1 ⟨rfl, hb⟩
    have HB := Lib.hid (((Below.refl w.heap.size w).alloc (Nat.le_refl _) _).trans (hb.mono (by simp)))
    clear hb
    go_wp2_with fail
    go_ret
    refine ⟨?_, HB.out⟩
    rw [← E.out]
    rfl

end Go.Proofs.YtncpjapfkcgjnaaDoor
namespace Go.Proofs.YtncpjapfkcgjnaaDoor
set_option linter.unusedVariables false
set_option linter.unusedSimpArgs false
open Go.RowKit

theorem or_up {t : Int} {s : Nat} {n : Int} (hs : s < 18446744073709551616) (ht : t < n) : bits .or .u64 (IntKind.u64.wrap ((s : Int) * 2 ^ min (n - t).toNat 64)) 1 = ((markS t s n : Nat) : Int) := by
  have e0 : IntKind.u64.wrap ((s : Int) * 2 ^ min (n - t).toNat 64) = ((s * 2 ^ min (n - t).toNat 64 % 18446744073709551616 : Nat) : Int) := by
    simp [IntKind.wrap, IntKind.bits, IntKind.signed]
  have e64 : (18446744073709551616 : Nat) = 2 ^ 64 := by decide
  have e1 : s * 2 ^ min (n - t).toNat 64 % 18446744073709551616 = s * 2 ^ (n - t).toNat % 18446744073709551616 := by
    by_cases h : (n - t).toNat ≤ 64
    · rw [Nat.min_eq_left h]
    · rw [Nat.min_eq_right (by omega), e64, Nat.mul_mod_left]
      have : (n - t).toNat = ((n - t).toNat - 64) + 64 := by omega
      rw [this, Nat.pow_add, ← Nat.mul_assoc, Nat.mul_mod_left]
  rw [e0, show (1 : Int) = ((1 : Nat) : Int) from rfl, u64_or_nat _ _ (Nat.mod_lt _ (by omega)) (by omega), e1]
  unfold markS upS
  rw [if_pos ht, show (max t n - n).toNat = 0 from by omega]

theorem or_down {t : Int} {s : Nat} {n : Int} (hs : s < 18446744073709551616) (ht : n ≤ t) (h64 : t - n < 64) : bits .or .u64 (s : Int) (IntKind.u64.wrap (2 ^ (t - n).toNat)) = ((markS t s n : Nat) : Int) := by
  have hlt : 2 ^ (t - n).toNat < 18446744073709551616 := by
    have e64 : (18446744073709551616 : Nat) = 2 ^ 64 := by decide
    rw [e64]
    exact Nat.pow_lt_pow_right (by omega) (by omega)
  have e0 : IntKind.u64.wrap (2 ^ (t - n).toNat) = ((2 ^ (t - n).toNat : Nat) : Int) := by
    have : ((2 : Int) ^ (t - n).toNat) = ((2 ^ (t - n).toNat : Nat) : Int) := by simp
    rw [this]
    generalize 2 ^ (t - n).toNat = x at hlt
    simp only [IntKind.wrap, IntKind.bits, IntKind.signed]
    simp
    omega
  rw [e0, u64_or_nat _ _ hs hlt]
  unfold markS upS
  rw [if_neg (by omega), show max t n = t from by omega]

set_option maxHeartbeats 400000 in
theorem win_mark_not (t : Int) (s : Nat) (n : Int) (w : World) (hs : s < 18446744073709551616) (h0 : 0 ≤ t) (h1 : t ≤ 4611686018427387904) (hf : freshB t s n = false) :
    Calls Tryd.prog 31 #[.agg #[.int .i64 t, .int .u64 (s : Int)], .int .i64 n] w fun e w' => e = .returned (.tuple #[.agg #[.int .i64 t, .int .u64 (s : Int)], .bool false]) ∧ Below w.heap.size w w' := by
  have HF := Lib.hid hf
  clear hf
  go_enter Tryd.func31, Tryd.ntmps31
  go_wp2_with fail
  refine (win_fresh t s n _ hs h0 h1).mono ?_
  rintro e w1 ⟨rfl, hb⟩
  rw [HF.out]
  have HB := Lib.hid ((((Below.refl w.heap.size w).alloc (Nat.le_refl _) _).alloc (by simp) _).trans (hb.mono (by simp; omega)))
  have hz : w.heap.size + 1 < w1.heap.size := by have := hb.size; simp at this; omega
  have c0 : w1.cell? ⟨w.heap.size, 0, none⟩ = some (.int .i64 t) := (hb.cell (p := ⟨w.heap.size, 0, none⟩) (by simp <;> omega)).trans (by simp [go_sem, Array.size_push])
  have c1 : w1.cell? ⟨w.heap.size, 1, none⟩ = some (.int .u64 (s : Int)) := (hb.cell (p := ⟨w.heap.size, 1, none⟩) (by simp <;> omega)).trans (by simp [go_sem, Array.size_push])
  have c2 : w1.cell? ⟨w.heap.size + 1, 0, none⟩ = some (.int .i64 0) := (hb.cell (p := ⟨w.heap.size + 1, 0, none⟩) (by simp <;> omega)).trans (by simp [go_sem, Array.size_push])
  have c3 : w1.cell? ⟨w.heap.size + 1, 1, none⟩ = some (.int .u64 0) := (hb.cell (p := ⟨w.heap.size + 1, 1, none⟩) (by simp <;> omega)).trans (by simp [go_sem, Array.size_push])
  have f00 : w1.frozen? ⟨w.heap.size, 0, none⟩ = false := (hb.frozen (p := ⟨w.heap.size, 0, none⟩) (by simp <;> omega)).trans (by simp [go_sem, Array.size_push])
  have f01 : w1.frozen? ⟨w.heap.size, 1, none⟩ = false := (hb.frozen (p := ⟨w.heap.size, 1, none⟩) (by simp <;> omega)).trans (by simp [go_sem, Array.size_push])
  have f10 : w1.frozen? ⟨w.heap.size + 1, 0, none⟩ = false := (hb.frozen (p := ⟨w.heap.size + 1, 0, none⟩) (by simp <;> omega)).trans (by simp [go_sem, Array.size_push])
  have f11 : w1.frozen? ⟨w.heap.size + 1, 1, none⟩ = false := (hb.frozen (p := ⟨w.heap.size + 1, 1, none⟩) (by simp <;> omega)).trans (by simp [go_sem, Array.size_push])
  clear hb
  go_wp2_with fail
  refine bodyPost_ret (v := .tuple #[.agg #[.int .i64 t, .int .u64 (s : Int)], .bool false]) (by simp [results, Tryd.results31, go_sem, hz, c2, c3]) rfl ⟨rfl, ?_⟩
  exact (HB.out.setCell (by simp) _).setCell (by simp) _

set_option maxHeartbeats 400000 in
theorem win_mark_up (t : Int) (s : Nat) (n : Int) (w : World) (hs : s < 18446744073709551616) (h0 : 0 ≤ t) (h1 : t ≤ 4611686018427387904) (hf : freshB t s n = true) (ht : t < n) (hn : n ≤ 4611686018427387904) :
    Calls Tryd.prog 31 #[.agg #[.int .i64 t, .int .u64 (s : Int)], .int .i64 n] w fun e w' => e = .returned (.tuple #[.agg #[.int .i64 n, .int .u64 (markS t s n : Nat)], .bool true]) ∧ Below w.heap.size w w' := by
  have E := Lib.hid (or_up hs ht)
  have HF := Lib.hid hf
  clear hf
  go_enter Tryd.func31, Tryd.ntmps31
  go_wp2_with fail
  refine (win_fresh t s n _ hs h0 h1).mono ?_
  rintro e w1 ⟨rfl, hb⟩
  rw [HF.out]
  have HB := Lib.hid ((((Below.refl w.heap.size w).alloc (Nat.le_refl _) _).alloc (by simp) _).trans (hb.mono (by simp; omega)))
  have hz : w.heap.size + 1 < w1.heap.size := by have := hb.size; simp at this; omega
  have c0 : w1.cell? ⟨w.heap.size, 0, none⟩ = some (.int .i64 t) := (hb.cell (p := ⟨w.heap.size, 0, none⟩) (by simp <;> omega)).trans (by simp [go_sem, Array.size_push])
  have c1 : w1.cell? ⟨w.heap.size, 1, none⟩ = some (.int .u64 (s : Int)) := (hb.cell (p := ⟨w.heap.size, 1, none⟩) (by simp <;> omega)).trans (by simp [go_sem, Array.size_push])
  have c2 : w1.cell? ⟨w.heap.size + 1, 0, none⟩ = some (.int .i64 0) := (hb.cell (p := ⟨w.heap.size + 1, 0, none⟩) (by simp <;> omega)).trans (by simp [go_sem, Array.size_push])
  have c3 : w1.cell? ⟨w.heap.size + 1, 1, none⟩ = some (.int .u64 0) := (hb.cell (p := ⟨w.heap.size + 1, 1, none⟩) (by simp <;> omega)).trans (by simp [go_sem, Array.size_push])
  have f00 : w1.frozen? ⟨w.heap.size, 0, none⟩ = false := (hb.frozen (p := ⟨w.heap.size, 0, none⟩) (by simp <;> omega)).trans (by simp [go_sem, Array.size_push])
  have f01 : w1.frozen? ⟨w.heap.size, 1, none⟩ = false := (hb.frozen (p := ⟨w.heap.size, 1, none⟩) (by simp <;> omega)).trans (by simp [go_sem, Array.size_push])
  have f10 : w1.frozen? ⟨w.heap.size + 1, 0, none⟩ = false := (hb.frozen (p := ⟨w.heap.size + 1, 0, none⟩) (by simp <;> omega)).trans (by simp [go_sem, Array.size_push])
  have f11 : w1.frozen? ⟨w.heap.size + 1, 1, none⟩ = false := (hb.frozen (p := ⟨w.heap.size + 1, 1, none⟩) (by simp <;> omega)).trans (by simp [go_sem, Array.size_push])
  clear hb
  have htn : t ≤ n := by omega
  go_wp2_with fail
  rw [E.out]
  refine bodyPost_ret (v := .tuple #[.agg #[.int .i64 n, .int .u64 (markS t s n : Nat)], .bool true]) (by simp [results, Tryd.results31, go_sem, hz, c2, c3]) rfl ⟨rfl, ?_⟩
  exact ((((HB.out.setCell (by simp) _).setCell (by simp) _).setCell (by simp) _).setCell (by simp) _).setCell (by simp) _

set_option maxHeartbeats 400000 in
theorem win_mark_down (t : Int) (s : Nat) (n : Int) (w : World) (hs : s < 18446744073709551616) (h0 : 0 ≤ t) (h1 : t ≤ 4611686018427387904) (hf : freshB t s n = true) (ht : n ≤ t) (hn : 1 ≤ n) :
    Calls Tryd.prog 31 #[.agg #[.int .i64 t, .int .u64 (s : Int)], .int .i64 n] w fun e w' => e = .returned (.tuple #[.agg #[.int .i64 t, .int .u64 (markS t s n : Nat)], .bool true]) ∧ Below w.heap.size w w' := by
  have h64 : t - n < 64 := by
    have := (fresh_true.1 hf).1
    rw [oldF_eq] at this
    split at this <;> omega
  have E := Lib.hid (or_down hs ht h64)
  have HF := Lib.hid hf
  clear hf
  go_enter Tryd.func31, Tryd.ntmps31
  go_wp2_with fail
  refine (win_fresh t s n _ hs h0 h1).mono ?_
  rintro e w1 ⟨rfl, hb⟩
  rw [HF.out]
  have HB := Lib.hid ((((Below.refl w.heap.size w).alloc (Nat.le_refl _) _).alloc (by simp) _).trans (hb.mono (by simp; omega)))
  have hz : w.heap.size + 1 < w1.heap.size := by have := hb.size; simp at this; omega
  have c0 : w1.cell? ⟨w.heap.size, 0, none⟩ = some (.int .i64 t) := (hb.cell (p := ⟨w.heap.size, 0, none⟩) (by simp <;> omega)).trans (by simp [go_sem, Array.size_push])
  have c1 : w1.cell? ⟨w.heap.size, 1, none⟩ = some (.int .u64 (s : Int)) := (hb.cell (p := ⟨w.heap.size, 1, none⟩) (by simp <;> omega)).trans (by simp [go_sem, Array.size_push])
  have c2 : w1.cell? ⟨w.heap.size + 1, 0, none⟩ = some (.int .i64 0) := (hb.cell (p := ⟨w.heap.size + 1, 0, none⟩) (by simp <;> omega)).trans (by simp [go_sem, Array.size_push])
  have c3 : w1.cell? ⟨w.heap.size + 1, 1, none⟩ = some (.int .u64 0) := (hb.cell (p := ⟨w.heap.size + 1, 1, none⟩) (by simp <;> omega)).trans (by simp [go_sem, Array.size_push])
  have f00 : w1.frozen? ⟨w.heap.size, 0, none⟩ = false := (hb.frozen (p := ⟨w.heap.size, 0, none⟩) (by simp <;> omega)).trans (by simp [go_sem, Array.size_push])
  have f01 : w1.frozen? ⟨w.heap.size, 1, none⟩ = false := (hb.frozen (p := ⟨w.heap.size, 1, none⟩) (by simp <;> omega)).trans (by simp [go_sem, Array.size_push])
  have f10 : w1.frozen? ⟨w.heap.size + 1, 0, none⟩ = false := (hb.frozen (p := ⟨w.heap.size + 1, 0, none⟩) (by simp <;> omega)).trans (by simp [go_sem, Array.size_push])
  have f11 : w1.frozen? ⟨w.heap.size + 1, 1, none⟩ = false := (hb.frozen (p := ⟨w.heap.size + 1, 1, none⟩) (by simp <;> omega)).trans (by simp [go_sem, Array.size_push])
  clear hb
  have htn : decide (t < n) = false := by simpa using ht
  go_wp2_with fail
  rw [E.out]
  refine bodyPost_ret (v := .tuple #[.agg #[.int .i64 t, .int .u64 (markS t s n : Nat)], .bool true]) (by simp [results, Tryd.results31, go_sem, hz, c2, c3]) rfl ⟨rfl, ?_⟩
  exact ((HB.out.setCell (by simp) _).setCell (by simp) _).setCell (by simp) _

/-- Mark: the window behind it, and whether it was fresh. -/
theorem win_mark (t : Int) (s : Nat) (n : Int) (w : World) (hs : s < 18446744073709551616) (h0 : 0 ≤ t) (h1 : t ≤ 4611686018427387904) :
    Calls Tryd.prog 31 #[.agg #[.int .i64 t, .int .u64 (s : Int)], .int .i64 n] w fun e w' => e = .returned (.tuple #[.agg #[.int .i64 (if freshB t s n then max t n else t), .int .u64 ((if freshB t s n then markS t s n else s : Nat) : Int)], .bool (freshB t s n)]) ∧ Below w.heap.size w w' := by
  cases hf : freshB t s n
  · simpa using win_mark_not t s n w hs h0 h1 hf
  · obtain ⟨f1, f2, _⟩ := fresh_true.1 hf
    by_cases ht : t < n
    · simpa [show max t n = n from by omega] using win_mark_up t s n w hs h0 h1 hf ht f2
    · have : 1 ≤ n := by rw [oldF_eq] at f1; split at f1 <;> omega
      simpa [show max t n = t from by omega] using win_mark_down t s n w hs h0 h1 hf (by omega) this

end Go.Proofs.YtncpjapfkcgjnaaDoor
namespace Go.Proofs.YtncpjapfkcgjnaaDoor
set_option linter.unusedVariables false
set_option linter.unusedSimpArgs false
open Go.RowKit

theorem win_take (t : Int) (s : Nat) (n : Int) (t' : Int) (s' : Nat) (w : World) (hs : s < 18446744073709551616) (h0 : 0 ≤ t) (h1 : t ≤ 4611686018427387904) (hf : freshB t s n = true) (ht : max t n = t') (hs' : markS t s n = s') :
    Calls Tryd.prog 31 #[.agg #[.int .i64 t, .int .u64 (s : Int)], .int .i64 n] w fun e w' => e = .returned (.tuple #[.agg #[.int .i64 t', .int .u64 (s' : Int)], .bool true]) ∧ Below w.heap.size w w' := by
  subst ht hs'
  simpa [hf] using win_mark t s n w hs h0 h1

theorem win_fresh_is (t : Int) (s : Nat) (n : Int) (b : Bool) (w : World) (hs : s < 18446744073709551616) (h0 : 0 ≤ t) (h1 : t ≤ 4611686018427387904) (hf : freshB t s n = b) :
    Calls Tryd.prog 47 #[.agg #[.int .i64 t, .int .u64 (s : Int)], .int .i64 n] w fun e w' => e = .returned (.bool b) ∧ Below w.heap.size w w' := by
  subst hf
  exact win_fresh t s n w hs h0 h1

theorem old_is (t : Int) (s : Nat) (w : World) (h0 : 0 ≤ t) (h1 : t ≤ 4611686018427387904) :
    Calls Tryd.prog 62 #[.agg #[.int .i64 t, .int .u64 (s : Int)]] w fun e w' => e = .returned (.int .i64 (max (t - 64) 0)) ∧ Below w.heap.size w w' := by
  rw [show max (t - 64) 0 = oldF t from by unfold oldF; omega]
  exact win_old t s w h0 h1

end Go.Proofs.YtncpjapfkcgjnaaDoor
namespace Go.Proofs.YtncpjapfkcgjnaaDoor
set_option linter.unusedVariables false
set_option linter.unusedSimpArgs false
open Go.RowKit

/-- A window variable: its two cells. -/
structure WinAt (w : World) (p : Nat) (t : Int) (s : Nat) : Prop where
  c0 : w.cell? ⟨p, 0, none⟩ = some (.int .i64 t)
  c1 : w.cell? ⟨p, 1, none⟩ = some (.int .u64 s)
  f0 : w.frozen? ⟨p, 0, none⟩ = false
  f1 : w.frozen? ⟨p, 1, none⟩ = false

theorem WinAt.lt {w : World} {p : Nat} {t : Int} {s : Nat} (h : WinAt w p t s) : p < w.heap.size := World.block_lt_of_cell? w _ h.c0

theorem WinAt.keep {S : Nat → Prop} {w w' : World} {p : Nat} {t : Int} {s : Nat} (h : WinAt w p t s) (k : Keep S w w') (hn : ¬ S p) : WinAt w' p t s :=
  ⟨(k.cell (p := ⟨p, 0, none⟩) h.lt hn).trans h.c0, (k.cell (p := ⟨p, 1, none⟩) h.lt hn).trans h.c1, (k.frozen (p := ⟨p, 0, none⟩) h.lt hn).trans h.f0, (k.frozen (p := ⟨p, 1, none⟩) h.lt hn).trans h.f1⟩

theorem WinAt.below {w w' : World} {p : Nat} {t : Int} {s : Nat} (h : WinAt w p t s) (k : Below w.heap.size w w') : WinAt w' p t s := h.keep (Keep.of_below (fun _ => False) k) (fun x => x)

theorem WinAt.alloc {w : World} {p : Nat} {t : Int} {s : Nat} (h : WinAt w p t s) (o : Obj) : WinAt (w.alloc o) p t s := h.keep (Keep.alloc (Keep.refl (fun _ => False) w) o) (fun x => x)

theorem WinAt.drewN {w : World} {p : Nat} {t : Int} {s : Nat} (h : WinAt w p t s) (k : Nat) : WinAt (w.drewN k) p t s := h.keep (Keep.drewN (Keep.refl (fun _ => False) w) k) (fun x => x)

theorem WinAt.drew {w : World} {p : Nat} {t : Int} {s : Nat} (h : WinAt w p t s) : WinAt w.drew p t s := h.keep (Keep.drew (Keep.refl (fun _ => False) w)) (fun x => x)

/-- Made anew. -/
theorem winAt_new (w : World) (t : Int) (s : Nat) (T : TypeId) : WinAt (w.alloc (.cells #[.int .i64 t, .int .u64 (s : Int)] T)) w.heap.size t s :=
  ⟨by simp [go_sem], by simp [go_sem], by simp [go_sem], by simp [go_sem]⟩

/-- Set anew. -/
theorem WinAt.set {w : World} {p : Nat} {t : Int} {s : Nat} (h : WinAt w p t s) (t' : Int) (s' : Nat) : WinAt ((w.setCell ⟨p, 0, none⟩ (.int .i64 t')).setCell ⟨p, 1, none⟩ (.int .u64 (s' : Int))) p t' s' := by
  obtain ⟨c0, c1, f0, f1⟩ := h
  exact ⟨by simp [go_sem, c0, c1], by simp [go_sem, c0, c1], by simp [go_sem, f0, f1], by simp [go_sem, f0, f1]⟩

theorem WinAt.far {w : World} {p q : Nat} {t : Int} {s : Nat} (h : WinAt w p t s) (hq : p ≠ q) (i : Nat) (u : Value) : WinAt (w.setCell ⟨q, i, none⟩ u) p t s :=
  h.keep (keep_set w q i u) hq

theorem made3 {W w3 : World} {p : Nat} (hW : WinAt W p 0 0) (hb : Below W.heap.size W w3) : w3.cell? ⟨p, 0, none⟩ = some (.int .i64 0) ∧ w3.cell? ⟨p, 1, none⟩ = some (.int .u64 0) ∧ w3.frozen? ⟨p, 0, none⟩ = false ∧ w3.frozen? ⟨p, 1, none⟩ = false := by
  have h := hW.below hb
  exact ⟨h.c0, h.c1, h.f0, h.f1⟩

theorem quiet_keep {w0 W w3 : World} (hW : Keep (fun k => w0.heap.size ≤ k) w0 W) (hb : Below W.heap.size W w3) : Keep (fun k => w0.heap.size ≤ k) w0 w3 := hW.trans (Keep.of_below (fun _ => False) hb) (fun _ _ x => x.elim)

theorem tell3 {w w' : World} {a b c : Addr} {x y z : Value} (h : w.cell? a = some x ∧ w.cell? b = some y ∧ w.cell? c = some z) (k : Keep (fun k => w.heap.size ≤ k) w w') : w'.cell? a = some x ∧ w'.cell? b = some y ∧ w'.cell? c = some z := by
  have p1 := World.block_lt_of_cell? w _ h.1
  have p2 := World.block_lt_of_cell? w _ h.2.1
  have p3 := World.block_lt_of_cell? w _ h.2.2
  exact ⟨(k.cell p1 (by omega)).trans h.1, (k.cell p2 (by omega)).trans h.2.1, (k.cell p3 (by omega)).trans h.2.2⟩

end Go.Proofs.YtncpjapfkcgjnaaDoor
namespace Go.Proofs.YtncpjapfkcgjnaaDoor
set_option linter.unusedVariables false
set_option linter.unusedSimpArgs false
open Go.RowKit

/-- The document's window at an address: its top, and the list of what came. -/
structure RefAt (w : World) (p o : Nat) (t : Int) (A : Option Addr) (c : Nat) (g : List Int) : Prop where
  c0 : w.cell? ⟨p, o, none⟩ = some (.int .i64 t)
  c1 : w.cell? ⟨p, o + 1, none⟩ = some (.slice A g.length c)
  f0 : w.frozen? ⟨p, o, none⟩ = false
  f1 : w.frozen? ⟨p, o + 1, none⟩ = false
  buf : Buf w A g.length c (g.map (Value.int .i64))
  ne : ∀ k, blk A = some k → p ≠ k

theorem RefAt.lt {w : World} {p o : Nat} {t : Int} {A : Option Addr} {c : Nat} {g : List Int} (h : RefAt w p o t A c g) : p < w.heap.size := World.block_lt_of_cell? w _ h.c0

theorem RefAt.keep {S : Nat → Prop} {w w' : World} {p o : Nat} {t : Int} {A : Option Addr} {c : Nat} {g : List Int} (h : RefAt w p o t A c g) (k : Keep S w w') (h1 : ¬ S p) (h2 : ∀ i, blk A = some i → ¬ S i) : RefAt w' p o t A c g :=
  ⟨(k.cell (p := ⟨p, o, none⟩) h.lt h1).trans h.c0, (k.cell (p := ⟨p, o + 1, none⟩) h.lt h1).trans h.c1, (k.frozen (p := ⟨p, o, none⟩) h.lt h1).trans h.f0, (k.frozen (p := ⟨p, o + 1, none⟩) h.lt h1).trans h.f1, h.buf.keep k h2, h.ne⟩

/-- The i-th of the numbers. -/
theorem RefAt.at {w : World} {p o : Nat} {t : Int} {A : Option Addr} {c : Nat} {g : List Int} (h : RefAt w p o t A c g) {k : Nat} (hk : k < g.length) : ∃ x b off, g[k]? = some x ∧ A = some ⟨b, off, none⟩ ∧ w.cell? ⟨b, off + k, none⟩ = some (.int .i64 x) ∧ p ≠ b ∧ b < w.heap.size := by
  obtain ⟨b, off, rfl, hb, row⟩ := h.buf.some_of (by omega)
  have hx : g[k]? = some g[k] := List.getElem?_eq_getElem hk
  exact ⟨g[k], b, off, hx, rfl, row.val k _ (by rw [List.getElem?_map, hx]; rfl), h.ne b rfl, hb⟩

set_option maxRecDepth 100000 in
set_option maxHeartbeats 1600000 in
theorem ref_fresh (p o : Nat) (t : Int) (A : Option Addr) (c : Nat) (g : List Int) (n : Int) (w : World) (h : RefAt w p o t A c g) (h0 : 0 ≤ t) (h1 : t ≤ 4611686018427387904) (hl : g.length ≤ 1000000) :
    Calls Tryd.prog 48 #[.pointer (some ⟨p, o, none⟩), .int .i64 n] w fun e w' => e = .returned (.bool (freshL t g n)) ∧ w = w' := by
  have H := Lib.hid h
  have c0 := h.c0
  have c1 := h.c1
  clear h
  by_cases n1 : 1 ≤ n
  rotate_left
  · have E : Hid (freshL t g n = false) := Lib.hid (by unfold freshL; simp [n1])
    have d1 : decide (n < 1) = true := by simp; omega
    go_enter Tryd.func48, Tryd.ntmps48
    go_wp2_with fail
    go_ret
    exact ⟨by rw [E.out]; rfl, rfl⟩
  have d1 : decide (n < 1) = false := by simp; omega
  by_cases n2 : n ≤ 4611686018427387904
  rotate_left
  · have E : Hid (freshL t g n = false) := Lib.hid (by unfold freshL; simp [n2])
    have d2 : decide (4611686018427387904 < n) = true := by simp; omega
    go_enter Tryd.func48, Tryd.ntmps48
    go_wp2_with fail
    go_ret
    exact ⟨by rw [E.out]; rfl, rfl⟩
  have d2 : decide (4611686018427387904 < n) = false := by simp; omega
  by_cases n3 : t - 64 < n
  rotate_left
  · have E : Hid (freshL t g n = false) := Lib.hid (by unfold freshL; simp [n3])
    have d3 : decide (n ≤ t - 64) = true := by simp; omega
    go_enter Tryd.func48, Tryd.ntmps48
    go_wp2_with fail
    go_ret
    exact ⟨by rw [E.out]; rfl, rfl⟩
  have d3 : decide (n ≤ t - 64) = false := by simp; omega
  have E : Hid (freshL t g n = decide (n ∉ g)) := Lib.hid (by unfold freshL; simp [n1, n2, n3])
  go_enter Tryd.func48, Tryd.ntmps48
  go_wp2_with fail
  go_loop [5] (fun i => ∃ k : Nat, i = .int .i64 k ∧ k ≤ g.length ∧ Hid (n ∉ g.take k)) (fun i => g.length - (intOf i).toNat)
  case atStart => exact ⟨0, rfl, by omega, Lib.hid (by simp)⟩
  case round =>
    obtain ⟨k, rfl, hk, HN⟩ := hrel
    by_cases hlt : k < g.length
    · obtain ⟨x, b, off, hx, rfl, rx, hpb, hbl⟩ := H.out.at hlt
      have HX := Lib.hid hx
      clear hx
      by_cases hxn : x = n
      · subst hxn
        have hm : Hid (freshL t g x = false) := Lib.hid (by rw [E.out]; simpa using List.mem_of_getElem? HX.out)
        go_wp2_with fail
        go_ret
        exact ⟨by rw [hm.out]; rfl, rfl⟩
      · have e1 : (x == n) = false := by simpa using hxn
        have hm : Hid (n ∉ g.take (k + 1)) := Lib.hid (by
          rw [take_next HX.out]
          intro hh
          rcases List.mem_append.1 hh with q | q
          · exact HN.out q
          · exact hxn (by have : n = x := by simpa using q
                          exact this.symm))
        clear hxn
        go_wp2_with fail
        go_round
        case rel => exact ⟨k + 1, by go_num, by omega, hm⟩
        case measure => simp [intOf]; omega
    · have hm : Hid (freshL t g n = true) := Lib.hid (by
        have := HN.out
        rw [List.take_of_length_le (by omega)] at this
        rw [E.out]
        simpa using this)
      go_wp2_with fail
      go_ret
      exact ⟨by rw [hm.out]; rfl, rfl⟩

end Go.Proofs.YtncpjapfkcgjnaaDoor
namespace Go.Proofs.YtncpjapfkcgjnaaDoor
set_option linter.unusedVariables false
set_option linter.unusedSimpArgs false
open Go.RowKit

/-- What is left of the first k numbers. -/
def leftL (t : Int) (g : List Int) (k : Nat) : List Int := (g.take k).filter (fun x => decide (t - 64 < x))

theorem leftL_yes {t x : Int} {g : List Int} {k : Nat} (hx : g[k]? = some x) (h : t - 64 < x) : leftL t g (k + 1) = leftL t g k ++ [x] := by
  unfold leftL
  rw [take_next hx, List.filter_append]
  simp [h]
theorem leftL_no {t x : Int} {g : List Int} {k : Nat} (hx : g[k]? = some x) (h : ¬ t - 64 < x) : leftL t g (k + 1) = leftL t g k := by
  unfold leftL
  rw [take_next hx, List.filter_append]
  simp [h]
theorem leftL_len (t : Int) (g : List Int) (k : Nat) : (leftL t g k).length ≤ k := Nat.le_trans (List.length_filter_le _ _) (List.length_take_le _ _)

/-- The cells of a block but two. -/
def Beside (p o : Nat) (w w' : World) : Prop := ∀ i, i ≠ o → i ≠ o + 1 → w'.cell? ⟨p, i, none⟩ = w.cell? ⟨p, i, none⟩ ∧ w'.frozen? ⟨p, i, none⟩ = w.frozen? ⟨p, i, none⟩

theorem Beside.trans {p o : Nat} {w w1 w2 : World} (h : Beside p o w w1) (k : Beside p o w1 w2) : Beside p o w w2 := fun i h1 h2 => ⟨(k i h1 h2).1.trans (h i h1 h2).1, (k i h1 h2).2.trans (h i h1 h2).2⟩
theorem Beside.of_keep {S : Nat → Prop} {p o : Nat} {w w1 : World} (k : Keep S w w1) (hp : p < w.heap.size) (hn : ¬ S p) : Beside p o w w1 := fun i _ _ => ⟨k.cell (p := ⟨p, i, none⟩) hp hn, k.frozen (p := ⟨p, i, none⟩) hp hn⟩
theorem Beside.set {p o : Nat} (w : World) (j : Nat) (hj : j = o ∨ j = o + 1) (u : Value) : Beside p o w (w.setCell ⟨p, j, none⟩ u) := fun i h1 h2 =>
  ⟨World.cell?_setCell_other w _ _ _ (fun e => by injection e with _ e2; omega), by simp⟩

/-- Between the rounds of Mark. -/
structure MarkAt (w0 : World) (p o : Nat) (t : Int) (A : Option Addr) (c : Nat) (g : List Int) (L : Option Addr) (lc : Nat) (lst : List Int) (w : World) : Prop where
  ref : RefAt w p o t A c g
  buf : Buf w L lst.length lc (lst.map (Value.int .i64))
  new : ∀ k, blk L = some k → w0.heap.size ≤ k
  keep : Keep (fun k => p = k) w0 w
  lp : p < w0.heap.size
  la : ∀ k, blk A = some k → k < w0.heap.size
  bes : Beside p o w0 w

theorem MarkAt.drewN {w0 w : World} {p o : Nat} {t : Int} {A : Option Addr} {c : Nat} {g : List Int} {L : Option Addr} {lc : Nat} {lst : List Int} (h : MarkAt w0 p o t A c g L lc lst w) (k : Nat) : MarkAt w0 p o t A c g L lc lst (w.drewN k) :=
  ⟨h.ref.keep (S := fun _ => False) ((Keep.refl _ w).drewN k) (fun x => x) (fun _ _ x => x), h.buf.drewN k, h.new, h.keep.drewN k, h.lp, h.la, h.bes⟩

/-- One more. -/
theorem MarkAt.more {w0 w w2 : World} {p o : Nat} {t : Int} {A : Option Addr} {c : Nat} {g : List Int} {L L' : Option Addr} {lc lc' : Nat} {lst : List Int} {x : Int} {ob : Obj} (h : MarkAt w0 p o t A c g L lc lst w)
    (hb : Buf w2 L' (lst.length + 1) lc' (lst.map (Value.int .i64) ++ [.int .i64 x])) (hk : Keep (fun k => blk L = some k) (w.alloc ob) w2) (hf : ∀ k, blk L' = some k → blk L = some k ∨ (w.alloc ob).heap.size ≤ k) :
    MarkAt w0 p o t A c g L' lc' (lst ++ [x]) w2 := by
  have hk2 : Keep (fun k => blk L = some k) w w2 := ((Keep.refl (fun k => blk L = some k) w).alloc ob).trans hk (fun _ _ e => e)
  have hs := h.keep.size
  refine ⟨h.ref.keep hk2 (fun e => ?_) (fun i hi e => ?_), ?_, fun k hk' => ?_, h.keep.trans hk2 (fun i hi e => ?_), h.lp, h.la, h.bes.trans (Beside.of_keep hk2 (Nat.lt_of_lt_of_le h.lp hs) (fun e => by have := h.new _ e; have := h.lp; omega))⟩
  · have := h.new _ e; have := h.lp; omega
  · have := h.new _ e; have := h.la _ hi; omega
  · simpa using hb
  · rcases hf k hk' with e | e
    · exact h.new k e
    · simp at e; omega
  · have := h.new _ e; omega

/-- The list is kept. -/
theorem MarkAt.done {w0 w : World} {p o : Nat} {t : Int} {A : Option Addr} {c : Nat} {g : List Int} {L : Option Addr} {lc : Nat} {lst : List Int} (h : MarkAt w0 p o t A c g L lc lst w) : RefAt (w.setCell ⟨p, o + 1, none⟩ (.slice L lst.length lc)) p o t L lc lst := by
  have kp : Keep (fun k => p = k) w (w.setCell ⟨p, o + 1, none⟩ (.slice L lst.length lc)) := Keep.setCell (S := fun k => p = k) (Keep.refl _ w) (p := ⟨p, o + 1, none⟩) (fun _ => rfl) _
  have hn : ∀ i, blk L = some i → ¬ p = i := fun i hi e => by have := h.new i hi; have := h.lp; omega
  exact ⟨(World.cell?_setCell_other w _ _ _ (by simp)).trans h.ref.c0, World.cell?_setCell_same w _ _ h.ref.c1, by simpa using h.ref.f0, by simpa using h.ref.f1, h.buf.keep kp hn, hn⟩

set_option maxRecDepth 100000 in
set_option maxHeartbeats 1600000 in
theorem ref_mark_not (p o : Nat) (t : Int) (A : Option Addr) (c : Nat) (g : List Int) (n : Int) (w : World) (h : RefAt w p o t A c g) (h0 : 0 ≤ t) (h1 : t ≤ 4611686018427387904) (hl : g.length ≤ 1000000) (hf : freshL t g n = false) :
    Calls Tryd.prog 32 #[.pointer (some ⟨p, o, none⟩), .int .i64 n] w fun e w' => e = .returned (.bool false) ∧ w = w' := by
  have HF := Lib.hid hf
  have HR := Lib.hid (ref_fresh p o t A c g n w h h0 h1 hl)
  clear h hf
  go_enter Tryd.func32, Tryd.ntmps32
  go_wp2_with fail
  refine HR.out.mono ?_
  rintro e w' ⟨rfl, rfl⟩
  rw [HF.out]
  go_wp2_with fail
  go_ret
  exact ⟨rfl, rfl⟩

/-- What Mark leaves. -/
def MarkedTo (p o : Nat) (t : Int) (g : List Int) (n : Int) (w : World) (e : Ending) (w' : World) : Prop :=
  e = .returned (.bool true) ∧ ∃ A' c', RefAt w' p o (max t n) A' c' (markL t g n) ∧ Keep (fun k => p = k) w w' ∧ ∀ k, blk A' = some k → w.heap.size ≤ k

/-- And the cells beside the window stay. -/
def MarkedIn (p o : Nat) (t : Int) (g : List Int) (n : Int) (w : World) (e : Ending) (w' : World) : Prop :=
  e = .returned (.bool true) ∧ ∃ A' c', RefAt w' p o (max t n) A' c' (markL t g n) ∧ Keep (fun k => p = k) w w' ∧ (∀ k, blk A' = some k → w.heap.size ≤ k) ∧ Beside p o w w'

set_option maxRecDepth 100000 in
set_option maxHeartbeats 3200000 in
theorem ref_mark_in (p o : Nat) (t : Int) (A : Option Addr) (c : Nat) (g : List Int) (n : Int) (w : World) (h : RefAt w p o t A c g) (hg : GotOk t g) (hl : g.length ≤ 1000000) (hf : freshL t g n = true) :
    Calls Tryd.prog 32 #[.pointer (some ⟨p, o, none⟩), .int .i64 n] w (MarkedIn p o t g n w) := by
  obtain ⟨i0, hi0, hz0, hz1, hz2⟩ := info_parts int_info
  have HI0 := Lib.hid hi0
  have HI1 := Lib.hid hz0
  have HI2 := Lib.hid hz1
  have HI3 := Lib.hid hz2
  clear hi0 hz0 hz1 hz2
  have hok := mark_ok hg hf
  have h0 := hg.lo
  have h1 := hg.hi
  have m0 := hok.lo
  have m1 := hok.hi
  have HF := Lib.hid hf
  have HR := Lib.hid (ref_fresh p o t A c g n w h h0 h1 hl)
  have H := Lib.hid h
  have c0 := h.c0
  have c1 := h.c1
  have f0 := h.f0
  clear h hf hok hg
  go_enter Tryd.func32, Tryd.ntmps32
  go_wp2_with fail
  refine HR.out.mono ?_
  rintro e w' ⟨rfl, rfl⟩
  rw [HF.out]
  go_wp2_with fail
  obtain ⟨T, hT⟩ : ∃ T, T = max t n := ⟨_, rfl⟩
  rw [← hT] at m0 m1 ⊢
  have HT := Lib.hid hT
  clear hT
  have M0 : Hid (MarkAt w p o T A c g none 0 [] (w.setCell ⟨p, o, none⟩ (.int .i64 T))) := by
    have h := H.out
    have kp : Keep (fun k => p = k) w (w.setCell ⟨p, o, none⟩ (.int .i64 T)) := Keep.setCell (S := fun k => p = k) (Keep.refl _ w) (p := ⟨p, o, none⟩) (fun _ => rfl) _
    exact Lib.hid ⟨⟨World.cell?_setCell_same w _ _ h.c0, (World.cell?_setCell_other w _ _ _ (by simp)).trans h.c1, by simpa using h.f0, by simpa using h.f1, h.buf.keep kp (fun i hi e => h.ne i hi e), h.ne⟩,
      Buf.nil _, fun k hk => by simp [blk] at hk, kp, h.lt, fun k hk => h.buf.lt hk, Beside.set w o (.inl rfl) _⟩
  clear c0 c1 f0 HR
  go_loopw [5, 6] (fun l i wr => ∃ (k : Nat) (L : Option Addr) (lc : Nat), i = .int .i64 k ∧ k ≤ g.length ∧ l = .slice L (leftL T g k).length lc ∧ Hid (MarkAt w p o T A c g L lc (leftL T g k) wr)) (fun _ i _ => g.length - (intOf i).toNat)
  case atStart => exact ⟨0, none, 0, rfl, by omega, rfl, M0⟩
  case round =>
    obtain ⟨k, L, lc, rfl, hk, rfl, HM⟩ := hrel
    clear M0
    have c0 := HM.out.ref.c0
    have c1 := HM.out.ref.c1
    have hll := leftL_len T g k
    by_cases hlt : k < g.length
    · obtain ⟨x, b, off, hx, rfl, rx, hpb, hbl⟩ := HM.out.ref.at hlt
      have HX := Lib.hid hx
      have i1 : IntKind.i64.wrap (T - 64) = T - 64 := IntWalk.i64_in _ (by omega)
      clear hx
      by_cases hxt : T - 64 < x
      · have hd : decide (T - 64 < x) = true := by simpa using hxt
        go_wp2_with fail
        go_quiet (fail)
        clear i1
        have NL := Lib.hid (leftL_yes HX.out hxt)
        go_wp2_with (at_builtin; refine wpList_append_buf _ rfl (.tmp 42) (.tmp 50) 41 rfl 3 i0 (.int .i64 0) 8 Tryd.underlying41 HI0.out HI1.out HI2.out HI3.out rfl rfl ((HM.out.drewN _).buf.keep ((Keep.refl (fun _ => False) _).alloc _) (fun _ _ x => x)) [.int .i64 x] rfl (src_one _ _ _ (by simp)) (by intro u hu; simp at hu; subst hu; rfl) (by unfold maxLen; omega) (by omega) ?_)
        intro L' lc' w2 hb hk2 hf
        have HM2 : Hid (MarkAt w p o T _ c g L' lc' (leftL T g k ++ [x]) w2) := Lib.hid ((HM.out.drewN _).more hb hk2 (fun k hk => (hf k hk).imp_right (fun h => by first | exact h | (simp; omega))))
        have HLE : Hid ((leftL T g k).length + 1 = (leftL T g (k + 1)).length) := Lib.hid (by rw [NL.out]; simp)
        clear hb hk2 hf
        go_wp2_with fail
        go_roundw
        case rel => exact ⟨k + 1, L', lc', by go_num, by omega, by rw [← HLE.out], by rw [NL.out]; exact HM2⟩
        case measure => simp [intOf]; omega
      · have hd : decide (T - 64 < x) = false := by simpa using hxt
        have NL := Lib.hid (leftL_no HX.out hxt)
        go_wp2_with fail
        go_quiet (fail)
        clear i1
        go_wp2_with fail
        go_roundw
        case rel => exact ⟨k + 1, L, lc, by go_num, by omega, by rw [NL.out], by rw [NL.out]; exact Lib.hid (HM.out.drewN _)⟩
        case measure => simp [intOf]; omega
    · have hm : Hid (leftL T g k ++ [n] = markL t g n) := Lib.hid (by
        unfold leftL markL
        rw [List.take_of_length_le (by omega), HT.out])
      have f1 := HM.out.ref.f1
      go_wp2_with (at_builtin; refine wpList_append_buf _ rfl (.tmp 53) (.tmp 55) 41 rfl 3 i0 (.int .i64 0) 8 Tryd.underlying41 HI0.out HI1.out HI2.out HI3.out rfl rfl (HM.out.buf.keep ((Keep.refl (fun _ => False) _).alloc _) (fun _ _ x => x)) [.int .i64 n] rfl (src_one _ _ _ (by simp)) (by intro u hu; simp at hu; subst hu; rfl) (by unfold maxLen; omega) (by omega) ?_)
      intro L' lc' w2 hb hk2 hf
      have HM2 : Hid (MarkAt w p o T A c g L' lc' (leftL T g k ++ [n]) w2) := Lib.hid (HM.out.more hb hk2 (fun k hk => (hf k hk).imp_right (fun h => by first | exact h | (simp; omega))))
      have HLE : Hid ((leftL T g k).length + 1 = (leftL T g k ++ [n]).length) := Lib.hid (by simp)
      have e1 := HM2.out.ref.c1
      have e2 := HM2.out.ref.f1
      clear hb hk2 hf c0 c1 f1
      go_wp2_with fail
      go_ret
      refine ⟨rfl, L', lc', ?_, ?_, HM2.out.new, HM2.out.bes.trans (Beside.set w2 (o + 1) (.inr rfl) _)⟩
      · rw [← hm.out, ← HT.out, HLE.out]
        exact HM2.out.done
      · exact HM2.out.keep.trans (Keep.setCell (S := fun k => p = k) (Keep.refl _ w2) (p := ⟨p, o + 1, none⟩) (fun _ => rfl) _) (fun _ _ e => e)

theorem ref_mark_yes (p o : Nat) (t : Int) (A : Option Addr) (c : Nat) (g : List Int) (n : Int) (w : World) (h : RefAt w p o t A c g) (hg : GotOk t g) (hl : g.length ≤ 1000000) (hf : freshL t g n = true) :
    Calls Tryd.prog 32 #[.pointer (some ⟨p, o, none⟩), .int .i64 n] w (MarkedTo p o t g n w) :=
  (ref_mark_in p o t A c g n w h hg hl hf).mono fun e w' ⟨h1, A', c', h2, h3, h4, _⟩ => ⟨h1, A', c', h2, h3, h4⟩

end Go.Proofs.YtncpjapfkcgjnaaDoor
