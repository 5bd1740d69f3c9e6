/- Plain mathematics of chapter 1: a number's bytes, and what is read off bytes. Own work; it speaks of no program. A reader: codec.On, fail. Own work. codec.number. Own work. In.Num. Own work. In.Raw. Own work. In.Byte. Own work. In.Left. Own work. In.End. Own work. A writer: fail, open. Own work. Out.num. Own work. Out.Num. Own work. Out.Byte. Own work. Out.raw. Own work. Out.Raw. Own work. Out.End. Own work. -/
import Derived.Test.YtgomnigchfmfhaaBase
import Derived.Test.YtgomnigchfmfhaaChecked
import Derived.Lib.BufferRead
import Derived.Deep.QuietTactic
import Derived.BigQuiet
set_option linter.unusedVariables false
set_option linter.unusedSimpArgs false
namespace Go.Proofs.Ytgomnigchfmfhaa
set_option linter.unusedVariables false

/-- A number's bytes. -/
def enc (n : Nat) : List UInt8 := if n < 128 then [UInt8.ofNat n] else UInt8.ofNat (n % 128 + 128) :: enc (n / 128)
termination_by n
decreasing_by omega

theorem enc_small {n : Nat} (h : n < 128) : enc n = [UInt8.ofNat n] := by rw [enc, if_pos h]
theorem enc_big {n : Nat} (h : 128 ≤ n) : enc n = UInt8.ofNat (n % 128 + 128) :: enc (n / 128) := by rw [enc, if_neg (by omega)]

theorem enc_pos (n : Nat) : 0 < (enc n).length := by
  by_cases h : n < 128
  · rw [enc_small h]; simp
  · rw [enc_big (by omega)]; simp

theorem enc_length (j : Nat) : ∀ n, n < 128 ^ (j + 1) → (enc n).length ≤ j + 1 := by
  induction j with
  | zero => intro n h; rw [enc_small (by simpa using h)]; simp
  | succ j ih =>
    intro n h
    by_cases h1 : n < 128
    · rw [enc_small h1]; simp
    · rw [enc_big (by omega)]
      have := ih (n / 128) (by rw [Nat.pow_succ] at h; omega)
      simp; omega

theorem enc_le (n : Nat) (h : n < 9223372036854775808) : (enc n).length ≤ 9 := enc_length 8 n (by omega)

theorem enc_lower (j : Nat) : ∀ n, 128 ^ j ≤ n → j < (enc n).length := by
  induction j with
  | zero => intro n _; exact enc_pos n
  | succ j ih =>
    intro n h
    have h0 : 128 ≤ n := Nat.le_trans (by rw [Nat.pow_succ]; have : 0 < 128 ^ j := Nat.pow_pos (by omega); omega) h
    rw [enc_big h0]
    have := ih (n / 128) (by rw [Nat.pow_succ] at h; omega)
    simp; omega

/-- What bytes say from byte k on, with m so far: the number, how many bytes, the error. -/
def dec : Nat → Nat → List UInt8 → Nat × Nat × Int
  | _, _, [] => (0, 0, 2)
  | k, m, b :: r =>
    if k = 9 then (0, 0, 3)
    else if 128 ≤ b.toNat then dec (k + 1) (m + b.toNat % 128 * 128 ^ k) r
    else if b.toNat = 0 ∧ 0 < k then (0, 0, 3)
    else (m + b.toNat % 128 * 128 ^ k, k + 1, 0)

theorem dec_nil (k m : Nat) : dec k m [] = (0, 0, 2) := rfl
theorem dec_nine (m : Nat) (b : UInt8) (r : List UInt8) : dec 9 m (b :: r) = (0, 0, 3) := by simp [dec]
theorem dec_on {k m : Nat} {b : UInt8} {r : List UInt8} (h9 : k ≠ 9) (hb : 128 ≤ b.toNat) : dec k m (b :: r) = dec (k + 1) (m + b.toNat % 128 * 128 ^ k) r := by
  rw [dec, if_neg h9, if_pos hb]
theorem dec_zero {k m : Nat} {b : UInt8} {r : List UInt8} (h9 : k ≠ 9) (hb : b.toNat = 0) (hk : 0 < k) : dec k m (b :: r) = (0, 0, 3) := by
  rw [dec, if_neg h9, if_neg (by omega), if_pos ⟨hb, hk⟩]
theorem dec_end {k m : Nat} {b : UInt8} {r : List UInt8} (h9 : k ≠ 9) (hb : b.toNat < 128) (hk : b.toNat = 0 → k = 0) : dec k m (b :: r) = (m + b.toNat % 128 * 128 ^ k, k + 1, 0) := by
  rw [dec, if_neg h9, if_neg (by omega), if_neg (by omega)]


/-- What was laid is read as it was. -/
theorem dec_enc (n : Nat) : ∀ (k m : Nat) (r : List UInt8), k + (enc n).length ≤ 9 → (n = 0 → k = 0) → dec k m (enc n ++ r) = (m + n * 128 ^ k, k + (enc n).length, 0) := by
  induction n using Nat.strongRecOn with
  | _ n ih =>
    intro k m r hk h0
    have hp := enc_pos n
    by_cases h : n < 128
    · rw [enc_small h]
      rw [enc_small h] at hk
      simp only [List.length_singleton] at hk
      have ht := toNat_ofNat (n := n) (by omega)
      rw [List.singleton_append, dec_end (by omega) (by rw [ht]; exact h) (by rw [ht]; exact h0), ht, Nat.mod_eq_of_lt h]
      rfl
    · rw [enc_big (by omega)]
      rw [enc_big (by omega)] at hk
      simp only [List.length_cons] at hk
      have ht := toNat_ofNat (n := n % 128 + 128) (by omega)
      rw [List.cons_append, dec_on (by omega) (by rw [ht]; omega), ht, ih (n / 128) (by omega) _ _ _ (by omega) (by omega)]
      have e1 : (n % 128 + 128) % 128 = n % 128 := by omega
      have e2 : n * 128 ^ k = (n % 128) * 128 ^ k + (n / 128) * 128 ^ (k + 1) := by
        have := Nat.div_add_mod n 128
        calc n * 128 ^ k = (128 * (n / 128) + n % 128) * 128 ^ k := by rw [this]
          _ = (n % 128) * 128 ^ k + (n / 128) * 128 ^ (k + 1) := by rw [Nat.add_mul, Nat.pow_succ, Nat.mul_comm 128 (n / 128), Nat.mul_assoc, Nat.mul_comm 128 (128 ^ k)]; omega
      rw [e1, e2, List.length_cons]
      simp only [Prod.mk.injEq, and_true]
      omega

theorem dec_enc0 (n : Nat) (r : List UInt8) (h : n < 9223372036854775808) : dec 0 0 (enc n ++ r) = (n, (enc n).length, 0) := by
  have := enc_le n h
  rw [dec_enc n 0 0 r (by omega) (fun _ => rfl)]
  simp

/-- What is cut off is too short. -/
theorem dec_cut (n : Nat) : ∀ (k m j : Nat), k + (enc n).length ≤ 9 → j < (enc n).length → dec k m ((enc n).take j) = (0, 0, 2) := by
  induction n using Nat.strongRecOn with
  | _ n ih =>
    intro k m j hk hj
    match j with
    | 0 => simp [dec_nil]
    | j + 1 =>
      by_cases h : n < 128
      · rw [enc_small h] at hj; simp at hj
      · rw [enc_big (by omega)] at hk hj ⊢
        simp only [List.length_cons] at hk hj
        have ht := toNat_ofNat (n := n % 128 + 128) (by omega)
        rw [List.take_succ_cons, dec_on (by omega) (by rw [ht]; omega)]
        exact ih (n / 128) (by omega) _ _ _ (by omega) (by omega)

/-- Bytes that all go on, and a 0 behind them: no number. -/
theorem dec_more (l : List UInt8) : ∀ (k m : Nat), k ≤ 9 → (∀ b ∈ l, 128 ≤ b.toNat) → 0 < k + l.length → dec k m (l ++ [0]) = (0, 0, 3) := by
  induction l with
  | nil =>
    intro k m h9 _ hk
    by_cases h : k = 9
    · subst h; exact dec_nine _ _ _
    · exact dec_zero h rfl (by simpa using hk)
  | cons b r ih =>
    intro k m h9 hb _
    by_cases h : k = 9
    · subst h; exact dec_nine _ _ _
    · rw [List.cons_append, dec_on h (hb b (by simp))]
      exact ih _ _ (by omega) (fun c hc => hb c (by simp [hc])) (by omega)

/-- How far a number's bytes reach: within what is there. -/
theorem dec_len (l : List UInt8) : ∀ (k m : Nat), (dec k m l).2.2 = 0 → (dec k m l).2.1 ≤ k + l.length := by
  induction l with
  | nil => intro k m h; simp [dec_nil] at h
  | cons b r ih =>
    intro k m h
    by_cases h9 : k = 9
    · subst h9; rw [dec_nine] at h; simp at h
    · by_cases hb : 128 ≤ b.toNat
      · rw [dec_on h9 hb] at h ⊢
        have := ih _ _ h
        simp; omega
      · by_cases hz : b.toNat = 0 ∧ 0 < k
        · rw [dec_zero h9 hz.1 hz.2] at h; simp at h
        · rw [dec_end h9 (by omega) (by omega)]
          simp

theorem dec_lt (l : List UInt8) : ∀ (k m : Nat), m < 128 ^ k → k ≤ 9 → (dec k m l).1 < 9223372036854775808 := by
  induction l with
  | nil => intro k m _ _; simp [dec_nil]
  | cons b r ih =>
    intro k m hm hk
    by_cases h9 : k = 9
    · subst h9; rw [dec_nine]; simp
    · have hlt : m + b.toNat % 128 * 128 ^ k < 128 ^ (k + 1) := by
        have h1 : b.toNat % 128 ≤ 127 := by omega
        have h2 := Nat.mul_le_mul_right (128 ^ k) h1
        rw [Nat.pow_succ]; omega
      by_cases hb : 128 ≤ b.toNat
      · rw [dec_on h9 hb]
        exact ih _ _ hlt (by omega)
      · by_cases hz : b.toNat = 0 ∧ 0 < k
        · rw [dec_zero h9 hz.1 hz.2]; simp
        · rw [dec_end h9 (by omega) (by omega)]
          have h3 : 128 ^ (k + 1) ≤ 128 ^ 9 := Nat.pow_le_pow_right (by omega) (by omega)
          show _ < _
          simp only
          omega

theorem dec_err (l : List UInt8) : ∀ (k m : Nat), (dec k m l).2.2 = 0 ∨ (dec k m l).2.2 = 2 ∨ (dec k m l).2.2 = 3 := by
  induction l with
  | nil => intro k m; simp [dec_nil]
  | cons b r ih =>
    intro k m
    by_cases h9 : k = 9
    · subst h9; rw [dec_nine]; simp
    · by_cases hb : 128 ≤ b.toNat
      · rw [dec_on h9 hb]; exact ih _ _
      · by_cases hz : b.toNat = 0 ∧ 0 < k
        · rw [dec_zero h9 hz.1 hz.2]; simp
        · rw [dec_end h9 (by omega) (by omega)]; simp

end Go.Proofs.Ytgomnigchfmfhaa
namespace Go.Proofs.Ytgomnigchfmfhaa
set_option linter.unusedVariables false
set_option linter.unusedSimpArgs false
open Go.RowKit

/-- A reader behind a pointer: what is left, the error; On made it. -/
def InAt (w : World) (p : Nat) (s : ByteArray) (e : Int) : Prop := w.heap[p]? = some (.cells #[.string s, .int .i64 e, .bool true] 97 (0, 0))

theorem InAt.lt {w : World} {p : Nat} {s : ByteArray} {e : Int} (h : InAt w p s e) : p < w.heap.size := lt_heap h

theorem InAt.c0 {w : World} {p : Nat} {s : ByteArray} {e : Int} (h : InAt w p s e) : w.cell? ⟨p, 0, none⟩ = some (.string s) := cell_at h 0

theorem InAt.c1 {w : World} {p : Nat} {s : ByteArray} {e : Int} (h : InAt w p s e) : w.cell? ⟨p, 1, none⟩ = some (.int .i64 e) := cell_at h 1

theorem InAt.c2 {w : World} {p : Nat} {s : ByteArray} {e : Int} (h : InAt w p s e) : w.cell? ⟨p, 2, none⟩ = some (.bool true) := cell_at h 2

theorem InAt.fr {w : World} {p : Nat} {s : ByteArray} {e : Int} (h : InAt w p s e) (i : Nat) : w.frozen? ⟨p, i, none⟩ = false := free_at h i

theorem InAt.keep {S : Nat → Prop} {w w' : World} {p : Nat} {s : ByteArray} {e : Int} (h : InAt w p s e) (k : Keep S w w') (hn : ¬ S p) : InAt w' p s e := k.heap h hn

theorem InAt.set0 {w : World} {p : Nat} {s : ByteArray} {e : Int} (h : InAt w p s e) (t : ByteArray) : InAt (w.setCell ⟨p, 0, none⟩ (.string t)) p t e := heap_set h 0 _

theorem InAt.set1 {w : World} {p : Nat} {s : ByteArray} {e : Int} (h : InAt w p s e) (f : Int) : InAt (w.setCell ⟨p, 1, none⟩ (.int .i64 f)) p s f := heap_set h 1 _

set_option maxHeartbeats 400000 in
/-- On: a new reader. -/
theorem on_any (s : ByteArray) (w : World) :
    Calls Try.prog 61 #[.string s] w fun e w' => e = .returned (.pointer (some ⟨w.heap.size, 0, none⟩)) ∧ InAt w' w.heap.size s 0 ∧ Below w.heap.size w w' := by
  go_enter Try.func61, Try.ntmps61
  go_wp2
  go_ret
  exact ⟨rfl, heap_alloc_new w _, (Below.refl _ _).alloc (Nat.le_refl _) _⟩

set_option maxHeartbeats 400000 in
/-- fail: the first error. -/
theorem infail_any (p : Nat) (s : ByteArray) (e f : Int) (w : World) (h : InAt w p s e) :
    Calls Try.prog 69 #[.pointer (some ⟨p, 0, none⟩), .int .i64 f] w fun r w' => r = .returned (.tuple #[]) ∧ InAt w' p .empty f ∧ Keep (· = p) w w' := by
  have c0 := h.c0
  have c1 := h.c1
  have f0 := h.fr 0
  have f1 := h.fr 1
  have fin : InAt ((w.setCell ⟨p, 0, none⟩ (.string .empty)).setCell ⟨p, 1, none⟩ (.int .i64 f)) p .empty f ∧ Keep (· = p) w ((w.setCell ⟨p, 0, none⟩ (.string .empty)).setCell ⟨p, 1, none⟩ (.int .i64 f)) :=
    ⟨(h.set0 _).set1 _, (keep_set w p 0 _).setCell (fun _ => rfl) _⟩
  have fin := Lib.hid fin
  go_enter Try.func69, Try.ntmps69
  go_wp2
  go_end0
  exact ⟨rfl, fin.out⟩

end Go.Proofs.Ytgomnigchfmfhaa
namespace Go.Proofs.Ytgomnigchfmfhaa
set_option linter.unusedVariables false
set_option linter.unusedSimpArgs false
open Go.RowKit

theorem pow128 (k : Nat) : 128 ^ k = 2 ^ (k * 7) := by rw [Nat.mul_comm, Nat.pow_mul]

/-- The step of the sum, as the walk spells it. -/
theorem or_step (k n b : Nat) (hk : k < 9) (hn : n < 128 ^ k) : bits BinOp.or IntKind.i64 (n : Int) (wrap64 ((b : Int) % 128 * 2 ^ (k * 7))) = ((n + b % 128 * 128 ^ k : Nat) : Int) := by
  have h1 : b % 128 * 128 ^ k ≤ 127 * 128 ^ k := Nat.mul_le_mul_right _ (by omega)
  have h2 : 128 ^ k ≤ 128 ^ 8 := Nat.pow_le_pow_right (by omega) (by omega)
  have e : ((b : Int) % 128 * 2 ^ (k * 7)) = ((b % 128 * 128 ^ k : Nat) : Int) := by
    rw [pow128]; simp
  rw [e, IntWalk.wrap64_in _ ⟨by omega, by omega⟩, i64_or_nat _ _ (by omega) (by omega)]
  congr 1
  rw [Nat.or_comm, nat_join (k * 7) _ _ (by rw [pow128]; exact Nat.mul_mod_left _ _) (by rw [← pow128]; exact hn), Nat.add_comm]

theorem step_lt (k n b : Nat) (hn : n < 128 ^ k) : n + b % 128 * 128 ^ k < 128 ^ (k + 1) := by
  have h1 : b % 128 * 128 ^ k ≤ 127 * 128 ^ k := Nat.mul_le_mul_right _ (by omega)
  rw [Nat.pow_succ]; omega

theorem ret3 {a b c a' b' c' : Int} (h1 : a = a') (h2 : b = b') (h3 : c = c') : Ending.returned (.tuple #[.int .i64 a, .int .i64 b, .int .i64 c]) = .returned (.tuple #[.int .i64 a', .int .i64 b', .int .i64 c']) := by
  rw [h1, h2, h3]

set_option maxRecDepth 100000 in
set_option maxHeartbeats 400000 in
/-- number: what bytes say. -/
theorem number_any (s : ByteArray) (w : World) (hs : s.size ≤ maxLen) :
    Calls Try.prog 68 #[.string s] w fun e w' => e = .returned (.tuple #[.int .i64 (dec 0 0 s.data.toList).1, .int .i64 (dec 0 0 s.data.toList).2.1, .int .i64 (dec 0 0 s.data.toList).2.2]) ∧ w = w' := by
  unfold maxLen at hs
  go_enter Try.func68, Try.ntmps68
  go_wp2
  go_loop [5, 9] (fun m i => ∃ k n : Nat, k ≤ s.size ∧ k ≤ 9 ∧ n < 128 ^ k ∧ i = .int .i64 k ∧ m = .int .i64 n ∧ Hid (dec k n (s.data.toList.drop k) = dec 0 0 s.data.toList))
    (fun _ i => s.size - (intOf i).toNat)
  case atStart => exact ⟨0, 0, by omega, by omega, by simp, rfl, rfl, rfl⟩
  case round =>
    obtain ⟨k, n, hk, h9, hn, rfl, rfl, hd⟩ := hrel
    by_cases hlt : k < s.size
    · have H1 := Lib.hid (drop_at s k hlt)
      by_cases hk9 : k = 9
      · subst hk9
        go_wp2
        go_ret3
        have hd := hd.out
        rw [H1.out, dec_nine] at hd
        rw [← hd]
        exact ⟨rfl, rfl⟩
      · have H2 := Lib.hid (or_step k n s[k].toNat (by omega) hn)
        have H3 := Lib.hid (step_lt k n s[k].toNat hn)
        go_wp2
        · go_round
          case rel =>
            have hb : 128 ≤ s[k].toNat := by omega
            refine ⟨k + 1, _, by omega, by omega, H3.out, by go_num, congrArg _ H2.out, ?_⟩
            have hd := hd.out
            rw [H1.out, dec_on hk9 hb] at hd
            exact hd
          case measure => simp [intOf]; omega
        · go_ret3
          have hd := hd.out
          rw [H1.out, dec_zero hk9 (by assumption) (by assumption)] at hd
          rw [← hd]
          exact ⟨rfl, rfl⟩
        · go_ret3
          have hd := hd.out
          rw [H1.out, dec_end hk9 (by omega) (by omega)] at hd
          rw [← hd]
          have hz : s[k].toNat = 0 := by assumption
          have h2 := H2.out
          rw [hz] at h2 ⊢
          exact ⟨ret3 (by simpa using h2) (by simp) rfl, rfl⟩
        · go_ret3
          have hd := hd.out
          rw [H1.out, dec_end hk9 (by omega) (by omega)] at hd
          rw [← hd]
          exact ⟨ret3 H2.out (by simp) rfl, rfl⟩
    · go_wp2
      go_ret3
      have hd := hd.out
      rw [List.drop_of_length_le (by simp; omega), dec_nil] at hd
      rw [← hd]
      exact ⟨rfl, rfl⟩

end Go.Proofs.Ytgomnigchfmfhaa
namespace Go.Proofs.Ytgomnigchfmfhaa
set_option linter.unusedVariables false
set_option linter.unusedSimpArgs false
open Go.RowKit

/-- What Num reads. -/
def numS (s : ByteArray) (e : Int) : Int × ByteArray × Int :=
  if e = 0 then
    if (dec 0 0 s.data.toList).2.2 = 0 then ((dec 0 0 s.data.toList).1, s.extract (dec 0 0 s.data.toList).2.1 s.size, 0) else (0, .empty, (dec 0 0 s.data.toList).2.2)
  else (0, s, e)

set_option maxRecDepth 100000 in
set_option maxHeartbeats 400000 in
theorem innum_bad (p : Nat) (s : ByteArray) (e : Int) (w : World) (h : InAt w p s e) (he : e ≠ 0) :
    Calls Try.prog 62 #[.pointer (some ⟨p, 0, none⟩)] w fun r w' => r = .returned (.int .i64 0) ∧ w = w' := by
  have c0 := h.c0
  have c1 := h.c1
  have c2 := h.c2
  have h1 : (e == 0) = false := by simpa using he
  go_enter Try.func62, Try.ntmps62
  go_wp2
  go_ret
  exact ⟨rfl, rfl⟩

set_option maxRecDepth 100000 in
set_option maxHeartbeats 400000 in
theorem innum_ok (p : Nat) (s : ByteArray) (w : World) (h : InAt w p s 0) (hs : s.size ≤ maxLen) :
    Calls Try.prog 62 #[.pointer (some ⟨p, 0, none⟩)] w fun r w' => r = .returned (.int .i64 (numS s 0).1) ∧ InAt w' p (numS s 0).2.1 (numS s 0).2.2 ∧ Keep (· = p) w w' := by
  have c0 := h.c0
  have c1 := h.c1
  have c2 := h.c2
  have f0 := h.fr 0
  obtain ⟨n, k, f, hd⟩ : ∃ n k f, dec 0 0 s.data.toList = (n, k, f) := ⟨_, _, _, rfl⟩
  have hk : f = 0 → k ≤ s.size := fun hf => by have := dec_len s.data.toList 0 0 (by rw [hd]; exact hf); rw [hd] at this; simpa using this
  have hnum := number_any s w hs
  rw [hd] at hnum
  have hz : numS s 0 = if f = 0 then ((n : Int), s.extract k s.size, 0) else (0, .empty, f) := by simp [numS, hd]
  rw [hz]
  clear hd hz
  have HN := Lib.hid hnum
  clear hnum
  unfold maxLen at hs
  have HI := Lib.hid h
  by_cases hf : f = 0
  · subst hf
    have hk := hk rfl
    rw [if_pos rfl]
    have fin := Lib.hid (And.intro (h.set0 (s.extract k s.size)) (keep_set w p 0 (.string (s.extract k s.size))))
    clear h
    go_enter Try.func62, Try.ntmps62
    go_wp2_with (first | (go_at_call 68; refine HN.out.mono ?_; rintro e w1 ⟨rfl, rfl⟩) | go_in)
    go_ret
    exact ⟨rfl, fin.out⟩
  · rw [if_neg hf]
    have hf1 : (f != 0) = true := by simpa using hf
    clear h
    go_enter Try.func62, Try.ntmps62
    go_wp2_with (first | (go_at_call 68; refine HN.out.mono ?_; rintro e w1 ⟨rfl, rfl⟩) | (go_at_call 69; refine (infail_any p s 0 f _ HI.out).mono ?_; rintro e w1 ⟨rfl, hi, hkp⟩) | go_in)
    go_ret
    exact ⟨rfl, hi, hkp⟩

theorem innum_any (p : Nat) (s : ByteArray) (e : Int) (w : World) (h : InAt w p s e) (hs : s.size ≤ maxLen) :
    Calls Try.prog 62 #[.pointer (some ⟨p, 0, none⟩)] w fun r w' => r = .returned (.int .i64 (numS s e).1) ∧ InAt w' p (numS s e).2.1 (numS s e).2.2 ∧ Keep (· = p) w w' := by
  by_cases he : e = 0
  · subst he; exact innum_ok p s w h hs
  · refine (innum_bad p s e w h he).mono fun r w' ⟨hr, hw⟩ => ?_
    subst hw
    rw [show numS s e = (0, s, e) from if_neg he]
    exact ⟨hr, h, Keep.refl _ _⟩

theorem numS_size (s : ByteArray) (e : Int) : (numS s e).2.1.size ≤ s.size := by
  unfold numS
  split
  · split
    · simp
    · simp
  · simp

end Go.Proofs.Ytgomnigchfmfhaa
namespace Go.Proofs.Ytgomnigchfmfhaa
set_option linter.unusedVariables false
set_option linter.unusedSimpArgs false
open Go.RowKit

/-- What Raw reads. -/
def rawS (s : ByteArray) (e n : Int) : ByteArray × ByteArray × Int :=
  if e = 0 then
    if n < 0 then (.empty, .empty, 1) else if s.size < n then (.empty, .empty, 2) else (s.extract 0 n.toNat, s.extract n.toNat s.size, 0)
  else (.empty, s, e)

set_option maxRecDepth 100000 in
set_option maxHeartbeats 400000 in
theorem inraw_bad (p : Nat) (s : ByteArray) (e n : Int) (w : World) (h : InAt w p s e) (he : e ≠ 0) :
    Calls Try.prog 70 #[.pointer (some ⟨p, 0, none⟩), .int .i64 n] w fun r w' => r = .returned (.string .empty) ∧ w = w' := by
  have c0 := h.c0
  have c1 := h.c1
  have c2 := h.c2
  have h1 : (e == 0) = false := by simpa using he
  go_enter Try.func70, Try.ntmps70
  go_wp2
  go_ret
  exact ⟨rfl, rfl⟩

set_option maxRecDepth 100000 in
set_option maxHeartbeats 400000 in
theorem inraw_neg (p : Nat) (s : ByteArray) (n : Int) (w : World) (h : InAt w p s 0) (hn : n < 0) :
    Calls Try.prog 70 #[.pointer (some ⟨p, 0, none⟩), .int .i64 n] w fun r w' => r = .returned (.string .empty) ∧ InAt w' p .empty 1 ∧ Keep (· = p) w w' := by
  have c0 := h.c0
  have c1 := h.c1
  have c2 := h.c2
  have HI := Lib.hid h
  clear h
  go_enter Try.func70, Try.ntmps70
  go_wp2_with (first | (go_at_call 69; refine (infail_any p s 0 1 _ HI.out).mono ?_; rintro e w1 ⟨rfl, hi, hkp⟩) | go_in)
  go_ret
  exact ⟨rfl, hi, hkp⟩

set_option maxRecDepth 100000 in
set_option maxHeartbeats 400000 in
theorem inraw_short (p : Nat) (s : ByteArray) (n : Int) (w : World) (h : InAt w p s 0) (hn : 0 ≤ n) (hs : s.size ≤ maxLen) (hl : s.size < n) :
    Calls Try.prog 70 #[.pointer (some ⟨p, 0, none⟩), .int .i64 n] w fun r w' => r = .returned (.string .empty) ∧ InAt w' p .empty 2 ∧ Keep (· = p) w w' := by
  have c0 := h.c0
  have c1 := h.c1
  have c2 := h.c2
  have HI := Lib.hid h
  clear h
  unfold maxLen at hs
  go_enter Try.func70, Try.ntmps70
  go_wp2_with (first | (go_at_call 69; refine (infail_any p s 0 2 _ HI.out).mono ?_; rintro e w1 ⟨rfl, hi, hkp⟩) | go_in)
  go_ret
  exact ⟨rfl, hi, hkp⟩

set_option maxRecDepth 100000 in
set_option maxHeartbeats 400000 in
theorem inraw_ok (p : Nat) (s : ByteArray) (n : Nat) (w : World) (h : InAt w p s 0) (hs : s.size ≤ 281474976710656) (hl : n ≤ s.size) :
    Calls Try.prog 70 #[.pointer (some ⟨p, 0, none⟩), .int .i64 n] w fun r w' => r = .returned (.string (s.extract 0 n)) ∧ InAt w' p (s.extract n s.size) 0 ∧ Keep (· = p) w w' := by
  have c0 := h.c0
  have c1 := h.c1
  have c2 := h.c2
  have HI := Lib.hid h
  have hlt := h.lt
  clear h
  have hsz : (s.extract 0 n).size ≤ 281474976710656 := by simp; omega
  go_enter Try.func70, Try.ntmps70
  go_wp2_with (first | (go_at_call 73; refine (clone_any _ _ hsz).mono ?_; rintro e w1 ⟨rfl, hb⟩; have d0 := (hb.cell (p := ⟨p, 0, none⟩) hlt).trans c0; have d1 := (hb.frozen (p := ⟨p, 0, none⟩) hlt).trans (HI.out.fr 0)) | go_in)
  go_ret
  have h1 : InAt w1 p s 0 := (hb.block p hlt).trans HI.out
  exact ⟨rfl, h1.set0 _, (Keep.of_below _ hb).own _ _⟩

theorem inraw_any (p : Nat) (s : ByteArray) (e n : Int) (w : World) (h : InAt w p s e) (hs : s.size ≤ 281474976710656) :
    Calls Try.prog 70 #[.pointer (some ⟨p, 0, none⟩), .int .i64 n] w fun r w' => r = .returned (.string (rawS s e n).1) ∧ InAt w' p (rawS s e n).2.1 (rawS s e n).2.2 ∧ Keep (· = p) w w' := by
  by_cases he : e = 0
  · subst he
    by_cases hn : n < 0
    · rw [show rawS s 0 n = (.empty, .empty, 1) from by simp [rawS, hn]]
      exact inraw_neg p s n w h hn
    · by_cases hl : s.size < n
      · rw [show rawS s 0 n = (.empty, .empty, 2) from by simp [rawS, hn, hl]]
        exact inraw_short p s n w h (by omega) (by unfold maxLen; omega) hl
      · rw [show rawS s 0 n = (s.extract 0 n.toNat, s.extract n.toNat s.size, 0) from by simp [rawS, hn, hl]]
        obtain ⟨k, rfl⟩ := Int.eq_ofNat_of_zero_le (show 0 ≤ n from by omega)
        exact inraw_ok p s k w h hs (by omega)
  · refine (inraw_bad p s e n w h he).mono fun r w' ⟨hr, hw⟩ => ?_
    subst hw
    rw [show rawS s e n = (.empty, s, e) from if_neg he]
    exact ⟨hr, h, Keep.refl _ _⟩

end Go.Proofs.Ytgomnigchfmfhaa
namespace Go.Proofs.Ytgomnigchfmfhaa
set_option linter.unusedVariables false
set_option linter.unusedSimpArgs false
open Go.RowKit

/-- What Byte reads. -/
def byteS (s : ByteArray) (e : Int) : Int × ByteArray × Int := (((rawS s e 1).1.data.toList.headD 0).toNat, (rawS s e 1).2.1, (rawS s e 1).2.2)

set_option maxRecDepth 100000 in
set_option maxHeartbeats 400000 in
theorem inbyte_any (p : Nat) (s : ByteArray) (e : Int) (w : World) (h : InAt w p s e) (hs : s.size ≤ 281474976710656) :
    Calls Try.prog 63 #[.pointer (some ⟨p, 0, none⟩)] w fun r w' => r = .returned (.int .i64 (byteS s e).1) ∧ InAt w' p (byteS s e).2.1 (byteS s e).2.2 ∧ Keep (· = p) w w' := by
  have HI := Lib.hid h
  clear h
  go_enter Try.func63, Try.ntmps63
  go_wp2_with fail
  refine (inraw_any p s e 1 _ HI.out hs).mono ?_
  rintro r w1 ⟨rfl, hi, hk⟩
  have HI1 := Lib.hid hi
  have HK1 := Lib.hid hk
  clear hi hk
  have hb : (byteS s e).1 = (((rawS s e 1).1.data.toList.headD 0).toNat : Int) := rfl
  have HB := Lib.hid hb
  clear hb
  generalize (rawS s e 1).1 = x at *
  by_cases h0 : x.size = 0
  · have hx := is_empty h0
    subst hx
    go_wp2
    go_ret
    exact ⟨ret1 (by rw [HB.out]; rfl), HI1.out, HK1.out⟩
  · have h1 := not_empty h0
    have h2 : 0 < x.size := by omega
    have H3 := Lib.hid (head_at x h2)
    have h4 := x[0].toNat_lt
    clear h0
    go_wp2
    go_ret
    exact ⟨ret1 (by rw [HB.out, H3.out]), HI1.out, HK1.out⟩

end Go.Proofs.Ytgomnigchfmfhaa
namespace Go.Proofs.Ytgomnigchfmfhaa
set_option linter.unusedVariables false
set_option linter.unusedSimpArgs false
open Go.RowKit

set_option maxRecDepth 100000 in
set_option maxHeartbeats 400000 in
theorem inleft_any (p : Nat) (s : ByteArray) (e : Int) (w : World) (h : InAt w p s e) (_hs : s.size ≤ 281474976710656) :
    Calls Try.prog 72 #[.pointer (some ⟨p, 0, none⟩)] w fun r w' => r = .returned (.int .i64 s.size) ∧ w = w' := by
  have c0 := h.c0
  go_enter Try.func72, Try.ntmps72
  go_wp2
  go_ret
  exact ⟨rfl, rfl⟩

end Go.Proofs.Ytgomnigchfmfhaa
namespace Go.Proofs.Ytgomnigchfmfhaa
set_option linter.unusedVariables false
set_option linter.unusedSimpArgs false
open Go.RowKit

/-- What End tells. -/
def endS (s : ByteArray) (e : Int) : Int := if s.size = 0 then e else 3

set_option maxRecDepth 100000 in
set_option maxHeartbeats 400000 in
theorem inend_any (p : Nat) (s : ByteArray) (e : Int) (w : World) (h : InAt w p s e) (hs : s.size ≤ 281474976710656) :
    Calls Try.prog 74 #[.pointer (some ⟨p, 0, none⟩)] w fun r w' => r = .returned (.int .i64 (endS s e)) ∧ InAt w' p .empty (endS s e) ∧ Keep (· = p) w w' := by
  have c0 := h.c0
  have c1 := h.c1
  have c2 := h.c2
  have HI := Lib.hid h
  clear h
  by_cases h0 : s.size = 0
  · rw [show endS s e = e from if_pos h0]
    have he := is_empty h0
    subst he
    go_enter Try.func74, Try.ntmps74
    go_wp2_with go_in
    go_ret
    exact ⟨rfl, HI.out, Keep.refl _ _⟩
  · have h1 := not_empty h0
    rw [show endS s e = 3 from if_neg h0]
    go_enter Try.func74, Try.ntmps74
    go_wp2_with (first | (go_at_call 69; refine (infail_any p s e 3 _ HI.out).mono ?_; rintro e w1 ⟨rfl, hi, hkp⟩; have d1 := hi.c1) | go_in)
    go_ret
    exact ⟨rfl, hi, hkp⟩

end Go.Proofs.Ytgomnigchfmfhaa
namespace Go.Proofs.Ytgomnigchfmfhaa
set_option linter.unusedVariables false
set_option linter.unusedSimpArgs false
open Go.RowKit

/-- A writer behind a pointer: its row (at A, of capacity c), what was laid, the error. -/
def OutAt (w : World) (p : Nat) (A : Option Addr) (c : Nat) (l : List UInt8) (e : Int) : Prop :=
  w.heap[p]? = some (.cells #[.slice A l.length c, .int .i64 e] 48 (0, 0)) ∧ w.ownsRow 0 5 1 (.slice A l.length c) l.length (Lib.byteCells l)

/-- What a call on a writer turns: its block, its row, and what is new; its row is the old one, or new. -/
def OutStep (p : Nat) (A : Option Addr) (w : World) (A' : Option Addr) (w' : World) : Prop :=
  Keep (fun k => k = p ∨ blk A = some k) w w' ∧ ∀ k, blk A' = some k → blk A = some k ∨ w.heap.size ≤ k

theorem OutStep.refl (p : Nat) (A : Option Addr) (w : World) : OutStep p A w A w := ⟨Keep.refl _ _, fun _ h => .inl h⟩

theorem OutStep.trans {p : Nat} {A A1 A2 : Option Addr} {w w1 w2 : World} (h : OutStep p A w A1 w1) (k : OutStep p A1 w1 A2 w2) : OutStep p A w A2 w2 := by
  refine ⟨h.1.trans k.1 fun i hi hs => ?_, fun j hj => ?_⟩
  · rcases hs with hs | hs
    · exact .inl hs
    · rcases h.2 i hs with h2 | h2
      · exact .inr h2
      · omega
  · rcases k.2 j hj with h2 | h2
    · exact h.2 j h2
    · exact .inr (Nat.le_trans h.1.size h2)

namespace OutAt
variable {w w' : World} {p : Nat} {A : Option Addr} {c : Nat} {l : List UInt8} {e : Int}
theorem lt (h : OutAt w p A c l e) : p < w.heap.size := lt_heap h.1
theorem c0 (h : OutAt w p A c l e) : w.cell? ⟨p, 0, none⟩ = some (.slice A l.length c) := cell_at h.1 0
theorem c1 (h : OutAt w p A c l e) : w.cell? ⟨p, 1, none⟩ = some (.int .i64 e) := cell_at h.1 1
theorem fr (h : OutAt w p A c l e) (i : Nat) : w.frozen? ⟨p, i, none⟩ = false := free_at h.1 i
theorem ne (h : OutAt w p A c l e) : blk A ≠ some p := by
  have := own_ne h.2 h.1 (by decide)
  rwa [ownBlock_slice] at this
theorem row (h : OutAt w p A c l e) {k : Nat} (hk : blk A = some k) : k < w.heap.size := own_lt h.2 (by rw [ownBlock_slice]; exact hk)
theorem keep {S : Nat → Prop} (h : OutAt w p A c l e) (k : Keep S w w') (hn : ¬ S p) (hr : ∀ i, blk A = some i → ¬ S i) : OutAt w' p A c l e :=
  ⟨k.heap h.1 hn, own_keep h.2 k (by rw [ownBlock_slice]; exact hr)⟩
theorem alloc (h : OutAt w p A c l e) (o : Obj) : OutAt (w.alloc o) p A c l e := ⟨heap_alloc h.1 o, h.2.alloc o⟩
theorem drew (h : OutAt w p A c l e) : OutAt w.drew p A c l e := ⟨h.1, h.2.drew⟩
end OutAt

/-- A new writer. -/
theorem OutAt.new (w : World) : OutAt (w.alloc (.cells #[.slice none 0 0, .int .i64 0] 48)) w.heap.size none 0 [] 0 :=
  ⟨heap_alloc_new w _, World.ownsRow_nil _ _ _ _⟩

/-- Behind an append, and the store of its answer. -/
theorem out_store {w w1 : World} {p : Nat} {A : Option Addr} {c : Nat} {l : List UInt8} {e : Int} (h : OutAt w p A c l e) {A2 : Option Addr} {c2 : Nat} {l2 : List UInt8}
    (hown : w1.ownsRow 0 5 1 (.slice A2 l2.length c2) l2.length (Lib.byteCells l2)) (hk : Keep (fun k => blk A = some k) w w1) (hat : ∀ k, blk A2 = some k → blk A = some k ∨ w.heap.size ≤ k) :
    OutAt (w1.setCell ⟨p, 0, none⟩ (.slice A2 l2.length c2)) p A2 c2 l2 e ∧ OutStep p A w A2 (w1.setCell ⟨p, 0, none⟩ (.slice A2 l2.length c2)) := by
  have h1 := hk.heap h.1 h.ne
  have hne : (Value.slice A2 l2.length c2).ownBlock ≠ some p := own_ne hown h1 (by decide)
  refine ⟨⟨heap_set h1 0 _, ownsRow_setCell_other hown hne _⟩, ?_, hat⟩
  exact Keep.setCell (S := fun k => k = p ∨ blk A = some k) (hk.mono fun _ _ x => .inr x) (p := ⟨p, 0, none⟩) (fun _ => .inl rfl) _

/-- Behind an append of one byte. -/
theorem out_push {w w1 : World} {p : Nat} {A : Option Addr} {c : Nat} {l : List UInt8} {e : Int} (h : OutAt w p A c l e) {o : Obj} {b : UInt8} {x : Int} (hx : x = b.toNat) {A2 : Option Addr} {c2 : Nat}
    (hown : w1.ownsRow 0 5 1 (.slice A2 (l.length + 1) c2) (l.length + 1) (Lib.byteCells l ++ [.int .u8 x])) (hg : (w.alloc o).grownBy w1 (Value.slice A l.length c).ownBlock)
    (hat : (Value.slice A2 (l.length + 1) c2).ownBlock = (Value.slice A l.length c).ownBlock ∨ (Value.slice A2 (l.length + 1) c2).ownBlock = some (w.alloc o).heap.size) :
    OutAt (w1.setCell ⟨p, 0, none⟩ (.slice A2 (l.length + 1) c2)) p A2 c2 (l ++ [b]) e ∧ OutStep p A w A2 (w1.setCell ⟨p, 0, none⟩ (.slice A2 (l.length + 1) c2)) := by
  rw [ownBlock_slice] at hg
  rw [ownBlock_slice, ownBlock_slice] at hat
  have hl : l.length + 1 = (l ++ [b]).length := by simp
  rw [hx, ← byteCells_one, ← Lib.byteCells_append, hl] at hown
  rw [hl]
  refine out_store h hown (((Keep.refl (fun k => blk A = some k) w).alloc o).grown hg (fun k hk _ => hk)) (fun k hk => ?_)
  rcases hat with hat | hat
  · exact .inl (hat ▸ hk)
  · rw [hat] at hk
    right
    simp at hk
    omega

/-- The writer's block, behind an append. -/
theorem out_mid {w w1 : World} {p : Nat} {A : Option Addr} {c : Nat} {l : List UInt8} {e : Int} (h : OutAt w p A c l e) {o : Obj} (hg : (w.alloc o).grownBy w1 (Value.slice A l.length c).ownBlock) :
    w1.heap[p]? = some (.cells #[.slice A l.length c, .int .i64 e] 48 (0, 0)) := by
  have h1 := h.alloc o
  rw [ownBlock_slice] at hg
  exact (hg.block p h1.lt h1.ne.symm).trans h1.1

def rawO (l : List UInt8) (e : Int) (s : List UInt8) : List UInt8 × Int := if e = 0 then (l ++ s, 0) else (l, e)

/-- Behind a call on a writer. -/
def OutTo (p : Nat) (A : Option Addr) (w : World) (x : List UInt8 × Int) (w' : World) : Prop := ∃ A' c', OutAt w' p A' c' x.1 x.2 ∧ OutStep p A w A' w'

set_option maxHeartbeats 400000 in
/-- fail: what was laid goes. -/
theorem outfail_any (p : Nat) (A : Option Addr) (c : Nat) (l : List UInt8) (e : Int) (w : World) (h : OutAt w p A c l 0) :
    Calls Try.prog 48 #[.pointer (some ⟨p, 0, none⟩), .int .i64 e] w fun r w' => r = .returned (.tuple #[]) ∧ OutTo p A w ([], e) w' := by
  have c0 := h.c0
  have c1 := h.c1
  have f0 := h.fr 0
  have f1 := h.fr 1
  have fin : OutTo p A w ([], e) ((w.setCell ⟨p, 0, none⟩ (.slice none 0 0)).setCell ⟨p, 1, none⟩ (.int .i64 e)) :=
    ⟨none, 0, ⟨heap_set (heap_set h.1 0 _) 1 _, World.ownsRow_nil _ _ _ _⟩,
      (((Keep.refl (fun k => k = p ∨ blk A = some k) w).setCell (p := ⟨p, 0, none⟩) (fun _ => .inl rfl) _).setCell (p := ⟨p, 1, none⟩) (fun _ => .inl rfl) _), fun k hk => by simp [blk] at hk⟩
  have fin := Lib.hid fin
  clear h
  go_enter Try.func48, Try.ntmps48
  go_wp2_with go_in
  go_end0
  exact ⟨rfl, fin.out⟩

set_option maxHeartbeats 400000 in
theorem outopen_ok (p : Nat) (A : Option Addr) (c : Nat) (l : List UInt8) (w : World) (h : OutAt w p A c l 0) :
    Calls Try.prog 49 #[.pointer (some ⟨p, 0, none⟩)] w fun r w' => r = .returned (.bool true) ∧ w = w' := by
  have c1 := h.c1
  clear h
  go_enter Try.func49, Try.ntmps49
  go_wp2
  go_ret
  exact ⟨rfl, rfl⟩

set_option maxHeartbeats 400000 in
theorem outopen_bad (p : Nat) (A : Option Addr) (c : Nat) (l : List UInt8) (e : Int) (w : World) (h : OutAt w p A c l e) (he : e ≠ 0) :
    Calls Try.prog 49 #[.pointer (some ⟨p, 0, none⟩)] w fun r w' => r = .returned (.bool false) ∧ w = w' := by
  have c1 := h.c1
  clear h
  have h1 : (e == 0) = false := by simpa using he
  clear he
  go_enter Try.func49, Try.ntmps49
  go_wp2
  go_ret
  exact ⟨rfl, rfl⟩

set_option maxHeartbeats 400000 in
theorem outfail_bad (p : Nat) (A : Option Addr) (c : Nat) (l : List UInt8) (e f : Int) (w : World) (h : OutAt w p A c l e) (he : e ≠ 0) :
    Calls Try.prog 48 #[.pointer (some ⟨p, 0, none⟩), .int .i64 f] w fun r w' => r = .returned (.tuple #[]) ∧ w = w' := by
  have HI := Lib.hid h
  clear h
  go_enter Try.func48, Try.ntmps48
  go_wp2_with (go_at_call 49; refine (outopen_bad p A c l e _ HI.out he).mono ?_; rintro e w1 ⟨rfl, rfl⟩)
  go_end0
  exact ⟨rfl, rfl⟩

end Go.Proofs.Ytgomnigchfmfhaa
namespace Go.Proofs.Ytgomnigchfmfhaa
set_option linter.unusedVariables false
set_option linter.unusedSimpArgs false
open Go.RowKit

/-- What Num, Byte, Raw make of what was laid, and of the error. -/
def numO (l : List UInt8) (e n : Int) : List UInt8 × Int := if e = 0 then if n < 0 then ([], 1) else (l ++ enc n.toNat, 0) else (l, e)

set_option maxRecDepth 100000 in
set_option maxHeartbeats 800000 in
theorem outnum_ok (p : Nat) (A : Option Addr) (c : Nat) (l : List UInt8) (n : Nat) (w : World) (h : OutAt w p A c l 0) (hl : l.length ≤ 1099511627776) (hn : n < 9223372036854775808) :
    Calls Try.prog 47 #[.pointer (some ⟨p, 0, none⟩), .int .i64 n] w fun r w' => r = .returned (.tuple #[]) ∧ OutTo p A w (l ++ enc n, 0) w' := by
  have HI := Lib.hid h
  obtain ⟨i0, hi, hz0, hz1, hz2⟩ := info_parts byte_info
  clear h
  have hn' : (n : Int) ≤ 9223372036854775807 := by omega
  have hn0 : decide ((n : Int) < 0) = false := by simp
  have hlen := enc_le n hn
  go_enter Try.func47, Try.ntmps47
  go_wp2_with (go_at_call 49; refine (outopen_ok p A c l _ HI.out).mono ?_; rintro e w1 ⟨rfl, rfl⟩)
  go_loopw [1] (fun i wr => ∃ (m : Nat) (k : List UInt8) (A1 : Option Addr) (c1 : Nat), i = .int .i64 m ∧ m < 9223372036854775808 ∧ k.length ≤ 1099511627900 ∧ Hid (OutAt wr p A1 c1 k 0) ∧ Hid (OutStep p A w A1 wr) ∧ Hid (k ++ enc m = l ++ enc n))
    (fun i _ => (intOf i).toNat)
  case atStart => exact ⟨n, l, A, c, rfl, hn, by omega, HI, OutStep.refl _ _ _, rfl⟩
  case round =>
    obtain ⟨m, k, A1, cc, rfl, hm, hkl, H1, H2, H3⟩ := hrel
    have c0 := H1.out.c0
    have hown := Lib.hid H1.out.2
    have hcap := H3.out
    have hkl2 : k.length ≤ 1099511627785 := by
      have := congrArg List.length hcap
      have h1 := enc_pos m
      simp only [List.length_append] at this
      omega
    clear hcap hkl
    by_cases hlt : m < 128
    · go_wp2_with (at_builtin; refine wpList_append_own_at _ rfl (.tmp 32) (.tmp 35) 46 rfl 0 5 i0 (.int .u8 0) 1 1 Try.underlying46 hi hz0 hz1 hz2 rfl (by decide) (.slice A1 k.length cc) k.length (Lib.byteCells k) rfl (hown.out.alloc _) ⟨wr.heap.size, 0, none⟩ 1 1 _ rfl rfl (cell_one_new _ _ _) ?c2 ?c3 ?c4 ?c5 ?_)
      case c2 => intro u hu; simp at hu; subst hu; rfl
      case c3 => unfold maxLen; omega
      case c4 => omega
      case c5 => omega
      · intro v' w1 hown' hgrow _ hat
        obtain ⟨A2, c2, rfl, _⟩ := own_form hown'
        have hx := toNat_ofNat (n := m) (by omega)
        have HP := Lib.hid (out_push H1.out (b := UInt8.ofNat m) (by rw [hx]) hown' hgrow (by simpa using hat))
        have hm1 := out_mid H1.out hgrow
        have d0 := cell_at hm1 0
        have f0 := free_at hm1 0
        have H4 := Lib.hid hx
        clear hown' hgrow hat c0 hm1 hx
        go_wp2
        go_end0
        obtain ⟨q1, q2⟩ := HP.out
        have hfin := H3.out
        rw [enc_small hlt] at hfin
        exact ⟨rfl, A2, c2, by rw [← hfin]; exact q1, H2.out.trans q2⟩
    · go_wp2_with (at_builtin; refine wpList_append_own_at _ rfl (.tmp 19) (.tmp 24) 46 rfl 0 5 i0 (.int .u8 0) 1 1 Try.underlying46 hi hz0 hz1 hz2 rfl (by decide) (.slice A1 k.length cc) k.length (Lib.byteCells k) rfl (hown.out.alloc _) ⟨wr.heap.size, 0, none⟩ 1 1 _ rfl rfl (cell_one_new _ _ _) ?d2 ?d3 ?d4 ?d5 ?_)
      case d2 => intro u hu; simp at hu; subst hu; rfl
      case d3 => unfold maxLen; omega
      case d4 => omega
      case d5 => omega
      · intro v' w1 hown' hgrow _ hat
        obtain ⟨A2, c2, rfl, _⟩ := own_form hown'
        have hx := toNat_ofNat (n := m % 128 + 128) (by omega)
        have HP := Lib.hid (out_push H1.out (b := UInt8.ofNat (m % 128 + 128)) (by rw [hx]; omega) hown' hgrow (by simpa using hat))
        have hm1 := out_mid H1.out hgrow
        have d0 := cell_at hm1 0
        have f0 := free_at hm1 0
        have H4 := Lib.hid hx
        clear hown' hgrow hat c0 hm1 hx
        go_wp2

        go_roundw
        case rel =>
          obtain ⟨q1, q2⟩ := HP.out
          have hfin := H3.out
          rw [enc_big (by omega)] at hfin
          exact ⟨m / 128, _, A2, c2, by go_num, by omega, by simp; omega, q1, H2.out.trans q2, by show _ = _; rw [← hfin]; simp⟩
        case measure => simp [intOf]; omega

set_option maxRecDepth 100000 in
set_option maxHeartbeats 400000 in
theorem outnum_bad (p : Nat) (A : Option Addr) (c : Nat) (l : List UInt8) (e n : Int) (w : World) (h : OutAt w p A c l e) (he : e ≠ 0) :
    Calls Try.prog 47 #[.pointer (some ⟨p, 0, none⟩), .int .i64 n] w fun r w' => r = .returned (.tuple #[]) ∧ w = w' := by
  have HI := Lib.hid h
  clear h
  by_cases hn : n < 0
  · go_enter Try.func47, Try.ntmps47
    go_wp2_with (first | (go_at_call 49; refine (outopen_bad p A c l e _ HI.out he).mono ?_; rintro e w1 ⟨rfl, rfl⟩) | go_in)
    go_end0
    go_wp2_with (first | (go_at_call 49; refine (outopen_bad p A c l e _ HI.out he).mono ?_; rintro e w1 ⟨rfl, rfl⟩) | go_in)
    refine bodyPost_ret (results_none rfl _ _ _) rfl ?_
    exact ⟨rfl, rfl⟩
  · go_enter Try.func47, Try.ntmps47
    go_wp2_with (first | (go_at_call 49; refine (outopen_bad p A c l e _ HI.out he).mono ?_; rintro e w1 ⟨rfl, rfl⟩) | go_in)
    refine bodyPost_ret (results_none rfl _ _ _) rfl ?_
    exact ⟨rfl, rfl⟩

set_option maxRecDepth 100000 in
set_option maxHeartbeats 400000 in
theorem outnum_neg (p : Nat) (A : Option Addr) (c : Nat) (l : List UInt8) (n : Int) (w : World) (h : OutAt w p A c l 0) (hn : n < 0) :
    Calls Try.prog 47 #[.pointer (some ⟨p, 0, none⟩), .int .i64 n] w fun r w' => r = .returned (.tuple #[]) ∧ OutTo p A w ([], 1) w' := by
  have HI := Lib.hid h
  clear h
  go_enter Try.func47, Try.ntmps47
  go_wp2_with fail
  refine (outfail_any p A c l 1 _ HI.out).mono ?_
  rintro r w1 ⟨rfl, A1, c1, h1, hs1⟩
  have H1 := Lib.hid h1
  have HS := Lib.hid hs1
  clear h1 hs1
  go_wp2_with fail
  refine (outopen_bad p A1 c1 _ 1 _ H1.out (by decide)).mono ?_
  rintro r w2 ⟨rfl, rfl⟩
  go_wp2_with fail
  refine bodyPost_ret (results_none rfl _ _ _) rfl ?_
  exact ⟨rfl, A1, c1, H1.out, HS.out⟩

theorem outnum_any (p : Nat) (A : Option Addr) (c : Nat) (l : List UInt8) (e n : Int) (w : World) (h : OutAt w p A c l e) (hl : l.length ≤ 1099511627776) (hn : n ≤ 9223372036854775807) :
    Calls Try.prog 47 #[.pointer (some ⟨p, 0, none⟩), .int .i64 n] w fun r w' => r = .returned (.tuple #[]) ∧ OutTo p A w (numO l e n) w' := by
  by_cases he : e = 0
  · subst he
    by_cases h0 : n < 0
    · rw [show numO l 0 n = ([], 1) from by simp [numO, h0]]
      exact outnum_neg p A c l n w h h0
    · rw [show numO l 0 n = (l ++ enc n.toNat, 0) from by simp [numO, h0]]
      obtain ⟨k, rfl⟩ := Int.eq_ofNat_of_zero_le (show 0 ≤ n from by omega)
      exact outnum_ok p A c l k w h hl (by omega)
  · rw [show numO l e n = (l, e) from if_neg he]
    refine (outnum_bad p A c l e n w h he).mono fun r w' ⟨hr, hw⟩ => ?_
    subst hw
    exact ⟨hr, A, c, h, OutStep.refl _ _ _⟩

end Go.Proofs.Ytgomnigchfmfhaa
namespace Go.Proofs.Ytgomnigchfmfhaa
set_option linter.unusedVariables false
set_option linter.unusedSimpArgs false
open Go.RowKit

theorem numO_len (l : List UInt8) (e n : Int) (hn : n ≤ 9223372036854775807) : (numO l e n).1.length ≤ l.length + 9 := by
  unfold numO
  split
  · split
    · simp
    · have := enc_le n.toNat (by omega)
      simp; omega
  · simp

/-- What Num makes of it. -/
def numsO (l : List UInt8) (e : Int) (xs : List Int) : List UInt8 × Int := xs.foldl (fun st n => numO st.1 st.2 n) (l, e)

theorem numsO_snoc (l : List UInt8) (e : Int) (xs : List Int) (x : Int) : numsO l e (xs ++ [x]) = numO (numsO l e xs).1 (numsO l e xs).2 x := by simp [numsO]

set_option maxRecDepth 100000 in
set_option maxHeartbeats 800000 in
theorem outNum_any (p : Nat) (A : Option Addr) (c : Nat) (l : List UInt8) (e : Int) (B : Option Addr) (n cap : Nat) (xs : List Int) (w : World) (h : OutAt w p A c l e) (hx : SliceAt w B (xs.map (Value.int .i64)) (fun k => k = p ∨ blk A = some k))
    (hn : xs.length = n) (hi : ∀ x ∈ xs, x ≤ 9223372036854775807) (hl : l.length + 9 * n ≤ 1099511627776) :
    Calls Try.prog 21 #[.pointer (some ⟨p, 0, none⟩), .slice B n cap] w fun r w' => r = .returned (.pointer (some ⟨p, 0, none⟩)) ∧ OutTo p A w (numsO l e xs) w' := by
  have HI := Lib.hid h
  have HX := Lib.hid hx
  have HN := Lib.hid hn
  have HB := Lib.hid hi
  clear h hx hn hi
  have hsm : n ≤ 9223372036854775807 := by omega
  go_enter Try.func21, Try.ntmps21
  go_wp2_with fail
  go_loopw [6, 9] (fun _ i wr => ∃ (k : Nat) (A1 : Option Addr) (c1 : Nat), k ≤ n ∧ i = .int .i64 k ∧ (numsO l e (xs.take k)).1.length ≤ l.length + 9 * k ∧ Hid (OutAt wr p A1 c1 (numsO l e (xs.take k)).1 (numsO l e (xs.take k)).2) ∧ Hid (OutStep p A w A1 wr))
    (fun _ i _ => n - (intOf i).toNat)
  case atStart => exact ⟨0, A, c, by omega, rfl, by simp [numsO], HI, OutStep.refl _ _ _⟩
  case round =>
    obtain ⟨k, A1, c1, hk, rfl, hlen, H1, H2⟩ := hrel
    by_cases hlt : k < n
    · obtain ⟨x, hxk⟩ : ∃ x, xs[k]? = some x := ⟨xs[k]'(by rw [HN.out]; exact hlt), List.getElem?_eq_getElem _⟩
      obtain ⟨b, off, rfl, hb, hs, hc⟩ := HX.out (by rw [List.length_map, HN.out]; omega)
      have hcx : wr.cell? ⟨b, off + k, none⟩ = some (.int .i64 x) := (H2.out.1.cell hb hs).trans (hc k _ (by rw [List.getElem?_map, hxk]; rfl))
      have hxb := HB.out x (List.mem_of_getElem? hxk)
      have H3 := Lib.hid (take_next hxk)
      generalize hst : numsO l e (xs.take k) = st at *
      have HST := Lib.hid hst
      clear hst hc hs hb
      go_wp2_with (go_at_call 47; refine (outnum_any p A1 c1 _ _ _ _ H1.out (by omega) hxb).mono ?_; rintro e w1 ⟨rfl, A2, c2, h1, hs1⟩)
      go_roundw
      case rel =>
        have e1 : numsO l e (xs.take (k + 1)) = numO st.1 st.2 x := by rw [H3.out, numsO_snoc, HST.out]
        refine ⟨k + 1, A2, c2, by omega, by go_num, ?_, ?_, H2.out.trans hs1⟩
        · rw [e1]; have := numO_len st.1 st.2 x hxb; omega
        · show OutAt _ _ _ _ _ _
          rw [e1]; exact h1
      case measure => simp [intOf]; omega
    · go_wp2
      go_ret
      have hkn : k = n := by omega
      have hfin := H1.out
      rw [List.take_of_length_le (by rw [HN.out]; omega)] at hfin
      exact ⟨rfl, A1, c1, hfin, H2.out⟩

end Go.Proofs.Ytgomnigchfmfhaa
namespace Go.Proofs.Ytgomnigchfmfhaa
set_option linter.unusedVariables false
set_option linter.unusedSimpArgs false
open Go.RowKit

def byteO (l : List UInt8) (e n : Int) : List UInt8 × Int := if e = 0 then if n < 0 ∨ 255 < n then ([], 1) else (l ++ [UInt8.ofNat n.toNat], 0) else (l, e)

theorem byteO_len (l : List UInt8) (e n : Int) : (byteO l e n).1.length ≤ l.length + 1 := by
  unfold byteO
  split
  · split <;> simp
  · simp

/-- What Byte makes of it. -/
def bytesO (l : List UInt8) (e : Int) (xs : List Int) : List UInt8 × Int := xs.foldl (fun st n => byteO st.1 st.2 n) (l, e)

theorem bytesO_snoc (l : List UInt8) (e : Int) (xs : List Int) (x : Int) : bytesO l e (xs ++ [x]) = byteO (bytesO l e xs).1 (bytesO l e xs).2 x := by simp [bytesO]

set_option maxRecDepth 100000 in
set_option maxHeartbeats 1600000 in
theorem outByte_any (p : Nat) (A : Option Addr) (c : Nat) (l : List UInt8) (e : Int) (B : Option Addr) (n cap : Nat) (xs : List Int) (w : World) (h : OutAt w p A c l e) (hx : SliceAt w B (xs.map (Value.int .i64)) (fun k => k = p ∨ blk A = some k))
    (hn : xs.length = n) (hl : l.length + n ≤ 1099511627776) :
    Calls Try.prog 22 #[.pointer (some ⟨p, 0, none⟩), .slice B n cap] w fun r w' => r = .returned (.pointer (some ⟨p, 0, none⟩)) ∧ OutTo p A w (bytesO l e xs) w' := by
  have HI := Lib.hid h
  have HX := Lib.hid hx
  have HN := Lib.hid hn
  obtain ⟨i0, hi, hz0, hz1, hz2⟩ := info_parts byte_info
  clear h hx hn
  have hsm : n ≤ 9223372036854775807 := by omega
  go_enter Try.func22, Try.ntmps22
  go_wp2_with fail
  go_loopw [6, 9] (fun _ i wr => ∃ (k : Nat) (A1 : Option Addr) (c1 : Nat), k ≤ n ∧ i = .int .i64 k ∧ (bytesO l e (xs.take k)).1.length ≤ l.length + k ∧ Hid (OutAt wr p A1 c1 (bytesO l e (xs.take k)).1 (bytesO l e (xs.take k)).2) ∧ Hid (OutStep p A w A1 wr))
    (fun _ i _ => n - (intOf i).toNat)
  case atStart => exact ⟨0, A, c, by omega, rfl, by simp [bytesO], HI, OutStep.refl _ _ _⟩
  case round =>
    obtain ⟨k, A1, c1, hk, rfl, hlen, H1, H2⟩ := hrel
    by_cases hlt : k < n
    · obtain ⟨x, hxk⟩ : ∃ x, xs[k]? = some x := ⟨xs[k]'(by rw [HN.out]; exact hlt), List.getElem?_eq_getElem _⟩
      obtain ⟨b, off, rfl, hb, hs, hc⟩ := HX.out (by rw [List.length_map, HN.out]; omega)
      have hcx : wr.cell? ⟨b, off + k, none⟩ = some (.int .i64 x) := (H2.out.1.cell hb hs).trans (hc k _ (by rw [List.getElem?_map, hxk]; rfl))
      have e1 : bytesO l e (xs.take (k + 1)) = byteO (bytesO l e (xs.take k)).1 (bytesO l e (xs.take k)).2 x := by rw [take_next hxk, bytesO_snoc]
      have H3 := Lib.hid e1
      obtain ⟨m, f, hst⟩ : ∃ m f, bytesO l e (xs.take k) = (m, f) := ⟨_, _, rfl⟩
      rw [hst] at H1 H3 hlen
      simp only at H1 H3 hlen
      clear hst hc hs hb e1 hxk
      by_cases hf : f = 0
      · subst hf
        by_cases hx0 : 0 ≤ x ∧ x ≤ 255
        · obtain ⟨hx0, hx1⟩ := hx0
          have c0 := H1.out.c0
          have hown := Lib.hid H1.out.2
          go_wp2_with (first | (go_at_call 49; refine (outopen_ok p A1 c1 m _ H1.out).mono ?_; rintro e w1 ⟨rfl, rfl⟩) | (at_builtin; refine wpList_append_own_at _ rfl (.tmp 27) (.tmp 30) 46 rfl 0 5 i0 (.int .u8 0) 1 1 Try.underlying46 hi hz0 hz1 hz2 rfl (by decide) (.slice A1 m.length c1) m.length (Lib.byteCells m) rfl (hown.out.alloc _) ⟨wr.heap.size, 0, none⟩ 1 1 _ rfl rfl (cell_one_new _ _ _) ?d2 ?d3 ?d4 ?d5 ?_))
          case d2 => intro u hu; simp at hu; subst hu; rfl
          case d3 => unfold maxLen; omega
          case d4 => omega
          case d5 => omega
          · intro v' w1 hown' hgrow _ hat
            obtain ⟨A2, c2, rfl, _⟩ := own_form hown'
            have HP := Lib.hid (out_push H1.out (b := UInt8.ofNat x.toNat) (u8_wrap hx0 hx1) hown' hgrow (by simpa using hat))
            have hm1 := out_mid H1.out hgrow
            have d0 := cell_at hm1 0
            have f0 := free_at hm1 0
            clear hown' hgrow hat c0 hm1
            go_wp2
            go_roundw
            case rel =>
              obtain ⟨q1, q2⟩ := HP.out
              have e2 : byteO m 0 x = (m ++ [UInt8.ofNat x.toNat], 0) := by rw [byteO, if_pos rfl, if_neg (by omega)]
              refine ⟨k + 1, A2, c2, by omega, by go_num, ?_, ?_, H2.out.trans q2⟩
              · rw [H3.out, e2]; simp; omega
              · show OutAt _ _ _ _ _ _
                rw [H3.out, e2]; exact q1
            case measure => simp [intOf]; omega
        · have e2 : byteO m 0 x = ([], 1) := by rw [byteO, if_pos rfl, if_pos (by omega)]
          have H4 := Lib.hid e2
          clear e2
          have hcase : x < 0 ∨ 255 < x := by omega
          rcases hcase with hx0 | hx0
          all_goals
            go_wp2_with (first | (go_at_call 49; refine (outopen_bad p _ _ _ 1 _ (by assumption) (by decide)).mono ?_; rintro e w2 ⟨rfl, rfl⟩) | (go_at_call 48; refine (outfail_any p A1 c1 m 1 _ H1.out).mono ?_; rintro e w1 ⟨rfl, A2, c2, h1, hs1⟩))
            go_roundw
            case rel =>
              refine ⟨k + 1, A2, c2, by omega, by go_num, ?_, ?_, H2.out.trans hs1⟩
              · rw [H3.out, H4.out]; simp
              · show OutAt _ _ _ _ _ _
                rw [H3.out, H4.out]; exact h1
            case measure => simp [intOf]; omega
      · have e2 : byteO m f x = (m, f) := by rw [byteO, if_neg hf]
        have H4 := Lib.hid e2
        clear e2
        go_wp2_with (first | (go_at_call 49; refine (outopen_bad p A1 c1 m f _ H1.out hf).mono ?_; rintro e w2 ⟨rfl, rfl⟩) | (go_at_call 48; refine (outfail_bad p A1 c1 m f 1 _ H1.out hf).mono ?_; rintro e w1 ⟨rfl, rfl⟩))
        all_goals
          go_roundw
          case rel =>
            refine ⟨k + 1, A1, c1, by omega, by go_num, ?_, ?_, H2.out⟩
            · rw [H3.out, H4.out]; simp; omega
            · show OutAt _ _ _ _ _ _
              rw [H3.out, H4.out]; exact H1.out
          case measure => simp [intOf]; omega
    · go_wp2
      go_ret
      have hkn : k = n := by omega
      have hfin := H1.out
      rw [List.take_of_length_le (by rw [HN.out]; omega)] at hfin
      exact ⟨rfl, A1, c1, hfin, H2.out⟩

end Go.Proofs.Ytgomnigchfmfhaa
namespace Go.Proofs.Ytgomnigchfmfhaa
set_option linter.unusedVariables false
set_option linter.unusedSimpArgs false
open Go.RowKit

set_option maxRecDepth 100000 in
set_option maxHeartbeats 400000 in
theorem outraw_ok (p : Nat) (A : Option Addr) (c : Nat) (l : List UInt8) (s : ByteArray) (w : World) (h : OutAt w p A c l 0) (hl : l.length + s.size ≤ 2199023255552) :
    Calls Try.prog 50 #[.pointer (some ⟨p, 0, none⟩), .string s] w fun r w' => r = .returned (.tuple #[]) ∧ OutTo p A w (l ++ s.data.toList, 0) w' := by
  have HI := Lib.hid h
  obtain ⟨i0, hi, hz0, hz1, hz2⟩ := info_parts byte_info
  have c0 := h.c0
  have hown := Lib.hid h.2
  clear h
  go_enter Try.func50, Try.ntmps50
  go_wp2_with (first | (go_at_call 49; refine (outopen_ok p A c l _ HI.out).mono ?_; rintro e w1 ⟨rfl, rfl⟩) | (at_builtin; refine wpList_append_str_at _ rfl (.tmp 10) (.tmp 11) 46 9 rfl 0 5 i0 Try.underlying46 Try.underlying9 hi hz0 hz1 hz2 (.slice A l.length c) l.length (Lib.byteCells l) rfl hown.out s rfl ?c3 ?c4 ?c5 ?_))
  case c3 => unfold maxLen; omega
  case c4 => omega
  case c5 => omega
  · intro v' w1 hown' hgrow hat
    obtain ⟨A2, c2, rfl, _⟩ := own_form hown'
    have hsz := Lib.size_eq s
    have HP : Hid (OutAt (w1.setCell ⟨p, 0, none⟩ (.slice A2 (l.length + s.size) c2)) p A2 c2 (l ++ s.data.toList) 0 ∧ OutStep p A w A2 (w1.setCell ⟨p, 0, none⟩ (.slice A2 (l.length + s.size) c2))) := by
      have hl2 : l.length + s.size = (l ++ s.data.toList).length := by rw [List.length_append, ← hsz]
      rw [Lib.strCells_eq, ← Lib.byteCells_append, hl2] at hown'
      rw [hl2]
      rw [ownBlock_slice] at hgrow
      simp only [ownBlock_slice] at hat
      exact out_store HI.out hown' ((Keep.refl (fun k => blk A = some k) w).grown hgrow (fun k hk _ => hk)) hat
    have hm1 : w1.heap[p]? = some (.cells #[.slice A l.length c, .int .i64 0] 48 (0, 0)) := by
      rw [ownBlock_slice] at hgrow
      exact (hgrow.block p HI.out.lt HI.out.ne.symm).trans HI.out.1
    have d0 := cell_at hm1 0
    have f0 := free_at hm1 0
    clear hown' hgrow hat c0 hm1 hsz
    go_wp2
    go_end0
    exact ⟨rfl, A2, c2, HP.out.1, HP.out.2⟩

set_option maxRecDepth 100000 in
set_option maxHeartbeats 400000 in
theorem outraw_bad (p : Nat) (A : Option Addr) (c : Nat) (l : List UInt8) (e : Int) (s : ByteArray) (w : World) (h : OutAt w p A c l e) (he : e ≠ 0) :
    Calls Try.prog 50 #[.pointer (some ⟨p, 0, none⟩), .string s] w fun r w' => r = .returned (.tuple #[]) ∧ w = w' := by
  have HI := Lib.hid h
  clear h
  go_enter Try.func50, Try.ntmps50
  go_wp2_with (go_at_call 49; refine (outopen_bad p A c l e _ HI.out he).mono ?_; rintro e w1 ⟨rfl, rfl⟩)
  go_end0
  exact ⟨rfl, rfl⟩

theorem outraw_any (p : Nat) (A : Option Addr) (c : Nat) (l : List UInt8) (e : Int) (s : ByteArray) (w : World) (h : OutAt w p A c l e) (hl : l.length + s.size ≤ 2199023255552) :
    Calls Try.prog 50 #[.pointer (some ⟨p, 0, none⟩), .string s] w fun r w' => r = .returned (.tuple #[]) ∧ OutTo p A w (rawO l e s.data.toList) w' := by
  by_cases he : e = 0
  · subst he
    rw [show rawO l 0 s.data.toList = (l ++ s.data.toList, 0) from if_pos rfl]
    exact outraw_ok p A c l s w h hl
  · rw [show rawO l e s.data.toList = (l, e) from if_neg he]
    refine (outraw_bad p A c l e s w h he).mono fun r w' ⟨hr, hw⟩ => ?_
    subst hw
    exact ⟨hr, A, c, h, OutStep.refl _ _ _⟩

end Go.Proofs.Ytgomnigchfmfhaa
namespace Go.Proofs.Ytgomnigchfmfhaa
set_option linter.unusedVariables false
set_option linter.unusedSimpArgs false
open Go.RowKit

/-- What Raw makes of it. -/
def rawsO (l : List UInt8) (e : Int) (xs : List ByteArray) : List UInt8 × Int := xs.foldl (fun st s => rawO st.1 st.2 s.data.toList) (l, e)

theorem rawsO_snoc (l : List UInt8) (e : Int) (xs : List ByteArray) (x : ByteArray) : rawsO l e (xs ++ [x]) = rawO (rawsO l e xs).1 (rawsO l e xs).2 x.data.toList := by simp [rawsO]

theorem rawO_len (l : List UInt8) (e : Int) (s : ByteArray) : (rawO l e s.data.toList).1.length ≤ l.length + s.size := by
  have := Lib.size_eq s
  unfold rawO
  split <;> simp <;> omega

set_option maxRecDepth 100000 in
set_option maxHeartbeats 800000 in
theorem outRaw_any (p : Nat) (A : Option Addr) (c : Nat) (l : List UInt8) (e : Int) (B : Option Addr) (n cap : Nat) (xs : List ByteArray) (w : World) (h : OutAt w p A c l e) (hx : SliceAt w B (xs.map Value.string) (fun k => k = p ∨ blk A = some k))
    (hn : xs.length = n) (hn2 : n ≤ 1099511627776) (hl : l.length + sum xs ≤ 1099511627776) :
    Calls Try.prog 24 #[.pointer (some ⟨p, 0, none⟩), .slice B n cap] w fun r w' => r = .returned (.pointer (some ⟨p, 0, none⟩)) ∧ OutTo p A w (rawsO l e xs) w' := by
  have HI := Lib.hid h
  have HX := Lib.hid hx
  have HN := Lib.hid hn
  clear h hx hn
  go_enter Try.func24, Try.ntmps24
  go_wp2_with fail
  go_loopw [6, 9] (fun _ i wr => ∃ (k : Nat) (A1 : Option Addr) (c1 : Nat), k ≤ n ∧ i = .int .i64 k ∧ (rawsO l e (xs.take k)).1.length ≤ l.length + sum (xs.take k) ∧ Hid (OutAt wr p A1 c1 (rawsO l e (xs.take k)).1 (rawsO l e (xs.take k)).2) ∧ Hid (OutStep p A w A1 wr))
    (fun _ i _ => n - (intOf i).toNat)
  case atStart => exact ⟨0, A, c, by omega, rfl, by simp [rawsO], HI, OutStep.refl _ _ _⟩
  case round =>
    obtain ⟨k, A1, c1, hk, rfl, hlen, H1, H2⟩ := hrel
    by_cases hlt : k < n
    · obtain ⟨x, hxk⟩ : ∃ x, xs[k]? = some x := ⟨xs[k]'(by rw [HN.out]; exact hlt), List.getElem?_eq_getElem _⟩
      obtain ⟨b, off, rfl, hb, hs, hc⟩ := HX.out (by rw [List.length_map, HN.out]; omega)
      have hcx : wr.cell? ⟨b, off + k, none⟩ = some (.string x) := (H2.out.1.cell hb hs).trans (hc k _ (by rw [List.getElem?_map, hxk]; rfl))
      have e1 : rawsO l e (xs.take (k + 1)) = rawO (rawsO l e (xs.take k)).1 (rawsO l e (xs.take k)).2 x.data.toList := by rw [take_next hxk, rawsO_snoc]
      have hsum : sum (xs.take (k + 1)) = sum (xs.take k) + x.size := by rw [take_next hxk, sum_snoc]
      have hsl := sum_take xs (k + 1)
      have H3 := Lib.hid e1
      have H5 := Lib.hid hsum
      have hbd : sum (xs.take k) + x.size ≤ sum xs := by omega
      obtain ⟨m, f, hst⟩ : ∃ m f, rawsO l e (xs.take k) = (m, f) := ⟨_, _, rfl⟩
      rw [hst] at H1 H3 hlen
      simp only at H1 H3 hlen
      clear hst hc hs hb e1 hxk hsum hsl
      go_wp2_with (go_at_call 50; refine (outraw_any p A1 c1 _ _ _ _ H1.out (by omega)).mono ?_; rintro e w1 ⟨rfl, A2, c2, h1, hs1⟩)
      go_roundw
      case rel =>
        refine ⟨k + 1, A2, c2, by omega, by go_num, ?_, ?_, H2.out.trans hs1⟩
        · rw [H3.out, H5.out]; have := rawO_len m f x; omega
        · show OutAt _ _ _ _ _ _
          rw [H3.out]; exact h1
      case measure => simp [intOf]; omega
    · go_wp2
      go_ret
      have hkn : k = n := by omega
      have hfin := H1.out
      rw [List.take_of_length_le (by rw [HN.out]; omega)] at hfin
      exact ⟨rfl, A1, c1, hfin, H2.out⟩

end Go.Proofs.Ytgomnigchfmfhaa
namespace Go.Proofs.Ytgomnigchfmfhaa
set_option linter.unusedVariables false
set_option linter.unusedSimpArgs false
open Go.RowKit

set_option maxRecDepth 100000 in
set_option maxHeartbeats 400000 in
/-- End: the bytes, or the error. -/
theorem outend_any (p : Nat) (A : Option Addr) (c : Nat) (l : List UInt8) (e : Int) (w : World) (h : OutAt w p A c l e) :
    Calls Try.prog 26 #[.pointer (some ⟨p, 0, none⟩)] w fun r w' => r = .returned (.tuple #[.string ⟨l.toArray⟩, .int .i64 e]) ∧ ∃ n, w' = w.drewN n := by
  have c0 := h.c0
  have c1 := h.c1
  have hconv : ∀ nq, (convert 46 9 (.slice A l.length c)).run Try.prog (w.drewN nq) = .ok (.string ⟨l.toArray⟩) (w.drewN nq) := fun nq =>
    run_own_string (w := w.drewN nq) (base := 0) h.2 Try.underlying46 Try.underlying5 Try.underlying9
  clear h
  go_enter Try.func26, Try.ntmps26
  go_wp2
  go_quiet (fail)
  go_wp2
  go_ret2
  exact ⟨rfl, _, rfl⟩

end Go.Proofs.Ytgomnigchfmfhaa
