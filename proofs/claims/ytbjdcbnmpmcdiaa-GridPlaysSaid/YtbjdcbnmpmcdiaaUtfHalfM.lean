/- Law UtfHalf: runes, encoded and read. It speaks of no program. Own work. -/
import Derived.Test.YtbjdcbnmpmcdiaaUtfM
import Derived.Laws.Cover4
namespace Go.Proofs.Ytbjdcbnmpmcdiaa
set_option linter.unusedVariables false
set_option linter.unusedSimpArgs false

/-- The bytes of a rune. -/
def encN (c : Nat) : List Nat :=
  if c < 128 then [c]
  else if c < 2048 then [192 + c / 64, 128 + c % 64]
  else if c < 65536 then [224 + c / 4096, 128 + c / 64 % 64, 128 + c % 64]
  else [240 + c / 262144, 128 + c / 4096 % 64, 128 + c / 64 % 64, 128 + c % 64]

/-- What a number stands for as a rune. -/
def runeN (x : Int) : Nat := if x < 0 ∨ x > 1114111 ∨ (x ≥ 55296 ∧ x ≤ 57343) then 65533 else x.toNat

theorem runeN_le (x : Int) : runeN x ≤ 1114111 ∧ ¬ (55296 ≤ runeN x ∧ runeN x ≤ 57343) := by
  unfold runeN; split <;> omega

theorem natsOf_encode (x : Int) : natsOf (Utf8.encode x) = encN (runeN x) := by
  have hc : (if Utf8.valid x then x.toNat else Utf8.runeError) = runeN x := by
    unfold runeN Utf8.valid Utf8.runeError
    by_cases h : x < 0 ∨ x > 1114111 ∨ (x ≥ 55296 ∧ x ≤ 57343)
    · rw [if_pos h, if_neg (by simp; omega)]
    · rw [if_neg h, if_pos (by simp; omega)]
  obtain ⟨h1, -⟩ := runeN_le x
  unfold Utf8.encode
  simp only [hc]
  obtain ⟨c, hcc⟩ : ∃ c, runeN x = c := ⟨_, rfl⟩
  rw [hcc] at h1 ⊢
  clear hc hcc
  unfold encN
  by_cases c1 : c < 128
  · rw [if_pos c1, if_pos (show c < 0x80 from c1)]
    simp only [natsOf, List.map_cons, List.map_nil]
    rw [toNat_ofNat (by omega)]
  rw [if_neg c1, if_neg (show ¬ c < 0x80 from c1)]
  by_cases c2 : c < 2048
  · rw [if_pos c2, if_pos (show c < 0x800 from c2)]
    simp only [natsOf, List.map_cons, List.map_nil]
    rw [toNat_ofNat (by omega), toNat_ofNat (by omega)]
  rw [if_neg c2, if_neg (show ¬ c < 0x800 from c2)]
  by_cases c3 : c < 65536
  · rw [if_pos c3, if_pos (show c < 0x10000 from c3)]
    simp only [natsOf, List.map_cons, List.map_nil]
    rw [toNat_ofNat (by omega), toNat_ofNat (by omega), toNat_ofNat (by omega)]
  · rw [if_neg c3, if_neg (show ¬ c < 0x10000 from c3)]
    simp only [natsOf, List.map_cons, List.map_nil]
    rw [toNat_ofNat (by omega), toNat_ofNat (by omega), toNat_ofNat (by omega), toNat_ofNat (by omega)]

theorem byteU_z (b : Nat) : byteU .z b = fresh b := by simp [byteU, badsU, St.z]

/-- A rune that is cut off is half read; whole, it is itself. -/
theorem encN_feed (c : Nat) (h1 : c ≤ 1114111) (h2 : ¬ (55296 ≤ c ∧ c ≤ 57343)) : feedU .z (encN c) = (.z, [c]) ∧
    ∀ k, 0 < k → k < (encN c).length → (feedU .z ((encN c).take k)).2 = [] ∧ 0 < (feedU .z ((encN c).take k)).1.half ∧ feedU (feedU .z ((encN c).take k)).1 ((encN c).drop k) = (.z, [c]) := by
  have key : ∀ (l : List Nat) (n : Nat), l.length = n → feedU .z l = (.z, [c]) → (∀ k, 0 < k → k < n → (feedU .z (l.take k)).2 = [] ∧ 0 < (feedU .z (l.take k)).1.half) → feedU .z l = (.z, [c]) ∧
      ∀ k, 0 < k → k < l.length → (feedU .z (l.take k)).2 = [] ∧ 0 < (feedU .z (l.take k)).1.half ∧ feedU (feedU .z (l.take k)).1 (l.drop k) = (.z, [c]) := by
    intro l n hn hf hk
    refine ⟨hf, fun k k0 kn => ?_⟩
    obtain ⟨e1, e2⟩ := hk k k0 (by omega)
    refine ⟨e1, e2, ?_⟩
    have := feedU_add .z (l.take k) (l.drop k)
    rw [List.take_append_drop, hf, e1, List.nil_append] at this
    exact this.symm
  unfold encN
  by_cases c1 : c < 128
  · rw [if_pos c1]
    exact key _ 1 rfl (by simp [feedU, byteU_z, fresh, c1]) (fun k h h' => by omega)
  rw [if_neg c1]
  by_cases c2 : c < 2048
  · rw [if_pos c2]
    obtain ⟨a, ha⟩ : ∃ a, 192 + c / 64 = a := ⟨_, rfl⟩
    obtain ⟨b, hb⟩ : ∃ b, 128 + c % 64 = b := ⟨_, rfl⟩
    rw [ha, hb]
    have e1 : fresh a = (⟨a % 32, 1, 1, secLo a, secHi a⟩, []) := by
      unfold fresh; rw [if_neg (by omega), if_pos (by omega)]
    have g1 := secLo_ge a
    have e2 : secLo a = 128 := by unfold secLo; rw [if_neg (by omega), if_neg (by omega)]
    have e3 : secHi a = 191 := by unfold secHi; rw [if_neg (by omega), if_neg (by omega)]
    rw [e2, e3] at e1
    have e4 : byteU ⟨a % 32, 1, 1, 128, 191⟩ b = (.z, [c]) := by
      rw [byteU_on (by simp) (by show 128 ≤ b; omega) (by show b ≤ 191; omega)]
      unfold onward
      rw [if_pos rfl]
      simp only [Prod.mk.injEq, List.cons.injEq, and_true, true_and]
      omega
    refine key _ 2 rfl (by simp [feedU, byteU_z, e1, e4]) (fun k h h' => ?_)
    obtain rfl : k = 1 := by omega
    simp [feedU, byteU_z, e1]
  rw [if_neg c2]
  by_cases c3 : c < 65536
  · rw [if_pos c3]
    obtain ⟨a, ha⟩ : ∃ a, 224 + c / 4096 = a := ⟨_, rfl⟩
    obtain ⟨b, hb⟩ : ∃ b, 128 + c / 64 % 64 = b := ⟨_, rfl⟩
    obtain ⟨d, hd⟩ : ∃ d, 128 + c % 64 = d := ⟨_, rfl⟩
    rw [ha, hb, hd]
    have e1 : fresh a = (⟨a % 16, 1, 2, secLo a, secHi a⟩, []) := by
      unfold fresh; rw [if_neg (by omega), if_neg (by omega), if_pos (by omega)]
    have g1 : secLo a ≤ b := by unfold secLo; split <;> (try split) <;> omega
    have g2 : b ≤ secHi a := by unfold secHi; split <;> (try split) <;> omega
    have e4 : byteU ⟨a % 16, 1, 2, secLo a, secHi a⟩ b = (⟨a % 16 * 64 + b % 64, 2, 1, 128, 191⟩, []) := by
      rw [byteU_on (by simp) g1 g2]
      unfold onward
      exact (if_neg (by simp)).trans rfl
    have e5 : byteU ⟨a % 16 * 64 + b % 64, 2, 1, 128, 191⟩ d = (.z, [c]) := by
      rw [byteU_on (by simp) (by show 128 ≤ d; omega) (by show d ≤ 191; omega)]
      unfold onward
      rw [if_pos rfl]
      simp only [Prod.mk.injEq, List.cons.injEq, and_true, true_and]
      omega
    refine key _ 3 rfl (by simp [feedU, byteU_z, e1, e4, e5]) (fun k h h' => ?_)
    rcases (show k = 1 ∨ k = 2 by omega) with rfl | rfl
    · simp [feedU, byteU_z, e1]
    · simp [feedU, byteU_z, e1, e4]
  · rw [if_neg c3]
    obtain ⟨a, ha⟩ : ∃ a, 240 + c / 262144 = a := ⟨_, rfl⟩
    obtain ⟨b, hb⟩ : ∃ b, 128 + c / 4096 % 64 = b := ⟨_, rfl⟩
    obtain ⟨d, hd⟩ : ∃ d, 128 + c / 64 % 64 = d := ⟨_, rfl⟩
    obtain ⟨f, hf⟩ : ∃ f, 128 + c % 64 = f := ⟨_, rfl⟩
    rw [ha, hb, hd, hf]
    have e1 : fresh a = (⟨a % 8, 1, 3, secLo a, secHi a⟩, []) := by
      unfold fresh; rw [if_neg (by omega), if_neg (by omega), if_neg (by omega), if_pos (by omega)]
    have g1 : secLo a ≤ b := by unfold secLo; split <;> (try split) <;> omega
    have g2 : b ≤ secHi a := by unfold secHi; split <;> (try split) <;> omega
    have e4 : byteU ⟨a % 8, 1, 3, secLo a, secHi a⟩ b = (⟨a % 8 * 64 + b % 64, 2, 2, 128, 191⟩, []) := by
      rw [byteU_on (by simp) g1 g2]
      unfold onward
      exact (if_neg (by simp)).trans rfl
    have e5 : byteU ⟨a % 8 * 64 + b % 64, 2, 2, 128, 191⟩ d = (⟨(a % 8 * 64 + b % 64) * 64 + d % 64, 3, 1, 128, 191⟩, []) := by
      rw [byteU_on (by simp) (by show 128 ≤ d; omega) (by show d ≤ 191; omega)]
      unfold onward
      exact (if_neg (by simp)).trans rfl
    have e6 : byteU ⟨(a % 8 * 64 + b % 64) * 64 + d % 64, 3, 1, 128, 191⟩ f = (.z, [c]) := by
      rw [byteU_on (by simp) (by show 128 ≤ f; omega) (by show f ≤ 191; omega)]
      unfold onward
      rw [if_pos rfl]
      simp only [Prod.mk.injEq, List.cons.injEq, and_true, true_and]
      omega
    refine key _ 4 rfl (by simp [feedU, byteU_z, e1, e4, e5, e6]) (fun k h h' => ?_)
    rcases (show k = 1 ∨ k = 2 ∨ k = 3 by omega) with rfl | rfl | rfl
    · simp [feedU, byteU_z, e1]
    · simp [feedU, byteU_z, e1, e4]
    · simp [feedU, byteU_z, e1, e4, e5]

theorem encN_len (c : Nat) : (encN c).length = if c < 128 then 1 else if c < 2048 then 2 else if c < 65536 then 3 else 4 := by
  unfold encN
  split
  · rfl
  split
  · rfl
  split <;> rfl

end Go.Proofs.Ytbjdcbnmpmcdiaa
