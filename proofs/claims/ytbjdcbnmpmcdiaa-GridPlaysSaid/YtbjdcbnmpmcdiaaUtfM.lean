/- utf over lists: our Reader by numbers, the document's by bytes. It speaks of no program. Own work. -/
import Derived.Test.YtbjdcbnmpmcdiaaBase
namespace Go.Proofs.Ytbjdcbnmpmcdiaa
set_option linter.unusedVariables false
set_option linter.unusedSimpArgs false

/-- What a Reader keeps. -/
structure St where
  v : Nat
  half : Nat
  left : Nat
  lo : Nat
  hi : Nat
deriving DecidableEq

def St.z : St := ⟨0, 0, 0, 0, 0⟩

def secLo (b : Nat) : Nat := if b = 224 then 160 else if b = 240 then 144 else 128
def secHi (b : Nat) : Nat := if b = 237 then 159 else if b = 244 then 143 else 191

/-- A byte that is read as a first one. -/
def fresh (b : Nat) : St × List Nat :=
  if b < 128 then (.z, [b])
  else if 194 ≤ b ∧ b ≤ 223 then (⟨b % 32, 1, 1, secLo b, secHi b⟩, [])
  else if 224 ≤ b ∧ b ≤ 239 then (⟨b % 16, 1, 2, secLo b, secHi b⟩, [])
  else if 240 ≤ b ∧ b ≤ 244 then (⟨b % 8, 1, 3, secLo b, secHi b⟩, [])
  else (.z, [65533])

/-- A byte that goes on. -/
def onward (s : St) (b : Nat) : St × List Nat :=
  if s.left = 1 then (.z, [s.v * 64 + b % 64]) else (⟨s.v * 64 + b % 64, s.half + 1, s.left - 1, 128, 191⟩, [])

def badsU (s : St) : List Nat := if s.half = 0 then [] else [65533]

def byteU (s : St) (b : Nat) : St × List Nat :=
  if 0 < s.half ∧ s.lo ≤ b ∧ b ≤ s.hi then onward s b else ((fresh b).1, badsU s ++ (fresh b).2)

def feedU : St → List Nat → St × List Nat
  | s, [] => (s, [])
  | s, b :: r => ((feedU (byteU s b).1 r).1, (byteU s b).2 ++ (feedU (byteU s b).1 r).2)

theorem feedU_add (s : St) (a b : List Nat) : feedU s (a ++ b) = ((feedU (feedU s a).1 b).1, (feedU s a).2 ++ (feedU (feedU s a).1 b).2) := by
  induction a generalizing s with
  | nil => simp [feedU]
  | cons x r ih => simp [feedU, ih, List.append_assoc]

theorem feedU_snoc (s : St) (a : List Nat) (b : Nat) : feedU s (a ++ [b]) = ((byteU (feedU s a).1 b).1, (feedU s a).2 ++ (byteU (feedU s a).1 b).2) := by
  rw [feedU_add]; simp [feedU]

/-- What holds of every Reader. -/
def St.Ok (s : St) : Prop := s = .z ∨ (1 ≤ s.half ∧ s.half ≤ 3 ∧ 1 ≤ s.left ∧ s.half + s.left ≤ 4 ∧ 128 ≤ s.lo ∧ s.hi ≤ 191 ∧ (s.half = 1 → s.v < 64) ∧ (s.half = 2 → s.v < 4096) ∧ (s.half = 3 → s.v < 262144))

theorem secLo_ge (b : Nat) : 128 ≤ secLo b ∧ secLo b ≤ 160 := by unfold secLo; split <;> (try split) <;> omega
theorem secHi_le (b : Nat) : 143 ≤ secHi b ∧ secHi b ≤ 191 := by unfold secHi; split <;> (try split) <;> omega

theorem St.Ok.z : St.z.Ok := .inl rfl
theorem fresh_ok (b : Nat) : (fresh b).1.Ok := by
  have h1 := secLo_ge b
  have h2 := secHi_le b
  unfold fresh
  split
  · exact .inl rfl
  split
  · exact .inr (by simp; omega)
  split
  · exact .inr (by simp; omega)
  split
  · exact .inr (by simp; omega)
  · exact .inl rfl

theorem St.Ok.onward {s : St} (h : s.Ok) (hh : 0 < s.half) (b : Nat) : (onward s b).1.Ok := by
  rcases h with rfl | ⟨h1, h2, h3, h4, h5, h6, h7, h8, h9⟩
  · simp [St.z] at hh
  unfold Go.Proofs.Ytbjdcbnmpmcdiaa.onward
  split
  · exact .inl rfl
  · refine .inr ⟨by simp, by simp; omega, by simp; omega, by simp; omega, by simp, by simp, ?_, ?_, ?_⟩
    · simp; omega
    · simp; intro e; have := h7 e; omega
    · simp; intro e; have := h8 e; omega

theorem St.Ok.byte {s : St} (h : s.Ok) (b : Nat) : (byteU s b).1.Ok := by
  unfold byteU
  split
  · rename_i hc; exact h.onward hc.1 b
  · exact fresh_ok b

theorem St.Ok.feed {s : St} (h : s.Ok) (l : List Nat) : (feedU s l).1.Ok := by
  induction l generalizing s with
  | nil => exact h
  | cons b r ih => exact ih (h.byte b)

theorem St.Ok.half3 {s : St} (h : s.Ok) : s.half ≤ 3 := by
  rcases h with rfl | h
  · simp [St.z]
  · exact h.2.1

theorem St.Ok.z_of {s : St} (h : s.Ok) (h0 : s.half = 0) : s = .z := by
  rcases h with h | h
  · exact h
  · omega

theorem St.Ok.v_lt {s : St} (h : s.Ok) : s.v < 262144 := by
  rcases h with rfl | ⟨h1, h2, -, -, -, -, h7, h8, h9⟩
  · simp [St.z]
  · rcases (show s.half = 1 ∨ s.half = 2 ∨ s.half = 3 by omega) with e | e | e
    · have := h7 e; omega
    · have := h8 e; omega
    · have := h9 e; omega

theorem fresh_len (b : Nat) : (fresh b).2.length ≤ 1 := by
  unfold fresh
  split
  · simp
  split
  · simp
  split
  · simp
  split <;> simp
theorem fresh_lt (b : Nat) : ∀ x ∈ (fresh b).2, x < 65536 := by
  unfold fresh
  split
  · intro x hx; simp at hx; omega
  split
  · simp
  split
  · simp
  split <;> simp
theorem byteU_lt {s : St} (h : s.Ok) (b : Nat) : ∀ x ∈ (byteU s b).2, x < 33554432 := by
  have hv := h.v_lt
  intro x hx
  unfold byteU onward badsU at hx
  split at hx
  · split at hx
    · simp at hx; omega
    · simp at hx
  · rcases List.mem_append.1 hx with e | e
    · split at e
      · simp at e
      · simp at e; omega
    · have := fresh_lt b x e; omega
theorem feedU_lt {s : St} (h : s.Ok) (l : List Nat) : ∀ x ∈ (feedU s l).2, x < 33554432 := by
  induction l generalizing s with
  | nil => simp [feedU]
  | cons b r ih =>
    intro x hx
    simp only [feedU] at hx
    rcases List.mem_append.1 hx with e | e
    · exact byteU_lt h b x e
    · exact ih (h.byte b) x e

/-- Is a rune half read? -/
def St.some (s : St) : Nat := if s.half = 0 then 0 else 1
theorem St.some_le (s : St) : s.some ≤ 1 := by unfold St.some; split <;> omega

/-- At most as many runes as bytes, half read ones beside. -/
theorem byteU_len {s : St} (h : s.Ok) (b : Nat) : (byteU s b).2.length + (byteU s b).1.some ≤ 1 + s.some := by
  unfold byteU onward badsU
  split
  · rename_i hc
    have h0 : s.half ≠ 0 := by omega
    split
    · simp [h0, St.z, St.some]
    · simp [h0, St.some]
  · have : (fresh b).2.length + (fresh b).1.some ≤ 1 := by
      unfold fresh
      split
      · simp [St.z, St.some]
      split
      · simp [St.some]
      split
      · simp [St.some]
      split <;> simp [St.z, St.some]
    rw [List.length_append]
    simp only
    by_cases h0 : s.half = 0
    · simp only [h0, if_true, List.length_nil]; omega
    · have : s.some = 1 := by simp [St.some, h0]
      simp only [h0, if_false, List.length_cons, List.length_nil]; omega

theorem feedU_len {s : St} (h : s.Ok) (l : List Nat) : (feedU s l).2.length + (feedU s l).1.some ≤ l.length + s.some := by
  induction l generalizing s with
  | nil => simp only [feedU, List.length_nil]; exact Nat.le_refl _
  | cons b r ih =>
    have h1 := byteU_len h b
    have h2 := ih (h.byte b)
    simp only [feedU, List.length_append, List.length_cons]
    omega

/-- Bytes of a text. -/
def natsOf (s : ByteArray) : List Nat := s.data.toList.map (·.toNat)

/-- Whatever cuts. -/
def feedsU : St → List ByteArray → St × List Nat
  | s, [] => (s, [])
  | s, x :: r => ((feedsU (feedU s (natsOf x)).1 r).1, (feedU s (natsOf x)).2 ++ (feedsU (feedU s (natsOf x)).1 r).2)

theorem feedsU_join (s : St) (xs : List ByteArray) : feedsU s xs = feedU s ((joinL xs).map (·.toNat)) := by
  induction xs generalizing s with
  | nil => simp [feedsU, joinL, feedU]
  | cons x r ih =>
    rw [show joinL (x :: r) = x.data.toList ++ joinL r from by simp [joinL], List.map_append, feedU_add]
    simp [feedsU, ih, natsOf]

theorem feedsU_add (s : St) (a b : List ByteArray) : feedsU s (a ++ b) = ((feedsU (feedsU s a).1 b).1, (feedsU s a).2 ++ (feedsU (feedsU s a).1 b).2) := by
  induction a generalizing s with
  | nil => simp [feedsU]
  | cons x r ih => simp [feedsU, ih, List.append_assoc]

theorem feedsU_one (s : St) (x : ByteArray) : feedsU s [x] = feedU s (natsOf x) := by simp [feedsU]

theorem St.Ok.feeds {s : St} (h : s.Ok) (l : List ByteArray) : (feedsU s l).1.Ok := by
  rw [feedsU_join]; exact h.feed _

/-- The document's: the bytes that are half read. -/
def contB (c : Nat) : List Nat → Bool
  | [] => true
  | b :: r => decide (secLo c ≤ b ∧ b ≤ secHi c) && r.all fun x => decide (128 ≤ x ∧ x ≤ 191)
def moreB (c : Nat) : Nat := if c < 224 then 1 else if c < 240 then 2 else 3
def mayB : List Nat → Bool × Bool
  | [] => (false, false)
  | c :: r => if c < 128 then (true, decide (r.length = 0)) else if 194 ≤ c ∧ c ≤ 244 then (if contB c r = true then (true, decide (r.length = moreB c)) else (false, false)) else (false, false)
def firstB (c n : Nat) : Nat := if n = 2 then c - 192 else if n = 3 then c - 224 else if n = 4 then c - 240 else c
def valueB : List Nat → Nat
  | [] => 0
  | c :: r => r.foldl (fun a b => a * 64 + b - 128) (firstB c (r.length + 1))
def byteB (B : List Nat) (c : Nat) : List Nat × List Nat :=
  if B ≠ [] ∧ (mayB (B ++ [c])).1 = true then (if (mayB (B ++ [c])).2 = true then ([], [valueB (B ++ [c])]) else (B ++ [c], []))
  else if (mayB [c]).1 = false then ([], (if B = [] then [] else [65533]) ++ [65533])
  else if (mayB [c]).2 = true then ([], (if B = [] then [] else [65533]) ++ [c])
  else ([c], if B = [] then [] else [65533])

/-- Both are at the same place. -/
def AlikeU (s : St) : List Nat → Prop
  | [] => s = .z
  | [a] => 194 ≤ a ∧ a ≤ 244 ∧ s = (fresh a).1
  | [a, b] => 224 ≤ a ∧ a ≤ 244 ∧ secLo a ≤ b ∧ b ≤ secHi a ∧ s = ⟨(if a < 240 then a % 16 else a % 8) * 64 + b % 64, 2, (if a < 240 then 1 else 2), 128, 191⟩
  | [a, b, c] => 240 ≤ a ∧ a ≤ 244 ∧ secLo a ≤ b ∧ b ≤ secHi a ∧ 128 ≤ c ∧ c ≤ 191 ∧ s = ⟨(a % 8 * 64 + b % 64) * 64 + c % 64, 3, 1, 128, 191⟩
  | _ => False

theorem AlikeU.half {s : St} {B : List Nat} (h : AlikeU s B) : s.half = B.length := by
  match B, h with
  | [], h => simp only [AlikeU] at h; rw [h]; rfl
  | [a], h =>
    simp only [AlikeU] at h
    rw [h.2.2]
    unfold fresh
    rw [if_neg (by omega)]
    by_cases h1 : a ≤ 223
    · rw [if_pos (by omega)]; rfl
    · rw [if_neg (by omega)]
      by_cases h2 : a ≤ 239
      · rw [if_pos (by omega)]; rfl
      · rw [if_neg (by omega), if_pos (by omega)]; rfl
  | [a, b], h => simp only [AlikeU] at h; rw [h.2.2.2.2]; rfl
  | [a, b, c], h => simp only [AlikeU] at h; rw [h.2.2.2.2.2.2]; rfl

theorem fresh_ab (a : Nat) (h1 : 194 ≤ a) (h2 : a ≤ 244) : (fresh a).1 = ⟨(if a < 224 then a % 32 else if a < 240 then a % 16 else a % 8), 1, moreB a, secLo a, secHi a⟩ ∧ (fresh a).2 = [] := by
  unfold fresh moreB
  rw [if_neg (by omega)]
  by_cases h3 : a ≤ 223
  · rw [if_pos (by omega), if_pos (by omega), if_pos (by omega)]; exact ⟨rfl, rfl⟩
  · rw [if_neg (by omega)]
    by_cases h4 : a ≤ 239
    · rw [if_pos (by omega), if_neg (by omega), if_pos (by omega), if_neg (by omega), if_pos (by omega)]; exact ⟨rfl, rfl⟩
    · rw [if_neg (by omega), if_pos (by omega), if_neg (by omega), if_neg (by omega), if_neg (by omega), if_neg (by omega)]; exact ⟨rfl, rfl⟩

/-- A byte that is read as a first one, by both. -/
theorem first_alike (c : Nat) : AlikeU (fresh c).1 (byteB [] c).1 ∧ (fresh c).2 = (byteB [] c).2 := by
  simp only [byteB, ne_eq, not_true_eq_false, false_and, if_false, if_true, List.nil_append]
  by_cases h1 : c < 128
  · simp [mayB, h1, fresh, AlikeU]
  · by_cases h2 : 194 ≤ c ∧ c ≤ 244
    · obtain ⟨e1, e2⟩ := fresh_ab c h2.1 h2.2
      have hm : moreB c ≠ 0 := by unfold moreB; split <;> (try split) <;> omega
      simp only [mayB, if_neg h1, if_pos h2, contB, if_true, List.length_nil]
      rw [if_neg (by simp), if_neg (by simp; omega)]
      exact ⟨⟨h2.1, h2.2, rfl⟩, e2⟩
    · simp only [mayB, if_neg h1, if_neg h2]
      simp only [fresh, if_neg h1]
      rw [if_neg (by omega), if_neg (by omega), if_neg (by omega)]
      exact ⟨rfl, rfl⟩

theorem byteB_anew {B : List Nat} {c : Nat} (hB : B ≠ []) (h : (mayB (B ++ [c])).1 = false) : byteB B c = ((byteB [] c).1, [65533] ++ (byteB [] c).2) := by
  simp only [byteB, ne_eq, hB, not_false_eq_true, true_and, h, not_true_eq_false, false_and, if_false, if_true, List.nil_append, Bool.false_eq_true]
  split
  · rfl
  · split <;> rfl

theorem byteB_on {B : List Nat} {c : Nat} (hB : B ≠ []) (h : (mayB (B ++ [c])).1 = true) : byteB B c = if (mayB (B ++ [c])).2 = true then ([], [valueB (B ++ [c])]) else (B ++ [c], []) := by
  simp only [byteB]
  rw [if_pos ⟨hB, h⟩]

theorem byteU_on {s : St} {b : Nat} (h : 0 < s.half) (h1 : s.lo ≤ b) (h2 : b ≤ s.hi) : byteU s b = onward s b := by
  unfold byteU; rw [if_pos ⟨h, h1, h2⟩]

theorem byteU_anew {s : St} {b : Nat} (h : 0 < s.half) (h1 : ¬ (s.lo ≤ b ∧ b ≤ s.hi)) : byteU s b = ((fresh b).1, [65533] ++ (fresh b).2) := by
  unfold byteU badsU; rw [if_neg (by intro x; exact h1 x.2), if_neg (by omega)]

theorem mayB_two (a : Nat) (h1 : 194 ≤ a) (h2 : a ≤ 244) (r : List Nat) : mayB (a :: r) = (contB a r, contB a r && decide (r.length = moreB a)) := by
  simp only [mayB, if_neg (show ¬ a < 128 by omega), if_pos (show 194 ≤ a ∧ a ≤ 244 from ⟨h1, h2⟩)]
  cases contB a r <;> simp

theorem anew_alike {s : St} {B : List Nat} {c : Nat} (hB : B ≠ []) (hs : 0 < s.half) (h1 : ¬ (s.lo ≤ c ∧ c ≤ s.hi)) (h2 : (mayB (B ++ [c])).1 = false) : AlikeU (byteU s c).1 (byteB B c).1 ∧ (byteU s c).2 = (byteB B c).2 := by
  have hf := first_alike c
  rw [byteU_anew hs h1, byteB_anew hB h2]
  exact ⟨hf.1, by rw [← hf.2]⟩

theorem byte_alike {s : St} {B : List Nat} (h : AlikeU s B) (c : Nat) : AlikeU (byteU s c).1 (byteB B c).1 ∧ (byteU s c).2 = (byteB B c).2 := by
  match B, h with
  | [], h =>
    simp only [AlikeU] at h
    subst h
    have := first_alike c
    unfold byteU
    rw [if_neg (by simp [St.z])]
    exact this
  | [a], h =>
    simp only [AlikeU] at h
    obtain ⟨h1, h2, rfl⟩ := h
    obtain ⟨e1, -⟩ := fresh_ab a h1 h2
    have hm := mayB_two a h1 h2 [c]
    have g1 := secLo_ge a
    have g2 := secHi_le a
    rw [e1]
    by_cases hc : secLo a ≤ c ∧ c ≤ secHi a
    · have hct : contB a [c] = true := by simp [contB, hc.1, hc.2]
      rw [hct] at hm
      rw [byteU_on (by simp) hc.1 hc.2, byteB_on (by simp) (by rw [List.singleton_append, hm]), List.singleton_append, hm]
      unfold onward
      by_cases h3 : a < 224
      · have : moreB a = 1 := by unfold moreB; rw [if_pos h3]
        simp [this, h3, AlikeU, valueB, firstB]
        omega
      · by_cases h4 : a < 240
        · have : moreB a = 2 := by unfold moreB; rw [if_neg h3, if_pos h4]
          simp [this, h3, h4, AlikeU]
          omega
        · have : moreB a = 3 := by unfold moreB; rw [if_neg h3, if_neg h4]
          simp [this, h3, h4, AlikeU]
          omega
    · have hct : contB a [c] = false := by simp [contB]; omega
      exact anew_alike (by simp) (by simp) hc (by rw [List.singleton_append, hm, hct])
  | [a, b], h =>
    simp only [AlikeU] at h
    obtain ⟨h1, h2, h3, h4, rfl⟩ := h
    have hm := mayB_two a (by omega) h2 [b, c]
    have g1 := secLo_ge a
    have g2 := secHi_le a
    by_cases hc : 128 ≤ c ∧ c ≤ 191
    · have hct : contB a [b, c] = true := by simp [contB, h3, h4, hc.1, hc.2]
      rw [hct] at hm
      rw [byteU_on (by simp) hc.1 hc.2, byteB_on (by simp) (by rw [List.cons_append, List.singleton_append, hm]), List.cons_append, List.singleton_append, hm]
      unfold onward
      by_cases h5 : a < 240
      · have : moreB a = 2 := by unfold moreB; rw [if_neg (by omega), if_pos h5]
        simp [this, h5, AlikeU, valueB, firstB]
        omega
      · have : moreB a = 3 := by unfold moreB; rw [if_neg (by omega), if_neg h5]
        simp [this, h5, AlikeU]
        omega
    · have hct : contB a [b, c] = false := by simp [contB]; omega
      exact anew_alike (by simp) (by simp) hc (by rw [List.cons_append, List.singleton_append, hm, hct])
  | [a, b, d], h =>
    simp only [AlikeU] at h
    obtain ⟨h1, h2, h3, h4, h5, h6, rfl⟩ := h
    have hm := mayB_two a (by omega) h2 [b, d, c]
    have g1 := secLo_ge a
    have g2 := secHi_le a
    have hmo : moreB a = 3 := by unfold moreB; rw [if_neg (by omega), if_neg (by omega)]
    by_cases hc : 128 ≤ c ∧ c ≤ 191
    · have hct : contB a [b, d, c] = true := by simp [contB, h3, h4, h5, h6, hc.1, hc.2]
      rw [hct] at hm
      rw [byteU_on (by simp) hc.1 hc.2, byteB_on (by simp) (by rw [List.cons_append, List.cons_append, List.singleton_append, hm]), List.cons_append, List.cons_append, List.singleton_append, hm]
      unfold onward
      simp [hmo, AlikeU, valueB, firstB]
      omega
    · have hct : contB a [b, d, c] = false := by simp [contB]; omega
      exact anew_alike (by simp) (by simp) hc (by rw [List.cons_append, List.cons_append, List.singleton_append, hm, hct])

/-- The document's runes of bytes. -/
def feedB : List Nat → List Nat → List Nat × List Nat
  | B, [] => (B, [])
  | B, b :: r => ((feedB (byteB B b).1 r).1, (byteB B b).2 ++ (feedB (byteB B b).1 r).2)

theorem feedB_snoc (B a : List Nat) (b : Nat) : feedB B (a ++ [b]) = ((byteB (feedB B a).1 b).1, (feedB B a).2 ++ (byteB (feedB B a).1 b).2) := by
  induction a generalizing B with
  | nil => simp [feedB]
  | cons x r ih => simp [feedB, ih, List.append_assoc]

theorem feed_alike {s : St} {B : List Nat} (h : AlikeU s B) (l : List Nat) : AlikeU (feedU s l).1 (feedB B l).1 ∧ (feedU s l).2 = (feedB B l).2 := by
  induction l generalizing s B with
  | nil => exact ⟨h, rfl⟩
  | cons b r ih =>
    have h1 := byte_alike h b
    have h2 := ih h1.1
    exact ⟨h2.1, by simp only [feedU, feedB]; rw [h1.2, h2.2]⟩

end Go.Proofs.Ytbjdcbnmpmcdiaa
