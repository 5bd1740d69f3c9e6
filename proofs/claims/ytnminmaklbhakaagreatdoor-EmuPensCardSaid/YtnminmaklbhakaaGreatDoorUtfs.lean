/- utf over lists: our Reader by numbers, the document's by bytes. It speaks of no program. Own work. utf.Reader in memory: further, second, has, Half, Flush. Own work. utf.Reader in memory: begin, goOn, take. By program in part. Own work. utf.Reader in memory: goOn, take. Own work. utf.Reader in memory: take. Own work. utf.Reader: Feed; of a nil one. Own work. -/
import Derived.Test.YtnminmaklbhakaaGreatDoorBase
import Derived.Laws.BitsLemmas
import Derived.Deep.RegionLaw
import Derived.Deep.Cut
set_option linter.unusedVariables false
set_option linter.unusedSimpArgs false
namespace Go.Proofs.YtnminmaklbhakaaGreatDoor
set_option linter.unusedVariables false
set_option linter.unusedSimpArgs false

/-- What a Reader keeps. -/
structure St where
  v : Nat
  half : Nat
  left : Nat
  lo : Nat
  hi : Nat
deriving DecidableEq

def St.z : St := ⟨0, 0, 0, 0, 0⟩

def secLo (b : Nat) : Nat := if b = 224 then 160 else if b = 240 then 144 else 128
def secHi (b : Nat) : Nat := if b = 237 then 159 else if b = 244 then 143 else 191

/-- A byte that is read as a first one. -/
def fresh (b : Nat) : St × List Nat :=
  if b < 128 then (.z, [b])
  else if 194 ≤ b ∧ b ≤ 223 then (⟨b % 32, 1, 1, secLo b, secHi b⟩, [])
  else if 224 ≤ b ∧ b ≤ 239 then (⟨b % 16, 1, 2, secLo b, secHi b⟩, [])
  else if 240 ≤ b ∧ b ≤ 244 then (⟨b % 8, 1, 3, secLo b, secHi b⟩, [])
  else (.z, [65533])

/-- A byte that goes on. -/
def onward (s : St) (b : Nat) : St × List Nat :=
  if s.left = 1 then (.z, [s.v * 64 + b % 64]) else (⟨s.v * 64 + b % 64, s.half + 1, s.left - 1, 128, 191⟩, [])

def badsU (s : St) : List Nat := if s.half = 0 then [] else [65533]

def byteU (s : St) (b : Nat) : St × List Nat :=
  if 0 < s.half ∧ s.lo ≤ b ∧ b ≤ s.hi then onward s b else ((fresh b).1, badsU s ++ (fresh b).2)

def feedU : St → List Nat → St × List Nat
  | s, [] => (s, [])
  | s, b :: r => ((feedU (byteU s b).1 r).1, (byteU s b).2 ++ (feedU (byteU s b).1 r).2)

theorem feedU_add (s : St) (a b : List Nat) : feedU s (a ++ b) = ((feedU (feedU s a).1 b).1, (feedU s a).2 ++ (feedU (feedU s a).1 b).2) := by
  induction a generalizing s with
  | nil => simp [feedU]
  | cons x r ih => simp [feedU, ih, List.append_assoc]

theorem feedU_snoc (s : St) (a : List Nat) (b : Nat) : feedU s (a ++ [b]) = ((byteU (feedU s a).1 b).1, (feedU s a).2 ++ (byteU (feedU s a).1 b).2) := by
  rw [feedU_add]; simp [feedU]

/-- What holds of every Reader. -/
def St.Ok (s : St) : Prop := s = .z ∨ (1 ≤ s.half ∧ s.half ≤ 3 ∧ 1 ≤ s.left ∧ s.half + s.left ≤ 4 ∧ 128 ≤ s.lo ∧ s.hi ≤ 191 ∧ (s.half = 1 → s.v < 64) ∧ (s.half = 2 → s.v < 4096) ∧ (s.half = 3 → s.v < 262144))

theorem secLo_ge (b : Nat) : 128 ≤ secLo b ∧ secLo b ≤ 160 := by unfold secLo; split <;> (try split) <;> omega
theorem secHi_le (b : Nat) : 143 ≤ secHi b ∧ secHi b ≤ 191 := by unfold secHi; split <;> (try split) <;> omega

theorem St.Ok.z : St.z.Ok := .inl rfl
theorem fresh_ok (b : Nat) : (fresh b).1.Ok := by
  have h1 := secLo_ge b
  have h2 := secHi_le b
  unfold fresh
  split
  · exact .inl rfl
  split
  · exact .inr (by simp; omega)
  split
  · exact .inr (by simp; omega)
  split
  · exact .inr (by simp; omega)
  · exact .inl rfl

theorem St.Ok.onward {s : St} (h : s.Ok) (hh : 0 < s.half) (b : Nat) : (onward s b).1.Ok := by
  rcases h with rfl | ⟨h1, h2, h3, h4, h5, h6, h7, h8, h9⟩
  · simp [St.z] at hh
  unfold Go.Proofs.YtnminmaklbhakaaGreatDoor.onward
  split
  · exact .inl rfl
  · refine .inr ⟨by simp, by simp; omega, by simp; omega, by simp; omega, by simp, by simp, ?_, ?_, ?_⟩
    · simp; omega
    · simp; intro e; have := h7 e; omega
    · simp; intro e; have := h8 e; omega

theorem St.Ok.byte {s : St} (h : s.Ok) (b : Nat) : (byteU s b).1.Ok := by
  unfold byteU
  split
  · rename_i hc; exact h.onward hc.1 b
  · exact fresh_ok b

theorem St.Ok.feed {s : St} (h : s.Ok) (l : List Nat) : (feedU s l).1.Ok := by
  induction l generalizing s with
  | nil => exact h
  | cons b r ih => exact ih (h.byte b)

theorem St.Ok.half3 {s : St} (h : s.Ok) : s.half ≤ 3 := by
  rcases h with rfl | h
  · simp [St.z]
  · exact h.2.1

theorem St.Ok.z_of {s : St} (h : s.Ok) (h0 : s.half = 0) : s = .z := by
  rcases h with h | h
  · exact h
  · omega

theorem St.Ok.v_lt {s : St} (h : s.Ok) : s.v < 262144 := by
  rcases h with rfl | ⟨h1, h2, -, -, -, -, h7, h8, h9⟩
  · simp [St.z]
  · rcases (show s.half = 1 ∨ s.half = 2 ∨ s.half = 3 by omega) with e | e | e
    · have := h7 e; omega
    · have := h8 e; omega
    · have := h9 e; omega

theorem fresh_len (b : Nat) : (fresh b).2.length ≤ 1 := by
  unfold fresh
  split
  · simp
  split
  · simp
  split
  · simp
  split <;> simp
theorem fresh_lt (b : Nat) : ∀ x ∈ (fresh b).2, x < 65536 := by
  unfold fresh
  split
  · intro x hx; simp at hx; omega
  split
  · simp
  split
  · simp
  split <;> simp
theorem byteU_lt {s : St} (h : s.Ok) (b : Nat) : ∀ x ∈ (byteU s b).2, x < 33554432 := by
  have hv := h.v_lt
  intro x hx
  unfold byteU onward badsU at hx
  split at hx
  · split at hx
    · simp at hx; omega
    · simp at hx
  · rcases List.mem_append.1 hx with e | e
    · split at e
      · simp at e
      · simp at e; omega
    · have := fresh_lt b x e; omega
theorem feedU_lt {s : St} (h : s.Ok) (l : List Nat) : ∀ x ∈ (feedU s l).2, x < 33554432 := by
  induction l generalizing s with
  | nil => simp [feedU]
  | cons b r ih =>
    intro x hx
    simp only [feedU] at hx
    rcases List.mem_append.1 hx with e | e
    · exact byteU_lt h b x e
    · exact ih (h.byte b) x e

/-- Is a rune half read? -/
def St.some (s : St) : Nat := if s.half = 0 then 0 else 1
theorem St.some_le (s : St) : s.some ≤ 1 := by unfold St.some; split <;> omega

/-- At most as many runes as bytes, half read ones beside. -/
theorem byteU_len {s : St} (h : s.Ok) (b : Nat) : (byteU s b).2.length + (byteU s b).1.some ≤ 1 + s.some := by
  unfold byteU onward badsU
  split
  · rename_i hc
    have h0 : s.half ≠ 0 := by omega
    split
    · simp [h0, St.z, St.some]
    · simp [h0, St.some]
  · have : (fresh b).2.length + (fresh b).1.some ≤ 1 := by
      unfold fresh
      split
      · simp [St.z, St.some]
      split
      · simp [St.some]
      split
      · simp [St.some]
      split <;> simp [St.z, St.some]
    rw [List.length_append]
    simp only
    by_cases h0 : s.half = 0
    · simp only [h0, if_true, List.length_nil]; omega
    · have : s.some = 1 := by simp [St.some, h0]
      simp only [h0, if_false, List.length_cons, List.length_nil]; omega

theorem feedU_len {s : St} (h : s.Ok) (l : List Nat) : (feedU s l).2.length + (feedU s l).1.some ≤ l.length + s.some := by
  induction l generalizing s with
  | nil => simp only [feedU, List.length_nil]; exact Nat.le_refl _
  | cons b r ih =>
    have h1 := byteU_len h b
    have h2 := ih (h.byte b)
    simp only [feedU, List.length_append, List.length_cons]
    omega

/-- Bytes of a text. -/
def natsOf (s : ByteArray) : List Nat := s.data.toList.map (·.toNat)

/-- Whatever cuts. -/
def feedsU : St → List ByteArray → St × List Nat
  | s, [] => (s, [])
  | s, x :: r => ((feedsU (feedU s (natsOf x)).1 r).1, (feedU s (natsOf x)).2 ++ (feedsU (feedU s (natsOf x)).1 r).2)

theorem feedsU_join (s : St) (xs : List ByteArray) : feedsU s xs = feedU s ((joinL xs).map (·.toNat)) := by
  induction xs generalizing s with
  | nil => simp [feedsU, joinL, feedU]
  | cons x r ih =>
    rw [show joinL (x :: r) = x.data.toList ++ joinL r from by simp [joinL], List.map_append, feedU_add]
    simp [feedsU, ih, natsOf]

theorem feedsU_add (s : St) (a b : List ByteArray) : feedsU s (a ++ b) = ((feedsU (feedsU s a).1 b).1, (feedsU s a).2 ++ (feedsU (feedsU s a).1 b).2) := by
  induction a generalizing s with
  | nil => simp [feedsU]
  | cons x r ih => simp [feedsU, ih, List.append_assoc]

theorem feedsU_one (s : St) (x : ByteArray) : feedsU s [x] = feedU s (natsOf x) := by simp [feedsU]

theorem St.Ok.feeds {s : St} (h : s.Ok) (l : List ByteArray) : (feedsU s l).1.Ok := by
  rw [feedsU_join]; exact h.feed _

/-- The document's: the bytes that are half read. -/
def contB (c : Nat) : List Nat → Bool
  | [] => true
  | b :: r => decide (secLo c ≤ b ∧ b ≤ secHi c) && r.all fun x => decide (128 ≤ x ∧ x ≤ 191)
def moreB (c : Nat) : Nat := if c < 224 then 1 else if c < 240 then 2 else 3
def mayB : List Nat → Bool × Bool
  | [] => (false, false)
  | c :: r => if c < 128 then (true, decide (r.length = 0)) else if 194 ≤ c ∧ c ≤ 244 then (if contB c r = true then (true, decide (r.length = moreB c)) else (false, false)) else (false, false)
def firstB (c n : Nat) : Nat := if n = 2 then c - 192 else if n = 3 then c - 224 else if n = 4 then c - 240 else c
def valueB : List Nat → Nat
  | [] => 0
  | c :: r => r.foldl (fun a b => a * 64 + b - 128) (firstB c (r.length + 1))
def byteB (B : List Nat) (c : Nat) : List Nat × List Nat :=
  if B ≠ [] ∧ (mayB (B ++ [c])).1 = true then (if (mayB (B ++ [c])).2 = true then ([], [valueB (B ++ [c])]) else (B ++ [c], []))
  else if (mayB [c]).1 = false then ([], (if B = [] then [] else [65533]) ++ [65533])
  else if (mayB [c]).2 = true then ([], (if B = [] then [] else [65533]) ++ [c])
  else ([c], if B = [] then [] else [65533])

/-- Both are at the same place. -/
def AlikeU (s : St) : List Nat → Prop
  | [] => s = .z
  | [a] => 194 ≤ a ∧ a ≤ 244 ∧ s = (fresh a).1
  | [a, b] => 224 ≤ a ∧ a ≤ 244 ∧ secLo a ≤ b ∧ b ≤ secHi a ∧ s = ⟨(if a < 240 then a % 16 else a % 8) * 64 + b % 64, 2, (if a < 240 then 1 else 2), 128, 191⟩
  | [a, b, c] => 240 ≤ a ∧ a ≤ 244 ∧ secLo a ≤ b ∧ b ≤ secHi a ∧ 128 ≤ c ∧ c ≤ 191 ∧ s = ⟨(a % 8 * 64 + b % 64) * 64 + c % 64, 3, 1, 128, 191⟩
  | _ => False

theorem AlikeU.half {s : St} {B : List Nat} (h : AlikeU s B) : s.half = B.length := by
  match B, h with
  | [], h => simp only [AlikeU] at h; rw [h]; rfl
  | [a], h =>
    simp only [AlikeU] at h
    rw [h.2.2]
    unfold fresh
    rw [if_neg (by omega)]
    by_cases h1 : a ≤ 223
    · rw [if_pos (by omega)]; rfl
    · rw [if_neg (by omega)]
      by_cases h2 : a ≤ 239
      · rw [if_pos (by omega)]; rfl
      · rw [if_neg (by omega), if_pos (by omega)]; rfl
  | [a, b], h => simp only [AlikeU] at h; rw [h.2.2.2.2]; rfl
  | [a, b, c], h => simp only [AlikeU] at h; rw [h.2.2.2.2.2.2]; rfl

theorem fresh_ab (a : Nat) (h1 : 194 ≤ a) (h2 : a ≤ 244) : (fresh a).1 = ⟨(if a < 224 then a % 32 else if a < 240 then a % 16 else a % 8), 1, moreB a, secLo a, secHi a⟩ ∧ (fresh a).2 = [] := by
  unfold fresh moreB
  rw [if_neg (by omega)]
  by_cases h3 : a ≤ 223
  · rw [if_pos (by omega), if_pos (by omega), if_pos (by omega)]; exact ⟨rfl, rfl⟩
  · rw [if_neg (by omega)]
    by_cases h4 : a ≤ 239
    · rw [if_pos (by omega), if_neg (by omega), if_pos (by omega), if_neg (by omega), if_pos (by omega)]; exact ⟨rfl, rfl⟩
    · rw [if_neg (by omega), if_pos (by omega), if_neg (by omega), if_neg (by omega), if_neg (by omega), if_neg (by omega)]; exact ⟨rfl, rfl⟩

/-- A byte that is read as a first one, by both. -/
theorem first_alike (c : Nat) : AlikeU (fresh c).1 (byteB [] c).1 ∧ (fresh c).2 = (byteB [] c).2 := by
  simp only [byteB, ne_eq, not_true_eq_false, false_and, if_false, if_true, List.nil_append]
  by_cases h1 : c < 128
  · simp [mayB, h1, fresh, AlikeU]
  · by_cases h2 : 194 ≤ c ∧ c ≤ 244
    · obtain ⟨e1, e2⟩ := fresh_ab c h2.1 h2.2
      have hm : moreB c ≠ 0 := by unfold moreB; split <;> (try split) <;> omega
      simp only [mayB, if_neg h1, if_pos h2, contB, if_true, List.length_nil]
      rw [if_neg (by simp), if_neg (by simp; omega)]
      exact ⟨⟨h2.1, h2.2, rfl⟩, e2⟩
    · simp only [mayB, if_neg h1, if_neg h2]
      simp only [fresh, if_neg h1]
      rw [if_neg (by omega), if_neg (by omega), if_neg (by omega)]
      exact ⟨rfl, rfl⟩

theorem byteB_anew {B : List Nat} {c : Nat} (hB : B ≠ []) (h : (mayB (B ++ [c])).1 = false) : byteB B c = ((byteB [] c).1, [65533] ++ (byteB [] c).2) := by
  simp only [byteB, ne_eq, hB, not_false_eq_true, true_and, h, not_true_eq_false, false_and, if_false, if_true, List.nil_append, Bool.false_eq_true]
  split
  · rfl
  · split <;> rfl

theorem byteB_on {B : List Nat} {c : Nat} (hB : B ≠ []) (h : (mayB (B ++ [c])).1 = true) : byteB B c = if (mayB (B ++ [c])).2 = true then ([], [valueB (B ++ [c])]) else (B ++ [c], []) := by
  simp only [byteB]
  rw [if_pos ⟨hB, h⟩]

theorem byteU_on {s : St} {b : Nat} (h : 0 < s.half) (h1 : s.lo ≤ b) (h2 : b ≤ s.hi) : byteU s b = onward s b := by
  unfold byteU; rw [if_pos ⟨h, h1, h2⟩]

theorem byteU_anew {s : St} {b : Nat} (h : 0 < s.half) (h1 : ¬ (s.lo ≤ b ∧ b ≤ s.hi)) : byteU s b = ((fresh b).1, [65533] ++ (fresh b).2) := by
  unfold byteU badsU; rw [if_neg (by intro x; exact h1 x.2), if_neg (by omega)]

theorem mayB_two (a : Nat) (h1 : 194 ≤ a) (h2 : a ≤ 244) (r : List Nat) : mayB (a :: r) = (contB a r, contB a r && decide (r.length = moreB a)) := by
  simp only [mayB, if_neg (show ¬ a < 128 by omega), if_pos (show 194 ≤ a ∧ a ≤ 244 from ⟨h1, h2⟩)]
  cases contB a r <;> simp

theorem anew_alike {s : St} {B : List Nat} {c : Nat} (hB : B ≠ []) (hs : 0 < s.half) (h1 : ¬ (s.lo ≤ c ∧ c ≤ s.hi)) (h2 : (mayB (B ++ [c])).1 = false) : AlikeU (byteU s c).1 (byteB B c).1 ∧ (byteU s c).2 = (byteB B c).2 := by
  have hf := first_alike c
  rw [byteU_anew hs h1, byteB_anew hB h2]
  exact ⟨hf.1, by rw [← hf.2]⟩

theorem byte_alike {s : St} {B : List Nat} (h : AlikeU s B) (c : Nat) : AlikeU (byteU s c).1 (byteB B c).1 ∧ (byteU s c).2 = (byteB B c).2 := by
  match B, h with
  | [], h =>
    simp only [AlikeU] at h
    subst h
    have := first_alike c
    unfold byteU
    rw [if_neg (by simp [St.z])]
    exact this
  | [a], h =>
    simp only [AlikeU] at h
    obtain ⟨h1, h2, rfl⟩ := h
    obtain ⟨e1, -⟩ := fresh_ab a h1 h2
    have hm := mayB_two a h1 h2 [c]
    have g1 := secLo_ge a
    have g2 := secHi_le a
    rw [e1]
    by_cases hc : secLo a ≤ c ∧ c ≤ secHi a
    · have hct : contB a [c] = true := by simp [contB, hc.1, hc.2]
      rw [hct] at hm
      rw [byteU_on (by simp) hc.1 hc.2, byteB_on (by simp) (by rw [List.singleton_append, hm]), List.singleton_append, hm]
      unfold onward
      by_cases h3 : a < 224
      · have : moreB a = 1 := by unfold moreB; rw [if_pos h3]
        simp [this, h3, AlikeU, valueB, firstB]
        omega
      · by_cases h4 : a < 240
        · have : moreB a = 2 := by unfold moreB; rw [if_neg h3, if_pos h4]
          simp [this, h3, h4, AlikeU]
          omega
        · have : moreB a = 3 := by unfold moreB; rw [if_neg h3, if_neg h4]
          simp [this, h3, h4, AlikeU]
          omega
    · have hct : contB a [c] = false := by simp [contB]; omega
      exact anew_alike (by simp) (by simp) hc (by rw [List.singleton_append, hm, hct])
  | [a, b], h =>
    simp only [AlikeU] at h
    obtain ⟨h1, h2, h3, h4, rfl⟩ := h
    have hm := mayB_two a (by omega) h2 [b, c]
    have g1 := secLo_ge a
    have g2 := secHi_le a
    by_cases hc : 128 ≤ c ∧ c ≤ 191
    · have hct : contB a [b, c] = true := by simp [contB, h3, h4, hc.1, hc.2]
      rw [hct] at hm
      rw [byteU_on (by simp) hc.1 hc.2, byteB_on (by simp) (by rw [List.cons_append, List.singleton_append, hm]), List.cons_append, List.singleton_append, hm]
      unfold onward
      by_cases h5 : a < 240
      · have : moreB a = 2 := by unfold moreB; rw [if_neg (by omega), if_pos h5]
        simp [this, h5, AlikeU, valueB, firstB]
        omega
      · have : moreB a = 3 := by unfold moreB; rw [if_neg (by omega), if_neg h5]
        simp [this, h5, AlikeU]
        omega
    · have hct : contB a [b, c] = false := by simp [contB]; omega
      exact anew_alike (by simp) (by simp) hc (by rw [List.cons_append, List.singleton_append, hm, hct])
  | [a, b, d], h =>
    simp only [AlikeU] at h
    obtain ⟨h1, h2, h3, h4, h5, h6, rfl⟩ := h
    have hm := mayB_two a (by omega) h2 [b, d, c]
    have g1 := secLo_ge a
    have g2 := secHi_le a
    have hmo : moreB a = 3 := by unfold moreB; rw [if_neg (by omega), if_neg (by omega)]
    by_cases hc : 128 ≤ c ∧ c ≤ 191
    · have hct : contB a [b, d, c] = true := by simp [contB, h3, h4, h5, h6, hc.1, hc.2]
      rw [hct] at hm
      rw [byteU_on (by simp) hc.1 hc.2, byteB_on (by simp) (by rw [List.cons_append, List.cons_append, List.singleton_append, hm]), List.cons_append, List.cons_append, List.singleton_append, hm]
      unfold onward
      simp [hmo, AlikeU, valueB, firstB]
      omega
    · have hct : contB a [b, d, c] = false := by simp [contB]; omega
      exact anew_alike (by simp) (by simp) hc (by rw [List.cons_append, List.cons_append, List.singleton_append, hm, hct])

/-- The document's runes of bytes. -/
def feedB : List Nat → List Nat → List Nat × List Nat
  | B, [] => (B, [])
  | B, b :: r => ((feedB (byteB B b).1 r).1, (byteB B b).2 ++ (feedB (byteB B b).1 r).2)

theorem feedB_snoc (B a : List Nat) (b : Nat) : feedB B (a ++ [b]) = ((byteB (feedB B a).1 b).1, (feedB B a).2 ++ (byteB (feedB B a).1 b).2) := by
  induction a generalizing B with
  | nil => simp [feedB]
  | cons x r ih => simp [feedB, ih, List.append_assoc]

theorem feed_alike {s : St} {B : List Nat} (h : AlikeU s B) (l : List Nat) : AlikeU (feedU s l).1 (feedB B l).1 ∧ (feedU s l).2 = (feedB B l).2 := by
  induction l generalizing s B with
  | nil => exact ⟨h, rfl⟩
  | cons b r ih =>
    have h1 := byte_alike h b
    have h2 := ih h1.1
    exact ⟨h2.1, by simp only [feedU, feedB]; rw [h1.2, h2.2]⟩

end Go.Proofs.YtnminmaklbhakaaGreatDoor
namespace Go.Proofs.YtnminmaklbhakaaGreatDoor
set_option linter.unusedVariables false
set_option linter.unusedSimpArgs false
open Go.RowKit

/-- Blocks but those of S stay; of block p, if it was there, the cells outside o .. o + 5. -/
structure KF (p o : Nat) (S : Nat → Prop) (w w' : World) : Prop where
  k : Keep S w w'
  f : p < w.heap.size → ∀ i, i < o ∨ o + 5 ≤ i → w'.cell? ⟨p, i, none⟩ = w.cell? ⟨p, i, none⟩ ∧ w'.frozen? ⟨p, i, none⟩ = w.frozen? ⟨p, i, none⟩
namespace KF
variable {p o : Nat} {S S' : Nat → Prop} {w w1 w2 : World}
theorem refl (p o : Nat) (S : Nat → Prop) (w : World) : KF p o S w w := ⟨Keep.refl _ _, fun _ _ _ => ⟨rfl, rfl⟩⟩
theorem size (h : KF p o S w w1) : w.heap.size ≤ w1.heap.size := h.k.size
theorem trans (h : KF p o S w w1) (k : KF p o S' w1 w2) (hs : ∀ i, i < w.heap.size → S' i → S i) : KF p o S w w2 :=
  ⟨h.k.trans k.k hs, fun hp i hi => ⟨(k.f (Nat.lt_of_lt_of_le hp h.k.size) i hi).1.trans (h.f hp i hi).1, (k.f (Nat.lt_of_lt_of_le hp h.k.size) i hi).2.trans (h.f hp i hi).2⟩⟩
theorem mono (h : KF p o S w w1) (hs : ∀ i, i < w.heap.size → S i → S' i) : KF p o S' w w1 := ⟨h.k.mono hs, h.f⟩
theorem drew (h : KF p o S w w1) : KF p o S w w1.drew := ⟨h.k.drew, h.f⟩
theorem of_keep (h : Keep S w w1) (hn : ¬ S p) : KF p o S w w1 := ⟨h, fun hp i _ => ⟨h.cell (p := ⟨p, i, none⟩) hp hn, h.frozen (p := ⟨p, i, none⟩) hp hn⟩⟩
theorem of_below (p o : Nat) (S : Nat → Prop) (h : Below w.heap.size w w1) : KF p o S w w1 := ⟨Keep.of_below S h, fun hp i _ => ⟨h.cell (p := ⟨p, i, none⟩) hp, h.frozen (p := ⟨p, i, none⟩) hp⟩⟩
theorem alloc (h : KF p o S w w1) (x : Obj) : KF p o S w (w1.alloc x) :=
  h.trans (of_below p o (fun _ => False) ((Below.refl _ w1).alloc (Nat.le_refl _) x)) (fun _ _ x => x.elim)
theorem set (h : KF p o S w w1) (i : Nat) (h1 : o ≤ i) (h2 : i < o + 5) (hS : S p) (u : Value) : KF p o S w (w1.setCell ⟨p, i, none⟩ u) :=
  ⟨h.k.setCell (p := ⟨p, i, none⟩) (fun _ => hS) u, fun hp j hj => ⟨(World.cell?_setCell_other _ ⟨p, i, none⟩ ⟨p, j, none⟩ _ (by simp <;> omega)).trans (h.f hp j hj).1, by rw [World.frozen?_setCell]; exact (h.f hp j hj).2⟩⟩
end KF

/-- A Reader that lies at p, o. -/
structure RdU (w : World) (p o : Nat) (s : St) : Prop where
  c0 : Cell w p o (.int .i32 (s.v : Int))
  c1 : Cell w p (o + 1) (.int .i64 (s.half : Int))
  c2 : Cell w p (o + 2) (.int .i64 (s.left : Int))
  c3 : Cell w p (o + 3) (.int .u8 (s.lo : Int))
  c4 : Cell w p (o + 4) (.int .u8 (s.hi : Int))
  ok : s.Ok

namespace RdU
variable {w w' : World} {p o : Nat} {s : St}
theorem lt (h : RdU w p o s) : p < w.heap.size := h.c0.lt
theorem keep {S : Nat → Prop} (h : RdU w p o s) (k : Keep S w w') (hp : ¬ S p) : RdU w' p o s :=
  ⟨h.c0.keep k hp, h.c1.keep k hp, h.c2.keep k hp, h.c3.keep k hp, h.c4.keep k hp, h.ok⟩
theorem drewN (h : RdU w p o s) (n : Nat) : RdU (w.drewN n) p o s := h.keep (S := fun _ => False) ((Keep.refl _ w).drewN n) (fun x => x)
theorem alloc (h : RdU w p o s) (x : Obj) : RdU (w.alloc x) p o s := h.keep (S := fun _ => False) ((Keep.refl _ w).alloc x) (fun x => x)
theorem below (h : RdU w p o s) (k : Below w.heap.size w w') : RdU w' p o s := h.keep (S := fun _ => False) (Keep.of_below _ k) (fun x => x)
/-- All cells set anew. -/
theorem put (h : RdU w p o s) (t : St) (ht : t.Ok) :
    RdU (((((w.setCell ⟨p, o, none⟩ (.int .i32 (t.v : Int))).setCell ⟨p, o + 1, none⟩ (.int .i64 (t.half : Int))).setCell ⟨p, o + 2, none⟩ (.int .i64 (t.left : Int))).setCell ⟨p, o + 3, none⟩ (.int .u8 (t.lo : Int))).setCell ⟨p, o + 4, none⟩ (.int .u8 (t.hi : Int))) p o t :=
  ⟨((((h.c0.set _).far (by omega) _).far (by omega) _).far (by omega) _).far (by omega) _,
   ((((h.c1.far (by omega) _).set _).far (by omega) _).far (by omega) _).far (by omega) _,
   ((((h.c2.far (by omega) _).far (by omega) _).set _).far (by omega) _).far (by omega) _,
   ((((h.c3.far (by omega) _).far (by omega) _).far (by omega) _).set _).far (by omega) _,
   ((((h.c4.far (by omega) _).far (by omega) _).far (by omega) _).far (by omega) _).set _, ht⟩
theorem made (w : World) (t : TypeId) : RdU (w.alloc (.cells #[.int .i32 0, .int .i64 0, .int .i64 0, .int .u8 0, .int .u8 0] t)) w.heap.size 0 .z :=
  ⟨Cell.box 0 rfl, Cell.box 1 rfl, Cell.box 2 rfl, Cell.box 3 rfl, Cell.box 4 rfl, .z⟩
end RdU

theorem keep_put (w : World) (p o : Nat) (a b c d e : Value) : KF p o (· = p) w (((((w.setCell ⟨p, o, none⟩ a).setCell ⟨p, o + 1, none⟩ b).setCell ⟨p, o + 2, none⟩ c).setCell ⟨p, o + 3, none⟩ d).setCell ⟨p, o + 4, none⟩ e) :=
  (((((KF.refl p o (· = p) w).set o (by omega) (by omega) rfl a).set (o + 1) (by omega) (by omega) rfl b).set (o + 2) (by omega) (by omega) rfl c).set (o + 3) (by omega) (by omega) rfl d).set (o + 4) (by omega) (by omega) rfl e

set_option maxHeartbeats 800000 in
theorem utf_further (w : World) :
    Calls Tryz.prog 154 #[] w fun e w' => e = .returned (.agg #[.int .u8 128, .int .u8 191]) ∧ Below w.heap.size w w' := by
  go_enter Tryz.func154, Tryz.ntmps154
  go_wp2_with fail
  refine bodyPost_ret (v := .agg #[.int .u8 128, .int .u8 191]) (by simp [results, Tryz.results154, go_sem]) rfl ⟨rfl, ?_⟩
  repeat (first | exact Below.refl _ _ | (refine Below.setCell ?_ (by simp) _) | (refine Below.alloc ?_ (by simp) _))

/-- A block that was just laid, behind a call. -/
theorem box_call {w w1 : World} {u0 u1 : Value} {t : TypeId} (hb : Below (w.alloc (.cells #[u0, u1] t)).heap.size (w.alloc (.cells #[u0, u1] t)) w1) :
    Below w.heap.size w w1 ∧ w.heap.size < w1.heap.size ∧ w1.cell? ⟨w.heap.size, 0, none⟩ = some u0 ∧ w1.cell? ⟨w.heap.size, 1, none⟩ = some u1 ∧ w1.frozen? ⟨w.heap.size, 0, none⟩ = false ∧ w1.frozen? ⟨w.heap.size, 1, none⟩ = false :=
  ⟨((Below.refl w.heap.size w).alloc (Nat.le_refl _) _).trans (hb.mono (by simp)), by have := hb.size; simp at this; omega,
    (hb.cell (p := ⟨w.heap.size, 0, none⟩) (by simp)).trans (by simp [go_sem, Array.size_push]), (hb.cell (p := ⟨w.heap.size, 1, none⟩) (by simp)).trans (by simp [go_sem, Array.size_push]),
    (hb.frozen (p := ⟨w.heap.size, 0, none⟩) (by simp)).trans (by simp [go_sem, Array.size_push]), (hb.frozen (p := ⟨w.heap.size, 1, none⟩) (by simp)).trans (by simp [go_sem, Array.size_push])⟩

set_option maxHeartbeats 3200000 in
theorem utf_second (b : Nat) (w : World) (hb : b < 256) :
    Calls Tryz.prog 155 #[.int .u8 (b : Int)] w fun e w' => e = .returned (.agg #[.int .u8 (secLo b : Int), .int .u8 (secHi b : Int)]) ∧ Below w.heap.size w w' := by
  obtain ⟨x, hx⟩ : ∃ x, secLo b = x := ⟨_, rfl⟩
  obtain ⟨y, hy⟩ : ∃ y, secHi b = y := ⟨_, rfl⟩
  rw [hx, hy]
  have h1 : ((b : Int) == 224) = decide (b = 224) := by rw [Bool.eq_iff_iff]; simp; omega
  have h2 : ((b : Int) == 237) = decide (b = 237) := by rw [Bool.eq_iff_iff]; simp; omega
  have h3 : ((b : Int) == 240) = decide (b = 240) := by rw [Bool.eq_iff_iff]; simp; omega
  have h4 : ((b : Int) == 244) = decide (b = 244) := by rw [Bool.eq_iff_iff]; simp; omega
  have hcase : (b = 224 ∧ x = 160 ∧ y = 191) ∨ (b = 237 ∧ x = 128 ∧ y = 159) ∨ (b = 240 ∧ x = 144 ∧ y = 191) ∨ (b = 244 ∧ x = 128 ∧ y = 143) ∨ (b ≠ 224 ∧ b ≠ 237 ∧ b ≠ 240 ∧ b ≠ 244 ∧ x = 128 ∧ y = 191) := by
    subst hx hy
    unfold secLo secHi
    by_cases e1 : b = 224
    · subst e1; simp
    by_cases e2 : b = 237
    · subst e2; simp
    by_cases e3 : b = 240
    · subst e3; simp
    by_cases e4 : b = 244
    · subst e4; simp
    · simp [e1, e2, e3, e4]
  clear hx hy
  rcases hcase with ⟨e, rfl, rfl⟩ | ⟨e, rfl, rfl⟩ | ⟨e, rfl, rfl⟩ | ⟨e, rfl, rfl⟩ | ⟨e1, e2, e3, e4, rfl, rfl⟩
  all_goals
    simp only [*, decide_true, decide_false, reduceCtorEq] at h1 h2 h3 h4
    try (subst e; simp at h1 h2 h3 h4)
    go_enter Tryz.func155, Tryz.ntmps155
    go_wp2_with fail
    refine (utf_further _).mono ?_
    rintro e w1 ⟨rfl, hb⟩
    obtain ⟨hB, hz, c0, c1, f0, f1⟩ := box_call hb
    have HB := Lib.hid hB
    clear hb hB
    go_wp2_with fail
    refine bodyPost_ret (v := .agg #[.int .u8 _, .int .u8 _]) (by simp [results, Tryz.results155, go_sem, hz, c0, c1]) rfl ⟨rfl, ?_⟩
    repeat (first | exact HB.out | (refine Below.setCell ?_ (by simp) _) | (refine Below.alloc ?_ (by simp; try omega) _))

theorem utf_has (lo hi b : Nat) (w : World) (r : Bool) (hr : decide (lo ≤ b ∧ b ≤ hi) = r) :
    Calls Tryz.prog 139 #[.agg #[.int .u8 (lo : Int), .int .u8 (hi : Int)], .int .u8 (b : Int)] w fun e w' => e = .returned (.bool r) ∧ Below w.heap.size w w' := by
  subst hr
  by_cases h1 : lo ≤ b
  · by_cases h2 : b ≤ hi
    · have k1 : (lo : Int) ≤ (b : Int) := by omega
      have k2 : (b : Int) ≤ (hi : Int) := by omega
      rw [decide_eq_true (show lo ≤ b ∧ b ≤ hi from ⟨h1, h2⟩)]
      clear h1 h2
      go_enter Tryz.func139, Tryz.ntmps139
      go_wp2_with fail
      go_ret
      exact ⟨rfl, (Below.refl _ _).alloc (Nat.le_refl _) _⟩
    · have k1 : (lo : Int) ≤ (b : Int) := by omega
      have k2 : ¬ (b : Int) ≤ (hi : Int) := by omega
      rw [decide_eq_false (show ¬ (lo ≤ b ∧ b ≤ hi) from fun x => h2 x.2)]
      clear h1 h2
      go_enter Tryz.func139, Tryz.ntmps139
      go_wp2_with fail
      go_ret
      exact ⟨rfl, (Below.refl _ _).alloc (Nat.le_refl _) _⟩
  · have k1 : ¬ (lo : Int) ≤ (b : Int) := by omega
    rw [decide_eq_false (show ¬ (lo ≤ b ∧ b ≤ hi) from fun x => h1 x.1)]
    clear h1
    go_enter Tryz.func139, Tryz.ntmps139
    go_wp2_with fail
    go_ret
    exact ⟨rfl, (Below.refl _ _).alloc (Nat.le_refl _) _⟩

set_option maxHeartbeats 800000 in
theorem utf_half (p o : Nat) (s : St) (w : World) (h : RdU w p o s) :
    Calls Tryz.prog 82 #[.pointer (some ⟨p, o, none⟩)] w fun e w' => e = .returned (.int .i64 (s.half : Int)) ∧ w' = w := by
  have c1 := h.c1.1
  clear h
  go_enter Tryz.func82, Tryz.ntmps82
  go_wp2_with fail
  go_ret
  exact ⟨rfl, rfl⟩

set_option maxHeartbeats 800000 in
theorem utf_half_nil (w : World) :
    Calls Tryz.prog 82 #[.pointer none] w fun e w' => e = .returned (.int .i64 0) ∧ w' = w := by
  go_enter Tryz.func82, Tryz.ntmps82
  go_wp2_with fail
  go_ret
  exact ⟨rfl, rfl⟩

set_option maxHeartbeats 800000 in
theorem utf_flush_nil (w : World) :
    Calls Tryz.prog 59 #[.pointer none] w fun e w' => e = .returned (.slice none 0 0) ∧ w' = w := by
  go_enter Tryz.func59, Tryz.ntmps59
  go_wp2_with fail
  refine (utf_half_nil _).mono ?_
  rintro e w1 ⟨rfl, rfl⟩
  go_wp2_with fail
  go_ret
  exact ⟨rfl, rfl⟩

/-- Runes, as the program's numbers. -/
def rs (l : List Nat) : List Int := l.map fun n : Nat => (n : Int)
theorem rs_add (a b : List Nat) : rs (a ++ b) = rs a ++ rs b := by simp [rs]
theorem rs_len (a : List Nat) : (rs a).length = a.length := by simp [rs]

theorem own_new1 (w : World) (u : Value) (e : TypeId) {g B : Nat} (hg : g = w.heap.size) (hB : B ≤ g) : (w.alloc (.cells #[u] e)).ownsRow B e 1 (.slice (some ⟨g, 0, none⟩) 1 1) 1 [u] := by
  subst hg
  exact ⟨rfl, .inr ⟨w.heap.size, 1, #[u], rfl, hB, heap_alloc_new w _, by omega, by unfold maxLen; omega, by simp, by simp⟩⟩

/-- What a call answers that turns the Reader alone. -/
def URes (p o : Nat) (w : World) (x : St × List Nat) (e : Ending) (w' : World) : Prop :=
  ∃ v, e = .returned v ∧ w'.ownsRow w.heap.size 21 1 v x.2.length ((rs x.2).map (Value.int .i32)) ∧ RdU w' p o x.1 ∧ KF p o (· = p) w w'

set_option maxHeartbeats 800000 in
theorem utf_flush (p o : Nat) (s : St) (w : World) (h : RdU w p o s) :
    Calls Tryz.prog 59 #[.pointer (some ⟨p, o, none⟩)] w (URes p o w (.z, badsU s)) := by
  have H := Lib.hid h
  have c0 := h.c0.1
  have c1 := h.c1.1
  have c2 := h.c2.1
  have c3 := h.c3.1
  have c4 := h.c4.1
  have f0 := h.c0.2
  have f1 := h.c1.2
  have f2 := h.c2.2
  have f3 := h.c3.2
  have f4 := h.c4.2
  by_cases h0 : s.half = 0
  · obtain rfl := h.ok.z_of h0
    clear h h0
    go_enter Tryz.func59, Tryz.ntmps59
    go_wp2_with fail
    refine (utf_half p o _ _ H.out).mono ?_
    rintro e w1 ⟨rfl, rfl⟩
    go_wp2_with fail
    go_ret
    exact ⟨_, rfl, World.ownsRow_nil _ _ _ _, H.out, KF.refl _ _ _ _⟩
  · have hn : ((s.half : Int) == 0) = false := by simp; omega
    clear h
    go_enter Tryz.func59, Tryz.ntmps59
    go_wp2_with fail
    refine (utf_half p o _ _ H.out).mono ?_
    rintro e w1 ⟨rfl, rfl⟩
    go_wp2_with fail
    go_ret
    have hs : badsU s = [65533] := by simp [badsU, h0]
    refine ⟨_, rfl, ?_, (H.out.put .z .z).alloc _, (keep_put _ _ _ _ _ _ _ _).alloc _⟩
    rw [hs]
    exact own_new1 _ _ _ (by simp) (by simp)

end Go.Proofs.YtnminmaklbhakaaGreatDoor
namespace Go.Proofs.YtnminmaklbhakaaGreatDoor
set_option linter.unusedVariables false
set_option linter.unusedSimpArgs false
open Go.RowKit

/-- A list that grows, and a Reader that turns. -/
def LRes (p o B : Nat) (v : Value) (xs : List Int) (w : World) (x : St × List Nat) (e : Ending) (w' : World) : Prop :=
  ∃ v', e = .returned v' ∧ w'.ownsRow B 21 1 v' (xs ++ rs x.2).length ((xs ++ rs x.2).map (Value.int .i32)) ∧ RdU w' p o x.1 ∧ KF p o (fun k => k = p ∨ v.ownBlock = some k) w w' ∧ (∀ k, v'.ownBlock = some k → v.ownBlock = some k ∨ w.heap.size ≤ k)

theorem and31 (b : Nat) (h : b < 256) : bits .and .u8 (b : Int) 31 = ((b % 32 : Nat) : Int) := by
  rw [show bits .and .u8 (b : Int) 31 = (b : Int) % 32 from bits_mask .u8 8 (by decide) wraps_u8 5 (by decide) (b : Int) (by omega) (by omega)]; omega
theorem and15 (b : Nat) (h : b < 256) : bits .and .u8 (b : Int) 15 = ((b % 16 : Nat) : Int) := by
  rw [show bits .and .u8 (b : Int) 15 = (b : Int) % 16 from bits_mask .u8 8 (by decide) wraps_u8 4 (by decide) (b : Int) (by omega) (by omega)]; omega
theorem and7 (b : Nat) (h : b < 256) : bits .and .u8 (b : Int) 7 = ((b % 8 : Nat) : Int) := by
  rw [show bits .and .u8 (b : Int) 7 = (b : Int) % 8 from bits_mask .u8 8 (by decide) wraps_u8 3 (by decide) (b : Int) (by omega) (by omega)]; omega
theorem and63 (b : Nat) (h : b < 256) : bits .and .u8 (b : Int) 63 = ((b % 64 : Nat) : Int) := by
  rw [show bits .and .u8 (b : Int) 63 = (b : Int) % 64 from bits_mask .u8 8 (by decide) wraps_u8 6 (by decide) (b : Int) (by omega) (by omega)]; omega
theorem i32_nat (n : Nat) (h : n < 2147483648) : IntKind.i32.wrap (n : Int) = (n : Int) := by rw [IntKind.wrap_i32]; omega

section
variable {p o B : Nat} {v : Value} {xs : List Int} {w : World}
/-- One rune is appended; the Reader is what it was. -/
theorem LRes.one {n : Nat} {s t : St} {w1 w2 : World} {v' : Value} (h : RdU w1 p o t) (k1 : KF p o (fun k => k = p) w w1) (hv : ∀ k, v.ownBlock = some k → k ≠ p)
    (ho : w2.ownsRow B 21 1 v' (xs.length + 1) (xs.map (Value.int .i32) ++ [.int .i32 (n : Int)])) (kk : Keep (fun k => v.ownBlock = some k) w1 w2) (ha : ∀ k, v'.ownBlock = some k → v.ownBlock = some k ∨ w1.heap.size ≤ k) :
    LRes p o B v xs w (t, [n]) (.returned v') w2 := by
  refine ⟨v', rfl, ?_, h.keep kk (fun e => hv p e rfl), (k1.mono (fun _ _ x => .inl x)).trans (KF.of_keep kk (fun e => hv p e rfl)) (fun _ _ x => .inr x), fun k hk => (ha k hk).imp id (fun x => Nat.le_trans k1.size x)⟩
  rw [List.length_append, rs_len, List.map_append]
  exact ho
end

set_option maxHeartbeats 1600000 in
theorem utf_begin_two (p o B : Nat) (v : Value) (xs : List Int) (b : Nat) (w : World) (h : RdU w p o .z) (hv : w.ownsRow B 21 1 v xs.length (xs.map (Value.int .i32))) (hp : ∀ k, v.ownBlock = some k → k ≠ p) (h1 : 194 ≤ b) (h2 : b ≤ 223) :
    Calls Tryz.prog 141 #[.pointer (some ⟨p, o, none⟩), v, .int .u8 (b : Int)] w (LRes p o B v xs w (fresh b)) := by
  have HS := Lib.hid (fun W => utf_second b W (by omega))
  have hm := and31 b (by omega)
  have hw := i32_nat (b % 32) (by omega)
  have k128 : ¬ (b : Int) < 128 := by omega
  have k194 : (194 : Int) ≤ (b : Int) := by omega
  have k223 : (b : Int) ≤ 223 := by omega
  have k224 : ¬ (224 : Int) ≤ (b : Int) := by omega
  have k239 : (b : Int) ≤ 239 := by omega
  have k240 : ¬ (240 : Int) ≤ (b : Int) := by omega
  have k244 : (b : Int) ≤ 244 := by omega
  have hfr : fresh b = (⟨b % 32, 1, 1, secLo b, secHi b⟩, []) := by
    unfold fresh
    rw [if_neg (by omega)]
    repeat (first | rw [if_pos (by omega)] | rw [if_neg (by omega)])
  have HF := Lib.hid hfr
  have H := Lib.hid h
  have HV := Lib.hid hv
  have HP := Lib.hid hp
  clear h hv hp hfr h1 h2
  go_enter Tryz.func141, Tryz.ntmps141
  go_wp2_with fail
  refine (HS.out _).mono ?_
  rintro e w1 ⟨rfl, hb⟩
  have R := H.out.below hb
  have HR := Lib.hid R
  have HB := Lib.hid hb
  have c0 := R.c0.1
  have c1 := R.c1.1
  have c2 := R.c2.1
  have c3 := R.c3.1
  have c4 := R.c4.1
  have f0 := R.c0.2
  have f1 := R.c1.2
  have f2 := R.c2.2
  have f3 := R.c3.2
  have f4 := R.c4.2
  clear hb R
  go_wp2_with fail
  go_ret
  rw [HF.out]
  have hok : St.Ok ⟨b % 32, 1, 1, secLo b, secHi b⟩ := by have := fresh_ok b; rw [HF.out] at this; exact this
  have kk := (KF.of_below p o (fun k => k = p) HB.out).trans (keep_put w1 p o (.int .i32 ((b % 32 : Nat) : Int)) (.int .i64 1) (.int .i64 1) (.int .u8 (secLo b : Int)) (.int .u8 (secHi b : Int))) (fun _ _ x => x)
  refine ⟨v, rfl, ?_, HR.out.put ⟨b % 32, 1, 1, secLo b, secHi b⟩ hok, kk.mono (fun _ _ x => .inl x), fun k hk => .inl hk⟩
  simp only [rs, List.map_nil, List.append_nil]
  exact own_keep HV.out kk.k (fun k hk e => HP.out k hk e)

set_option maxHeartbeats 1600000 in
theorem utf_begin_three (p o B : Nat) (v : Value) (xs : List Int) (b : Nat) (w : World) (h : RdU w p o .z) (hv : w.ownsRow B 21 1 v xs.length (xs.map (Value.int .i32))) (hp : ∀ k, v.ownBlock = some k → k ≠ p) (h1 : 224 ≤ b) (h2 : b ≤ 239) :
    Calls Tryz.prog 141 #[.pointer (some ⟨p, o, none⟩), v, .int .u8 (b : Int)] w (LRes p o B v xs w (fresh b)) := by
  have HS := Lib.hid (fun W => utf_second b W (by omega))
  have hm := and15 b (by omega)
  have hw := i32_nat (b % 16) (by omega)
  have k128 : ¬ (b : Int) < 128 := by omega
  have k194 : (194 : Int) ≤ (b : Int) := by omega
  have k223 : ¬ (b : Int) ≤ 223 := by omega
  have k224 : (224 : Int) ≤ (b : Int) := by omega
  have k239 : (b : Int) ≤ 239 := by omega
  have k240 : ¬ (240 : Int) ≤ (b : Int) := by omega
  have k244 : (b : Int) ≤ 244 := by omega
  have hfr : fresh b = (⟨b % 16, 1, 2, secLo b, secHi b⟩, []) := by
    unfold fresh
    rw [if_neg (by omega)]
    repeat (first | rw [if_pos (by omega)] | rw [if_neg (by omega)])
  have HF := Lib.hid hfr
  have H := Lib.hid h
  have HV := Lib.hid hv
  have HP := Lib.hid hp
  clear h hv hp hfr h1 h2
  go_enter Tryz.func141, Tryz.ntmps141
  go_wp2_with fail
  refine (HS.out _).mono ?_
  rintro e w1 ⟨rfl, hb⟩
  have R := H.out.below hb
  have HR := Lib.hid R
  have HB := Lib.hid hb
  have c0 := R.c0.1
  have c1 := R.c1.1
  have c2 := R.c2.1
  have c3 := R.c3.1
  have c4 := R.c4.1
  have f0 := R.c0.2
  have f1 := R.c1.2
  have f2 := R.c2.2
  have f3 := R.c3.2
  have f4 := R.c4.2
  clear hb R
  go_wp2_with fail
  go_ret
  rw [HF.out]
  have hok : St.Ok ⟨b % 16, 1, 2, secLo b, secHi b⟩ := by have := fresh_ok b; rw [HF.out] at this; exact this
  have kk := (KF.of_below p o (fun k => k = p) HB.out).trans (keep_put w1 p o (.int .i32 ((b % 16 : Nat) : Int)) (.int .i64 1) (.int .i64 2) (.int .u8 (secLo b : Int)) (.int .u8 (secHi b : Int))) (fun _ _ x => x)
  refine ⟨v, rfl, ?_, HR.out.put ⟨b % 16, 1, 2, secLo b, secHi b⟩ hok, kk.mono (fun _ _ x => .inl x), fun k hk => .inl hk⟩
  simp only [rs, List.map_nil, List.append_nil]
  exact own_keep HV.out kk.k (fun k hk e => HP.out k hk e)

set_option maxHeartbeats 1600000 in
theorem utf_begin_four (p o B : Nat) (v : Value) (xs : List Int) (b : Nat) (w : World) (h : RdU w p o .z) (hv : w.ownsRow B 21 1 v xs.length (xs.map (Value.int .i32))) (hp : ∀ k, v.ownBlock = some k → k ≠ p) (h1 : 240 ≤ b) (h2 : b ≤ 244) :
    Calls Tryz.prog 141 #[.pointer (some ⟨p, o, none⟩), v, .int .u8 (b : Int)] w (LRes p o B v xs w (fresh b)) := by
  have HS := Lib.hid (fun W => utf_second b W (by omega))
  have hm := and7 b (by omega)
  have hw := i32_nat (b % 8) (by omega)
  have k128 : ¬ (b : Int) < 128 := by omega
  have k194 : (194 : Int) ≤ (b : Int) := by omega
  have k223 : ¬ (b : Int) ≤ 223 := by omega
  have k224 : (224 : Int) ≤ (b : Int) := by omega
  have k239 : ¬ (b : Int) ≤ 239 := by omega
  have k240 : (240 : Int) ≤ (b : Int) := by omega
  have k244 : (b : Int) ≤ 244 := by omega
  have hfr : fresh b = (⟨b % 8, 1, 3, secLo b, secHi b⟩, []) := by
    unfold fresh
    rw [if_neg (by omega)]
    repeat (first | rw [if_pos (by omega)] | rw [if_neg (by omega)])
  have HF := Lib.hid hfr
  have H := Lib.hid h
  have HV := Lib.hid hv
  have HP := Lib.hid hp
  clear h hv hp hfr h1 h2
  go_enter Tryz.func141, Tryz.ntmps141
  go_wp2_with fail
  refine (HS.out _).mono ?_
  rintro e w1 ⟨rfl, hb⟩
  have R := H.out.below hb
  have HR := Lib.hid R
  have HB := Lib.hid hb
  have c0 := R.c0.1
  have c1 := R.c1.1
  have c2 := R.c2.1
  have c3 := R.c3.1
  have c4 := R.c4.1
  have f0 := R.c0.2
  have f1 := R.c1.2
  have f2 := R.c2.2
  have f3 := R.c3.2
  have f4 := R.c4.2
  clear hb R
  go_wp2_with fail
  go_ret
  rw [HF.out]
  have hok : St.Ok ⟨b % 8, 1, 3, secLo b, secHi b⟩ := by have := fresh_ok b; rw [HF.out] at this; exact this
  have kk := (KF.of_below p o (fun k => k = p) HB.out).trans (keep_put w1 p o (.int .i32 ((b % 8 : Nat) : Int)) (.int .i64 1) (.int .i64 3) (.int .u8 (secLo b : Int)) (.int .u8 (secHi b : Int))) (fun _ _ x => x)
  refine ⟨v, rfl, ?_, HR.out.put ⟨b % 8, 1, 3, secLo b, secHi b⟩ hok, kk.mono (fun _ _ x => .inl x), fun k hk => .inl hk⟩
  simp only [rs, List.map_nil, List.append_nil]
  exact own_keep HV.out kk.k (fun k hk e => HP.out k hk e)

set_option maxHeartbeats 1600000 in
theorem utf_begin_low (p o B : Nat) (v : Value) (xs : List Int) (b : Nat) (w : World) (h : RdU w p o .z) (hv : w.ownsRow B 21 1 v xs.length (xs.map (Value.int .i32))) (hp : ∀ k, v.ownBlock = some k → k ≠ p) (hB : B ≤ w.heap.size) (hl : xs.length ≤ 1099511627776) (h1 : b < 128) :
    Calls Tryz.prog 141 #[.pointer (some ⟨p, o, none⟩), v, .int .u8 (b : Int)] w (LRes p o B v xs w (fresh b)) := by
  obtain ⟨i0, hi0, hz0, hz1, hz2⟩ := info_parts rune_info
  have hw := i32_nat b (by omega)
  have k128 : (b : Int) < 128 := by omega
  have k194 : ¬ (194 : Int) ≤ (b : Int) := by omega
  have k223 : (b : Int) ≤ 223 := by omega
  have k224 : ¬ (224 : Int) ≤ (b : Int) := by omega
  have k239 : (b : Int) ≤ 239 := by omega
  have k240 : ¬ (240 : Int) ≤ (b : Int) := by omega
  have k244 : (b : Int) ≤ 244 := by omega
  have hfr : fresh b = (.z, [b]) := by
    unfold fresh
    repeat (first | rw [if_pos (by omega)] | rw [if_neg (by omega)])
  have HF := Lib.hid hfr
  have H := Lib.hid h
  have HV := Lib.hid hv
  have HP := Lib.hid hp
  clear h hv hp hfr
  go_enter Tryz.func141, Tryz.ntmps141
  go_wp2_with (at_builtin; refine wpList_own_more _ rfl (.tmp 13) (.tmp 16) 138 rfl B w.heap.size 21 i0 (.int .i32 0) 1 4 Tryz.underlying138 hi0 hz0 hz1 hz2 rfl (by decide) _ _ _ 1 _ [.int .i32 (b : Int)] rfl rfl (own_keep HV.out ((Keep.refl (fun _ => False) w).alloc _) (fun _ _ x => x)) (own_new1 _ _ _ rfl (Nat.le_refl _)) ?c2 ?c3 ?c4 ?c5 ?_)
  case c2 => first | rfl | (intro u hu; simp at hu; subst hu; rfl)
  case c3 => unfold maxLen; omega
  case c4 => omega
  case c5 => first | omega | (simp; omega)
  intro v' w2 hown hkeep hat
  have HO := Lib.hid hown
  have HK := Lib.hid hkeep
  have HA := Lib.hid hat
  clear hown hkeep hat
  go_wp2_with fail
  go_ret
  rw [HF.out]
  exact LRes.one (s := .z) (H.out.alloc _) ((KF.refl p o _ w).alloc _) HP.out HO.out HK.out (fun k hk => by have := HA.out k hk; simpa using this)

set_option maxHeartbeats 1600000 in
theorem utf_begin_none1 (p o B : Nat) (v : Value) (xs : List Int) (b : Nat) (w : World) (h : RdU w p o .z) (hv : w.ownsRow B 21 1 v xs.length (xs.map (Value.int .i32))) (hp : ∀ k, v.ownBlock = some k → k ≠ p) (hB : B ≤ w.heap.size) (hl : xs.length ≤ 1099511627776) (h1 : 128 ≤ b) (h2 : b < 194) :
    Calls Tryz.prog 141 #[.pointer (some ⟨p, o, none⟩), v, .int .u8 (b : Int)] w (LRes p o B v xs w (fresh b)) := by
  obtain ⟨i0, hi0, hz0, hz1, hz2⟩ := info_parts rune_info
  have k128 : ¬ (b : Int) < 128 := by omega
  have k194 : ¬ (194 : Int) ≤ (b : Int) := by omega
  have k223 : (b : Int) ≤ 223 := by omega
  have k224 : ¬ (224 : Int) ≤ (b : Int) := by omega
  have k239 : (b : Int) ≤ 239 := by omega
  have k240 : ¬ (240 : Int) ≤ (b : Int) := by omega
  have k244 : (b : Int) ≤ 244 := by omega
  have hfr : fresh b = (.z, [65533]) := by
    unfold fresh
    repeat (first | rw [if_pos (by omega)] | rw [if_neg (by omega)])
  have HF := Lib.hid hfr
  have H := Lib.hid h
  have HV := Lib.hid hv
  have HP := Lib.hid hp
  clear h hv hp hfr
  go_enter Tryz.func141, Tryz.ntmps141
  go_wp2_with (at_builtin; refine wpList_own_more _ rfl (.tmp 7) (.tmp 8) 138 rfl B w.heap.size 21 i0 (.int .i32 0) 1 4 Tryz.underlying138 hi0 hz0 hz1 hz2 rfl (by decide) _ _ _ 1 _ [.int .i32 65533] rfl rfl (own_keep HV.out ((Keep.refl (fun _ => False) w).alloc _) (fun _ _ x => x)) (own_new1 _ _ _ rfl (Nat.le_refl _)) ?c2 ?c3 ?c4 ?c5 ?_)
  case c2 => first | rfl | (intro u hu; simp at hu; subst hu; rfl)
  case c3 => unfold maxLen; omega
  case c4 => omega
  case c5 => first | omega | (simp; omega)
  intro v' w2 hown hkeep hat
  have HO := Lib.hid hown
  have HK := Lib.hid hkeep
  have HA := Lib.hid hat
  clear hown hkeep hat
  go_wp2_with fail
  go_ret
  rw [HF.out]
  exact LRes.one (s := .z) (H.out.alloc _) ((KF.refl p o _ w).alloc _) HP.out HO.out HK.out (fun k hk => by have := HA.out k hk; simpa using this)

set_option maxHeartbeats 1600000 in
theorem utf_begin_none2 (p o B : Nat) (v : Value) (xs : List Int) (b : Nat) (w : World) (h : RdU w p o .z) (hv : w.ownsRow B 21 1 v xs.length (xs.map (Value.int .i32))) (hp : ∀ k, v.ownBlock = some k → k ≠ p) (hB : B ≤ w.heap.size) (hl : xs.length ≤ 1099511627776) (h1 : 245 ≤ b) (h2 : b < 256) :
    Calls Tryz.prog 141 #[.pointer (some ⟨p, o, none⟩), v, .int .u8 (b : Int)] w (LRes p o B v xs w (fresh b)) := by
  obtain ⟨i0, hi0, hz0, hz1, hz2⟩ := info_parts rune_info
  have k128 : ¬ (b : Int) < 128 := by omega
  have k194 : (194 : Int) ≤ (b : Int) := by omega
  have k223 : ¬ (b : Int) ≤ 223 := by omega
  have k224 : (224 : Int) ≤ (b : Int) := by omega
  have k239 : ¬ (b : Int) ≤ 239 := by omega
  have k240 : (240 : Int) ≤ (b : Int) := by omega
  have k244 : ¬ (b : Int) ≤ 244 := by omega
  have hfr : fresh b = (.z, [65533]) := by
    unfold fresh
    repeat (first | rw [if_pos (by omega)] | rw [if_neg (by omega)])
  have HF := Lib.hid hfr
  have H := Lib.hid h
  have HV := Lib.hid hv
  have HP := Lib.hid hp
  clear h hv hp hfr
  go_enter Tryz.func141, Tryz.ntmps141
  go_wp2_with (at_builtin; refine wpList_own_more _ rfl (.tmp 7) (.tmp 8) 138 rfl B w.heap.size 21 i0 (.int .i32 0) 1 4 Tryz.underlying138 hi0 hz0 hz1 hz2 rfl (by decide) _ _ _ 1 _ [.int .i32 65533] rfl rfl (own_keep HV.out ((Keep.refl (fun _ => False) w).alloc _) (fun _ _ x => x)) (own_new1 _ _ _ rfl (Nat.le_refl _)) ?c2 ?c3 ?c4 ?c5 ?_)
  case c2 => first | rfl | (intro u hu; simp at hu; subst hu; rfl)
  case c3 => unfold maxLen; omega
  case c4 => omega
  case c5 => first | omega | (simp; omega)
  intro v' w2 hown hkeep hat
  have HO := Lib.hid hown
  have HK := Lib.hid hkeep
  have HA := Lib.hid hat
  clear hown hkeep hat
  go_wp2_with fail
  go_ret
  rw [HF.out]
  exact LRes.one (s := .z) (H.out.alloc _) ((KF.refl p o _ w).alloc _) HP.out HO.out HK.out (fun k hk => by have := HA.out k hk; simpa using this)

theorem utf_begin (p o B : Nat) (v : Value) (xs : List Int) (b : Nat) (w : World) (h : RdU w p o .z) (hv : w.ownsRow B 21 1 v xs.length (xs.map (Value.int .i32))) (hp : ∀ k, v.ownBlock = some k → k ≠ p) (hB : B ≤ w.heap.size) (hl : xs.length ≤ 1099511627776) (hb : b < 256) :
    Calls Tryz.prog 141 #[.pointer (some ⟨p, o, none⟩), v, .int .u8 (b : Int)] w (LRes p o B v xs w (fresh b)) := by
  by_cases h1 : b < 128
  · exact utf_begin_low p o B v xs b w h hv hp hB hl h1
  by_cases h2 : b < 194
  · exact utf_begin_none1 p o B v xs b w h hv hp hB hl (by omega) h2
  by_cases h3 : b ≤ 223
  · exact utf_begin_two p o B v xs b w h hv hp (by omega) h3
  by_cases h4 : b ≤ 239
  · exact utf_begin_three p o B v xs b w h hv hp (by omega) h4
  by_cases h5 : b ≤ 244
  · exact utf_begin_four p o B v xs b w h hv hp (by omega) h5
  · exact utf_begin_none2 p o B v xs b w h hv hp hB hl (by omega) hb

end Go.Proofs.YtnminmaklbhakaaGreatDoor
namespace Go.Proofs.YtnminmaklbhakaaGreatDoor
set_option linter.unusedVariables false
set_option linter.unusedSimpArgs false
open Go.RowKit

set_option maxRecDepth 100000 in
set_option maxHeartbeats 1600000 in
theorem utf_goOn_end (p o B : Nat) (v : Value) (xs : List Int) (s : St) (b : Nat) (w : World) (h : RdU w p o s) (hv : w.ownsRow B 21 1 v xs.length (xs.map (Value.int .i32))) (hp : ∀ k, v.ownBlock = some k → k ≠ p) (hB : B ≤ w.heap.size) (hl : xs.length ≤ 1099511627776) (hb : b < 256) (h1 : s.left = 1) :
    Calls Tryz.prog 140 #[.pointer (some ⟨p, o, none⟩), v, .int .u8 (b : Int)] w (LRes p o B v xs w (onward s b)) := by
  obtain ⟨i0, hi0, hz0, hz1, hz2⟩ := info_parts rune_info
  have H := Lib.hid h
  have HV := Lib.hid hv
  have HP := Lib.hid hp
  have hvl := h.ok.v_lt
  have c0 := h.c0.1
  have c1 := h.c1.1
  have c2 := h.c2.1
  have c3 := h.c3.1
  have c4 := h.c4.1
  have f0 := h.c0.2
  have f1 := h.c1.2
  have f2 := h.c2.2
  have f3 := h.c3.2
  have f4 := h.c4.2
  have hm := and63 b hb
  obtain ⟨r, hr⟩ : ∃ r, b % 64 = r := ⟨_, rfl⟩
  obtain ⟨m, hm2⟩ : ∃ m, s.v * 64 = m := ⟨_, rfl⟩
  obtain ⟨n, hn⟩ : ∃ n, m + r = n := ⟨_, rfl⟩
  have hrl : r < 64 := by omega
  have hml : m < 16777216 := by omega
  rw [hr] at hm
  have hw1 : IntKind.i32.wrap ((s.v : Int) * 64) = (m : Int) := by rw [IntKind.wrap_i32]; omega
  have hw2 := i32_nat r (by omega)
  have hor : bits .or .i32 (m : Int) (r : Int) = (n : Int) := (i32_or6 (x := (m : Int)) (y := (r : Int)) (by omega) (by omega) (by omega) (by omega) (by omega)).trans (by omega)
  have HF : Hid (onward s b = (.z, [n])) := by
    show _ = _
    unfold onward
    rw [if_pos h1, hr, hm2, hn]
  have hl1 : ((s.left : Int) == 1) = true := by simp; omega
  clear h hv hp hvl hr hm2 hn h1 hrl hml
  go_enter Tryz.func140, Tryz.ntmps140
  go_upto_region 4 with fail
  obtain ⟨w1, hw⟩ : ∃ w1, w1 = ((((w.setCell ⟨p, o, none⟩ (.int .i32 0)).setCell ⟨p, o + 1, none⟩ (.int .i64 0)).setCell ⟨p, o + 2, none⟩ (.int .i64 0)).setCell ⟨p, o + 3, none⟩ (.int .u8 0)).setCell ⟨p, o + 4, none⟩ (.int .u8 0) := ⟨_, rfl⟩
  have HW := Lib.hid hw
  rw [← hw]
  clear hw c0 c1 c2 c3 c4 f0 f1 f2 f3 f4
  have K1 : Hid (KF p o (fun k => k = p) w w1) := by
    show KF _ _ _ _ _
    rw [HW.out]; exact keep_put w p o _ _ _ _ _
  have R1 : Hid (RdU w1 p o .z) := by
    show RdU _ _ _ _
    rw [HW.out]; exact H.out.put .z .z
  have V1 : Hid (w1.ownsRow B 21 1 v xs.length (xs.map (Value.int .i32))) := own_keep HV.out K1.out.k (fun k hk e => HP.out k hk e)
  have hz1' := K1.out.size
  go_wp2_with (at_builtin; refine wpList_own_more _ rfl (.tmp 25) (.tmp 27) 138 rfl B w1.heap.size 21 i0 (.int .i32 0) 1 4 Tryz.underlying138 hi0 hz0 hz1 hz2 rfl (by decide) _ _ _ 1 _ [.int .i32 (n : Int)] rfl rfl (own_keep V1.out ((Keep.refl (fun _ => False) w1).alloc _) (fun _ _ x => x)) (own_new1 _ _ _ rfl (Nat.le_refl _)) ?c2 ?c3 ?c4 ?c5 ?_)
  case c2 => first | rfl | (intro u hu; simp at hu; subst hu; rfl)
  case c3 => unfold maxLen; omega
  case c4 => omega
  case c5 => first | omega | (simp; omega)
  intro v' w2 hown hkeep hat
  have HO := Lib.hid hown
  have HK := Lib.hid hkeep
  have HA := Lib.hid hat
  clear hown hkeep hat
  go_wp2_with fail
  go_ret
  rw [HF.out]
  exact LRes.one (s := .z) (R1.out.alloc _) (K1.out.alloc _) HP.out HO.out HK.out (fun k hk => by have := HA.out k hk; simpa using this)

set_option maxRecDepth 100000 in
set_option maxHeartbeats 1600000 in
theorem utf_goOn_more (p o B : Nat) (v : Value) (xs : List Int) (s : St) (b : Nat) (w : World) (h : RdU w p o s) (hv : w.ownsRow B 21 1 v xs.length (xs.map (Value.int .i32))) (hp : ∀ k, v.ownBlock = some k → k ≠ p) (hb : b < 256) (h0 : 0 < s.half) (h1 : s.left ≠ 1) :
    Calls Tryz.prog 140 #[.pointer (some ⟨p, o, none⟩), v, .int .u8 (b : Int)] w (LRes p o B v xs w (onward s b)) := by
  have H := Lib.hid h
  have HV := Lib.hid hv
  have HP := Lib.hid hp
  have hvl := h.ok.v_lt
  have hok := h.ok.onward h0 b
  have hst : 2 ≤ s.left ∧ s.left ≤ 3 ∧ s.half ≤ 3 := by
    rcases h.ok with e | e
    · rw [e] at h0; simp [St.z] at h0
    · omega
  have c0 := h.c0.1
  have c1 := h.c1.1
  have c2 := h.c2.1
  have c3 := h.c3.1
  have c4 := h.c4.1
  have f0 := h.c0.2
  have f1 := h.c1.2
  have f2 := h.c2.2
  have f3 := h.c3.2
  have f4 := h.c4.2
  have hm := and63 b hb
  obtain ⟨r, hr⟩ : ∃ r, b % 64 = r := ⟨_, rfl⟩
  obtain ⟨m, hm2⟩ : ∃ m, s.v * 64 = m := ⟨_, rfl⟩
  obtain ⟨n, hn⟩ : ∃ n, m + r = n := ⟨_, rfl⟩
  have hrl : r < 64 := by omega
  have hml : m < 16777216 := by omega
  rw [hr] at hm
  have hw1 : IntKind.i32.wrap ((s.v : Int) * 64) = (m : Int) := by rw [IntKind.wrap_i32]; omega
  have hw2 := i32_nat r (by omega)
  have hor : bits .or .i32 (m : Int) (r : Int) = (n : Int) := (i32_or6 (x := (m : Int)) (y := (r : Int)) (by omega) (by omega) (by omega) (by omega) (by omega)).trans (by omega)
  have hfo : onward s b = (⟨n, s.half + 1, s.left - 1, 128, 191⟩, []) := by
    unfold onward
    rw [if_neg h1, hr, hm2, hn]
  rw [hfo] at hok
  have HF := Lib.hid hfo
  have HOK := Lib.hid hok
  obtain ⟨x, hx⟩ : ∃ x, s.half + 1 = x := ⟨_, rfl⟩
  obtain ⟨y, hy⟩ : ∃ y, s.left - 1 = y := ⟨_, rfl⟩
  rw [hx, hy] at HF HOK
  have hwx : IntKind.i64.wrap ((s.half : Int) + 1) = (x : Int) := by rw [IntKind.wrap_i64]; omega
  have hwy : IntKind.i64.wrap ((s.left : Int) - 1) = (y : Int) := by rw [IntKind.wrap_i64]; omega
  have hl1 : ((s.left : Int) == 1) = false := by simp; omega
  clear h hv hp hvl hr hm2 hn h1 hrl hml hok hfo hst hx hy
  go_enter Tryz.func140, Tryz.ntmps140
  go_wp2_with fail
  go_region_law (first | (go_simp; go_at_call 154; refine (utf_further _).mono ?_; rintro e w1 ⟨rfl, hb⟩; have R1 := Lib.hid ((H.out.drewN 1).below hb); have B1 := Lib.hid hb; have d0 := R1.out.c0.1; have d1 := R1.out.c1.1; have d2 := R1.out.c2.1; have d3 := R1.out.c3.1; have d4 := R1.out.c4.1; have g0 := R1.out.c0.2; have g1 := R1.out.c1.2; have g2 := R1.out.c2.2; have g3 := R1.out.c3.2; have g4 := R1.out.c4.2; clear hb) | fail)
  all_goals
    go_wp2_with fail
    go_ret
    rw [HF.out]
    have kk := (((KF.refl p o (fun k => k = p) w).drew).trans (KF.of_below p o (fun k => k = p) B1.out) (fun _ _ x => x)).trans (keep_put w1 p o (.int .i32 (n : Int)) (.int .i64 (x : Int)) (.int .i64 (y : Int)) (.int .u8 128) (.int .u8 191)) (fun _ _ x => x)
    refine ⟨v, rfl, ?_, R1.out.put ⟨n, x, y, 128, 191⟩ HOK.out, kk.mono (fun _ _ x => .inl x), fun k hk => .inl hk⟩
    simp only [rs, List.map_nil, List.append_nil]
    exact own_keep HV.out kk.k (fun k hk e => HP.out k hk e)

end Go.Proofs.YtnminmaklbhakaaGreatDoor
namespace Go.Proofs.YtnminmaklbhakaaGreatDoor
set_option linter.unusedVariables false
set_option linter.unusedSimpArgs false
open Go.RowKit

section
variable {p o B : Nat} {v : Value} {xs : List Int} {w : World}
theorem LRes.begun {s : St} {b : Nat} {w1 w2 : World} {v1 : Value} {e : Ending} {w' : World} {l : List Nat} {x : St × List Nat}
    (hp : ∀ k, v.ownBlock = some k → k ≠ p) (k1 : KF p o (fun k => k = p) w w1) (k2 : Keep (fun k => v.ownBlock = some k) w1 w2) (ha : ∀ k, v1.ownBlock = some k → v.ownBlock = some k ∨ w1.heap.size ≤ k)
    (h : LRes p o B v1 (xs ++ rs l) w2 x e w') : LRes p o B v xs w (x.1, l ++ x.2) e w' := by
  obtain ⟨v2, rfl, h1, h2, h3, h4⟩ := h
  have s1 := k1.size
  have s2 := k2.size
  refine ⟨v2, rfl, ?_, h2, ?_, fun k hk => ?_⟩
  · simp only [rs_add]
    rw [← List.append_assoc]
    exact h1
  · refine (((k1.mono (S' := fun k => k = p ∨ v.ownBlock = some k) (fun _ _ x => .inl x)).trans (KF.of_keep k2 (fun e => hp p e rfl)) (fun _ _ x => .inr x)).trans h3 (fun i hi x => ?_))
    rcases x with x | x
    · exact .inl x
    · rcases ha i x with y | y
      · exact .inr y
      · omega
  · rcases h4 k hk with x | x
    · rcases ha k x with y | y
      · exact .inl y
      · exact .inr (by omega)
    · exact .inr (by omega)
end

set_option maxRecDepth 100000 in
set_option maxHeartbeats 1600000 in
theorem utf_take_on (p o B : Nat) (v : Value) (xs : List Int) (s : St) (b : Nat) (w : World) (h : RdU w p o s) (hv : w.ownsRow B 21 1 v xs.length (xs.map (Value.int .i32))) (hp : ∀ k, v.ownBlock = some k → k ≠ p) (hB : B ≤ w.heap.size) (hl : xs.length ≤ 1099511627776) (hb : b < 256) (h0 : 0 < s.half) (h1 : s.lo ≤ b ∧ b ≤ s.hi) :
    Calls Tryz.prog 113 #[.pointer (some ⟨p, o, none⟩), v, .int .u8 (b : Int)] w (LRes p o B v xs w (byteU s b)) := by
  have H := Lib.hid h
  have HB : Hid (byteU s b = onward s b) := byteU_on h0 h1.1 h1.2
  have HG : Hid (∀ W, RdU W p o s → Keep (fun _ => False) w W → Calls Tryz.prog 140 #[.pointer (some ⟨p, o, none⟩), v, .int .u8 (b : Int)] W (LRes p o B v xs W (onward s b))) := fun W hW kW => by
    have hv' := own_keep hv kW (fun _ _ x => x)
    by_cases e : s.left = 1
    · exact utf_goOn_end p o B v xs s b W hW hv' hp (Nat.le_trans hB kW.size) hl hb e
    · exact utf_goOn_more p o B v xs s b W hW hv' hp hb h0 e
  have HH := Lib.hid (fun W => utf_has s.lo s.hi b W true (decide_eq_true h1))
  have c1 := h.c1.1
  have c3 := h.c3.1
  have c4 := h.c4.1
  have hn : (0 : Int) < (s.half : Int) := by omega
  clear h hv hp h0 h1 hB
  go_enter Tryz.func113, Tryz.ntmps113
  go_wp2_with fail
  refine (HH.out _).mono ?_
  rintro e w1 ⟨rfl, hb1⟩
  have K1 := Lib.hid (Keep.of_below (fun _ => False) hb1)
  clear hb1
  go_wp2_with fail
  refine (HG.out _ (H.out.keep K1.out (fun x => x)) K1.out).mono ?_
  rintro e w2 ⟨v2, rfl, g1, g2, g3, g4⟩
  have G1 := Lib.hid g1
  have G2 := Lib.hid g2
  have G3 := Lib.hid g3
  have G4 := Lib.hid g4
  clear g1 g2 g3 g4
  go_wp2_with fail
  go_ret
  rw [HB.out]
  exact ⟨v2, rfl, G1.out, G2.out, ((KF.of_keep (o := o) K1.out (fun x => x)).mono (fun _ _ x => x.elim)).trans G3.out (fun _ _ x => x), fun k hk => (G4.out k hk).imp id (fun x => Nat.le_trans K1.out.size x)⟩

set_option maxRecDepth 100000 in
set_option maxHeartbeats 1600000 in
theorem utf_take_anew (p o B : Nat) (v : Value) (xs : List Int) (s : St) (b : Nat) (w : World) (h : RdU w p o s) (hv : w.ownsRow B 21 1 v xs.length (xs.map (Value.int .i32))) (hp : ∀ k, v.ownBlock = some k → k ≠ p) (hB : B ≤ w.heap.size) (hl : xs.length ≤ 1099511627776 - 1) (hb : b < 256) (h1 : ¬ (0 < s.half ∧ s.lo ≤ b ∧ b ≤ s.hi)) :
    Calls Tryz.prog 113 #[.pointer (some ⟨p, o, none⟩), v, .int .u8 (b : Int)] w (LRes p o B v xs w (byteU s b)) := by
  obtain ⟨i0, hi0, hz0, hz1, hz2⟩ := info_parts rune_info
  have H := Lib.hid h
  have HV := Lib.hid hv
  have HP := Lib.hid hp
  have HB : Hid (byteU s b = ((fresh b).1, badsU s ++ (fresh b).2)) := by
    show _ = _
    unfold byteU
    rw [if_neg h1]
  have HH := Lib.hid (fun (W : World) (e : 0 < s.half) => utf_has s.lo s.hi b W false (decide_eq_false (fun x => h1 ⟨e, x⟩)))
  have c1 := h.c1.1
  have c3 := h.c3.1
  have c4 := h.c4.1
  have hbl : (badsU s).length ≤ 1 := by unfold badsU; split <;> simp
  have HBL := Lib.hid hbl
  -- what follows the test
  have HT : Hid (∀ W, RdU W p o s → Keep (fun _ => False) w W → W.ownsRow B 21 1 v xs.length (xs.map (Value.int .i32)) ∧ B ≤ W.heap.size) := fun W hW kW => ⟨own_keep hv kW (fun _ _ x => x), Nat.le_trans hB kW.size⟩
  clear h hv hp h1 hbl
  by_cases h0 : 0 < s.half
  · have hn : (0 : Int) < (s.half : Int) := by omega
    have HN := Lib.hid h0
    clear h0
    go_enter Tryz.func113, Tryz.ntmps113
    go_wp2_with fail
    refine (HH.out _ HN.out).mono ?_
    rintro e w1 ⟨rfl, hb1⟩
    have K1 := Lib.hid (Keep.of_below (fun _ => False) hb1)
    have R1 := Lib.hid (H.out.keep K1.out (fun x => x))
    obtain ⟨hv1, hB1⟩ := HT.out _ R1.out K1.out
    have HV1 := Lib.hid hv1
    clear hb1 hv1
    go_wp2_with fail
    refine (utf_flush p o s _ R1.out).mono ?_
    rintro e w2 ⟨f, rfl, f1, f2, f3⟩
    have F1 := Lib.hid f1
    have F2 := Lib.hid f2
    have F3 := Lib.hid f3
    have V2 := Lib.hid (own_keep HV1.out f3.k (fun k hk e => HP.out k hk e))
    have hs2 : B ≤ w2.heap.size := Nat.le_trans hB1 f3.size
    clear f1 f2 f3
    go_wp2_with (at_builtin; refine wpList_own_more _ rfl (.tmp 25) (.tmp 27) 138 rfl B w1.heap.size 21 i0 (.int .i32 0) 1 4 Tryz.underlying138 hi0 hz0 hz1 hz2 rfl (by decide) _ _ _ _ _ _ rfl rfl V2.out F1.out ?c2 ?c3 ?c4 ?c5 ?_)
    case c2 => exact (fun u hu => by obtain ⟨x, _, rfl⟩ := List.mem_map.1 hu; rfl)
    case c3 => have := HBL.out; unfold maxLen; omega
    case c4 => have := HBL.out; omega
    case c5 => exact hs2
    intro v3 w3 hown hkeep hat
    have F3' := Lib.hid (F2.out.keep hkeep (fun e => HP.out p e rfl))
    have V3 : Hid (w3.ownsRow B 21 1 v3 (xs ++ rs (badsU s)).length ((xs ++ rs (badsU s)).map (Value.int .i32))) := by
      show World.ownsRow _ _ _ _ _ _ _
      rw [List.length_append, List.map_append, rs_len]
      exact hown
    have HK := Lib.hid hkeep
    have HA := Lib.hid hat
    have hs3 : B ≤ w3.heap.size := Nat.le_trans hs2 hkeep.size
    have HP3 : Hid (∀ k, v3.ownBlock = some k → k ≠ p) := fun k hk => by
      rcases hat k hk with x | x
      · exact HP.out k x
      · have := F2.out.lt; omega
    clear hown hkeep hat
    go_wp2_with fail
    refine (utf_begin p o B v3 _ b _ F3'.out V3.out HP3.out hs3 (by have := HBL.out; rw [List.length_append, rs_len]; omega) hb).mono ?_
    intro e w4 hx
    have HX := Lib.hid (LRes.begun (xs := xs) (l := badsU s) (v := v) (s := s) (b := b) HP.out (((KF.of_keep (o := o) K1.out (fun x => x)).mono (fun _ _ x => x.elim)).trans F3.out (fun _ _ x => x)) HK.out HA.out hx)
    obtain ⟨v4, rfl, -⟩ := hx
    go_wp2_with fail
    go_ret
    rw [HB.out]
    exact HX.out
  · have hn : ¬ (0 : Int) < (s.half : Int) := by omega
    have R1 := Lib.hid H.out
    obtain ⟨hv1, hB1⟩ := HT.out _ R1.out (Keep.refl _ _)
    have HV1 := Lib.hid hv1
    clear h0 hv1
    go_enter Tryz.func113, Tryz.ntmps113
    go_wp2_with fail
    refine (utf_flush p o s _ R1.out).mono ?_
    rintro e w2 ⟨f, rfl, f1, f2, f3⟩
    have F1 := Lib.hid f1
    have F2 := Lib.hid f2
    have F3 := Lib.hid f3
    have V2 := Lib.hid (own_keep HV1.out f3.k (fun k hk e => HP.out k hk e))
    have hs2 : B ≤ w2.heap.size := Nat.le_trans hB1 f3.size
    clear f1 f2 f3
    go_wp2_with (at_builtin; refine wpList_own_more _ rfl (.tmp 25) (.tmp 27) 138 rfl B w.heap.size 21 i0 (.int .i32 0) 1 4 Tryz.underlying138 hi0 hz0 hz1 hz2 rfl (by decide) _ _ _ _ _ _ rfl rfl V2.out F1.out ?d2 ?d3 ?d4 ?d5 ?_)
    case d2 => exact (fun u hu => by obtain ⟨x, _, rfl⟩ := List.mem_map.1 hu; rfl)
    case d3 => have := HBL.out; unfold maxLen; omega
    case d4 => have := HBL.out; omega
    case d5 => exact hs2
    intro v3 w3 hown hkeep hat
    have F3' := Lib.hid (F2.out.keep hkeep (fun e => HP.out p e rfl))
    have V3 : Hid (w3.ownsRow B 21 1 v3 (xs ++ rs (badsU s)).length ((xs ++ rs (badsU s)).map (Value.int .i32))) := by
      show World.ownsRow _ _ _ _ _ _ _
      rw [List.length_append, List.map_append, rs_len]
      exact hown
    have HK := Lib.hid hkeep
    have HA := Lib.hid hat
    have hs3 : B ≤ w3.heap.size := Nat.le_trans hs2 hkeep.size
    have HP3 : Hid (∀ k, v3.ownBlock = some k → k ≠ p) := fun k hk => by
      rcases hat k hk with x | x
      · exact HP.out k x
      · have := F2.out.lt; omega
    clear hown hkeep hat
    go_wp2_with fail
    refine (utf_begin p o B v3 _ b _ F3'.out V3.out HP3.out hs3 (by have := HBL.out; rw [List.length_append, rs_len]; omega) hb).mono ?_
    intro e w4 hx
    have HX := Lib.hid (LRes.begun (xs := xs) (l := badsU s) (v := v) (s := s) (b := b) HP.out F3.out HK.out HA.out hx)
    obtain ⟨v4, rfl, -⟩ := hx
    go_wp2_with fail
    go_ret
    rw [HB.out]
    exact HX.out

theorem utf_take (p o B : Nat) (v : Value) (xs : List Int) (s : St) (b : Nat) (w : World) (h : RdU w p o s) (hv : w.ownsRow B 21 1 v xs.length (xs.map (Value.int .i32))) (hp : ∀ k, v.ownBlock = some k → k ≠ p) (hB : B ≤ w.heap.size) (hl : xs.length ≤ 1000000000000) (hb : b < 256) :
    Calls Tryz.prog 113 #[.pointer (some ⟨p, o, none⟩), v, .int .u8 (b : Int)] w (LRes p o B v xs w (byteU s b)) := by
  by_cases h1 : 0 < s.half ∧ s.lo ≤ b ∧ b ≤ s.hi
  · exact utf_take_on p o B v xs s b w h hv hp hB (by omega) hb h1.1 h1.2
  · exact utf_take_anew p o B v xs s b w h hv hp hB (by omega) hb h1

end Go.Proofs.YtnminmaklbhakaaGreatDoor
namespace Go.Proofs.YtnminmaklbhakaaGreatDoor
set_option linter.unusedVariables false
set_option linter.unusedSimpArgs false
open Go.RowKit

/-- The bytes ahead of byte j of text k. -/
def preU (ts : List ByteArray) (k j : Nat) : List Nat := (joinL (ts.take k)).map (·.toNat) ++ (natsOf (ts.getD k .empty)).take j

theorem preU_zero (ts : List ByteArray) : preU ts 0 0 = [] := by simp [preU, joinL]
theorem preU_next {ts : List ByteArray} {k j : Nat} {x : ByteArray} (hx : ts[k]? = some x) (hj : j < x.size) : preU ts k (j + 1) = preU ts k j ++ [x[j].toNat] := by
  unfold preU natsOf
  rw [List.getD_eq_getElem?_getD, hx, Option.getD_some, List.append_assoc]
  congr 1
  rw [List.take_succ_eq_append_getElem (by simpa using hj), List.getElem_map]
  rfl
theorem preU_row {ts : List ByteArray} {k : Nat} {x : ByteArray} (hx : ts[k]? = some x) : preU ts k x.size = preU ts (k + 1) 0 := by
  unfold preU natsOf
  have h1 : (List.map (fun b : UInt8 => b.toNat) x.data.toList).take x.size = List.map (fun b : UInt8 => b.toNat) x.data.toList := List.take_of_length_le (by rw [List.length_map, ← Lib.size_eq]; exact Nat.le_refl _)
  rw [List.getD_eq_getElem?_getD, hx, Option.getD_some, take_next hx, joinL_snoc, h1]
  simp
theorem preU_end (ts : List ByteArray) : preU ts ts.length 0 = (joinL ts).map (·.toNat) := by simp [preU]
theorem preU_len (ts : List ByteArray) (k j : Nat) (h : j ≤ (ts.getD k .empty).size) : (preU ts k j).length ≤ sum ts := by
  unfold preU natsOf
  rw [List.length_append, List.length_take, List.length_map, List.length_map, joinL_len, ← Lib.size_eq]
  by_cases hk : k < ts.length
  · have h1 := sum_take ts (k + 1)
    have hx : ts[k]? = some ts[k] := List.getElem?_eq_getElem hk
    rw [take_next hx, sum_snoc] at h1
    rw [List.getD_eq_getElem?_getD, hx, Option.getD_some] at h ⊢
    omega
  · have h1 := sum_take ts k
    rw [List.getD_eq_getElem?_getD, List.getElem?_eq_none (by omega), Option.getD_none] at h ⊢
    have : ByteArray.empty.size = 0 := rfl
    omega

/-- Feed has read these bytes. -/
def FedU (p o : Nat) (s : St) (w : World) (v : Value) (l : List Nat) (w' : World) : Prop :=
  w'.ownsRow w.heap.size 21 1 v (rs (feedU s l).2).length ((rs (feedU s l).2).map (Value.int .i32)) ∧ RdU w' p o (feedU s l).1 ∧ KF p o (· = p) w w'

theorem FedU.ne {p o : Nat} {s : St} {w w' : World} {v : Value} {l : List Nat} (h : FedU p o s w v l w') (hp : p < w.heap.size) : ∀ k, v.ownBlock = some k → k ≠ p := fun k hk => by
  have := (h.1.lt k hk).1; omega

theorem FedU.next {p o : Nat} {s : St} {w w1 w2 : World} {v : Value} {l : List Nat} {b : Nat} {e : Ending} (hp : p < w.heap.size) (h : FedU p o s w v l w1)
    (x : LRes p o w.heap.size v (rs (feedU s l).2) w1 (byteU (feedU s l).1 b) e w2) : ∃ v', e = .returned v' ∧ FedU p o s w v' (l ++ [b]) w2 := by
  obtain ⟨v', rfl, h1, h2, h3, h4⟩ := x
  refine ⟨v', rfl, ?_, ?_, h.2.2.trans h3 (fun i hi x => ?_)⟩
  · rw [feedU_snoc]; simp only [rs_add]; exact h1
  · rw [feedU_snoc]; exact h2
  · rcases x with x | x
    · exact x
    · have := (h.1.lt i x).1; omega

set_option maxHeartbeats 800000 in
theorem utf_feed_nil (S : Value) (w : World) :
    Calls Tryz.prog 83 #[.pointer none, S] w fun e w' => e = .returned (.slice none 0 0) ∧ w' = w := by
  go_enter Tryz.func83, Tryz.ntmps83
  go_wp2_with fail
  go_ret
  exact ⟨rfl, rfl⟩

set_option maxRecDepth 100000 in
set_option maxHeartbeats 3200000 in
theorem utf_feed_pre (p o : Nat) (s : St) (A : Option Addr) (n c : Nat) (ts : List ByteArray) (w : World) (h : RdU w p o s) (hs : Src w A n (ts.map Value.string)) (hA : 0 < n → blk A ≠ some p) (hn : n ≤ 100000000000) (hsum : sum ts ≤ 100000000000) :
    Calls Tryz.prog 83 #[.pointer (some ⟨p, o, none⟩), .slice A n c] w fun e w' => ∃ v, e = .returned v ∧ FedU p o s w v (preU ts n 0) w' := by
  have hl := Lib.hid (show ts.length = n from by have := hs.1; rwa [List.length_map] at this)
  have hpl : p < w.heap.size := h.lt
  have HS := Lib.hid hs
  have HA := Lib.hid hA
  have HSUM := Lib.hid hsum
  have F0 : Hid (FedU p o s w (.slice none 0 0) (preU ts 0 0) w) := by
    show FedU _ _ _ _ _ _ _
    rw [preU_zero]
    exact ⟨World.ownsRow_nil _ _ _ _, h, KF.refl _ _ _ _⟩
  have hok := h.ok
  have HLEN : Hid (∀ l : List Nat, (rs (feedU s l).2).length ≤ l.length + 1) := fun l => by
    have h1 := feedU_len hok l
    have h2 := s.some_le
    rw [rs_len]; omega
  clear h hs hA hsum hok
  go_enter Tryz.func83, Tryz.ntmps83
  go_wp2_with fail
  go_loopw [5, 13] (fun v i wr => ∃ k : Nat, i = .int .i64 k ∧ k ≤ n ∧ Hid (FedU p o s w v (preU ts k 0) wr)) (fun _ i _ => n - (intOf i).toNat)
  case atStart => exact ⟨0, rfl, by omega, F0⟩
  case round =>
    obtain ⟨k, rfl, hk, HF⟩ := hrel
    obtain ⟨wo, rfl⟩ : ∃ wo : World, wo = wr := ⟨_, rfl⟩
    by_cases hlt : k < n
    · obtain ⟨x, hx⟩ : ∃ x, ts[k]? = some x := ⟨ts[k]'(by rw [hl.out]; exact hlt), List.getElem?_eq_getElem _⟩
      obtain ⟨b, off, rfl, hbl, hcs⟩ := (HS.out.far HF.out.2.2.k (fun h0 i hi e => HA.out h0 (by rw [hi, e]))).2 (by omega)
      have hcx : wo.cell? ⟨b, off + k, none⟩ = some (.string x) := hcs k _ (by rw [List.getElem?_map, hx]; rfl)
      have hxs : x.size ≤ 100000000000 := by
        have h1 := sum_mem (List.mem_of_getElem? hx)
        have := HSUM.out
        omega
      have hki : ((k : Int) < (n : Int)) := by omega
      have hk0 : (0 : Int) ≤ (k : Int) := by omega
      have HX := Lib.hid hx
      clear hcs hx
      go_wp2_with fail
      go_loopw [5, 19] (fun v i wr => ∃ j : Nat, i = .int .i64 j ∧ j ≤ x.size ∧ Hid (FedU p o s w v (preU ts k j) wr)) (fun _ i _ => x.size - (intOf i).toNat)
      case atStart => exact ⟨0, rfl, by omega, HF⟩
      case round =>
        obtain ⟨j, rfl, hj, HF2⟩ := hrel
        by_cases hlj : j < x.size
        · have HL : Hid ((rs (feedU s (preU ts k j)).2).length ≤ 1000000000000) := by
            have h1 := HLEN.out (preU ts k j)
            have h2 := preU_len ts k j (by rw [List.getD_eq_getElem?_getD, HX.out, Option.getD_some]; omega)
            have h3 := HSUM.out
            exact Lib.hid (by omega)
          have hb256 : x[j].toNat < 256 := x[j].toNat_lt
          have HN := Lib.hid (preU_next HX.out hlj)
          have hz := HF2.out.2.2.size
          have HC := utf_take p o w.heap.size u5 (rs (feedU s (preU ts k j)).2) (feedU s (preU ts k j)).1 x[j].toNat wr HF2.out.2.1 HF2.out.1 (HF2.out.ne hpl) hz HL.out hb256
          have HCC := Lib.hid HC
          clear HC hz
          go_wp2_with fail
          refine HCC.out.mono ?_
          intro e w2 hx2
          obtain ⟨v', rfl, hv'⟩ := FedU.next hpl HF2.out hx2
          have HF3 : Hid (FedU p o s w v' (preU ts k (j + 1)) w2) := by
            show FedU _ _ _ _ _ _ _
            rw [HN.out]; exact hv'
          clear hx2 hv'
          go_wp2_with fail
          go_roundw
          case rel => exact ⟨j + 1, by go_num, by omega, HF3⟩
          case measure => simp [intOf]; omega
        · have ej : j = x.size := by omega
          have HF3 : Hid (FedU p o s w u5 (preU ts (k + 1) 0) wr) := by
            show FedU _ _ _ _ _ _ _
            rw [← preU_row HX.out, ← ej]; exact HF2.out
          clear ej
          go_wp2_with fail
          go_roundw
          case rel => exact ⟨k + 1, by go_num, by omega, HF3⟩
          case measure => simp [intOf]; omega
    · have ek : k = n := by omega
      have HF3 : Hid (FedU p o s w u5 (preU ts n 0) wo) := by
        show FedU _ _ _ _ _ _ _
        rw [← ek]; exact HF.out
      clear ek
      go_wp2_with fail
      go_ret
      exact ⟨_, rfl, HF3.out⟩

/-- Feed of texts. -/
theorem utf_feed (p o : Nat) (s : St) (A : Option Addr) (n c : Nat) (ts : List ByteArray) (w : World) (h : RdU w p o s) (hs : Src w A n (ts.map Value.string)) (hA : 0 < n → blk A ≠ some p) (hn : n ≤ 100000000000) (hsum : sum ts ≤ 100000000000) :
    Calls Tryz.prog 83 #[.pointer (some ⟨p, o, none⟩), .slice A n c] w (URes p o w (feedsU s ts)) := by
  refine (utf_feed_pre p o s A n c ts w h hs hA hn hsum).mono ?_
  rintro e w' ⟨v, rfl, h1, h2, h3⟩
  have hl : ts.length = n := by have := hs.1; rwa [List.length_map] at this
  rw [← hl, preU_end, ← feedsU_join] at h1 h2
  rw [rs_len] at h1
  exact ⟨v, rfl, h1, h2, h3⟩

/-- Feed of one text. -/
theorem utf_feed_one (p o : Nat) (s : St) (b : Nat) (x : ByteArray) (c : Nat) (w : World) (h : RdU w p o s) (hs : w.cell? ⟨b, 0, none⟩ = some (.string x)) (hb : b ≠ p) (hx : x.size ≤ 100000000000) :
    Calls Tryz.prog 83 #[.pointer (some ⟨p, o, none⟩), .slice (some ⟨b, 0, none⟩) 1 c] w (URes p o w (feedU s (natsOf x))) := by
  rw [← feedsU_one]
  exact utf_feed p o s _ 1 c [x] w h ⟨rfl, fun _ => ⟨b, 0, rfl, World.block_lt_of_cell? w _ hs, fun i u hu => by
    rcases i with _ | i
    · simp at hu; subst hu; simpa using hs
    · simp at hu⟩⟩ (fun _ e => hb (by simpa [blk] using e)) (by omega) (by simpa [sum] using hx)

end Go.Proofs.YtnminmaklbhakaaGreatDoor
