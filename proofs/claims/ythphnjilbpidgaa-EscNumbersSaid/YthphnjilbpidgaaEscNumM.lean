/- esc: numbers of a sequence, over lists. Own work. -/
import Derived.Test.YthphnjilbpidgaaEscW
namespace Go.Proofs.Ythphnjilbpidgaa
set_option linter.unusedVariables false
set_option linter.unusedSimpArgs false
open Go.RowKit

def valN (v : Int) : Int := if v < 0 then -1 else min (v % 100000) 9999
def digN (v : Int) : List Nat := if v < 0 then [] else decN (v % 100000).toNat
def partN (k : Nat) (v : Int) : List Nat := (if 0 < k then [59] else []) ++ digN v

/-- A csi behind numbers. -/
structure NumS (m : Nat) (q : PL) (vals : List Int) : Prop where
  st : q.st = 2
  i : q.inter = []
  w : q.wrong = false
  m : q.mark = m
  n : (q.any = false ∧ q.nums = [] ∧ (vals = [] ∨ vals = [-1])) ∨ (q.any = true ∧ (vals ≠ [] ∧ vals ≠ [-1]) ∧ q.nums.take 8 = vals.take 8 ∧ q.nums.length = min vals.length 9)

theorem csi_digit (p : PL) (hs : p.st = 2) (hi : p.inter = []) (c : Nat) (h1 : 48 ≤ c) (h2 : c ≤ 57) :
    byteP p c = ({ p with first := false, any := true, nums := digitL (if p.any = true then p.nums else [-1]) (c - 48) }, []) := by
  rw [byteP_csi p hs c (by omega) (by omega)]
  unfold csiP
  rw [if_neg (by omega), if_neg (by omega), if_neg (by simp only [hi, ne_eq, not_true_eq_false, and_false, or_false]; omega), if_pos (by omega)]

/-- Digits behind nine numbers. -/
theorem digits_nine (l : List Nat) (h : ∀ c ∈ l, 48 ≤ c ∧ c ≤ 57) : ∀ p : PL, p.st = 2 → p.inter = [] → p.any = true → p.nums.length = 9 →
    ∃ q, feedP p l = (q, []) ∧ q.st = 2 ∧ q.inter = [] ∧ q.any = true ∧ q.nums.length = 9 ∧ q.nums.take 8 = p.nums.take 8 ∧ q.wrong = p.wrong ∧ q.mark = p.mark := by
  induction l with
  | nil => intro p h1 h2 h3 h4; exact ⟨p, rfl, h1, h2, h3, h4, rfl, rfl, rfl⟩
  | cons c r ih =>
    intro p h1 h2 h3 h4
    obtain ⟨a, b⟩ := h c (by simp)
    have hb := csi_digit p h1 h2 c a b
    rw [if_pos h3] at hb
    have hl : (digitL p.nums (c - 48)).length = 9 := by simp [digitL, h4]
    have ht : (digitL p.nums (c - 48)).take 8 = p.nums.take 8 := by
      unfold digitL
      rw [List.take_append_of_le_length (by simp [h4]), List.dropLast_eq_take, List.take_take, h4]
      rfl
    obtain ⟨q, hq, q1, q2, q3, q4, q5, q6, q7⟩ := ih (fun x hx => h x (by simp [hx])) { p with first := false, any := true, nums := digitL p.nums (c - 48) } h1 h2 rfl hl
    refine ⟨q, ?_, q1, q2, q3, q4, q5.trans ht, q6, q7⟩
    rw [feedP_cons, hb]
    simp only
    rw [hq]
    rfl

theorem csi_semi (p : PL) (hs : p.st = 2) (hi : p.inter = []) :
    byteP p 59 = ({ p with first := false, any := true, nums := (if p.any = true then p.nums else [-1]) ++ (if (if p.any = true then p.nums else [-1]).length ≤ 8 then [-1] else []) }, []) := by
  rw [byteP_csi p hs 59 (by omega) (by omega)]
  unfold csiP
  rw [if_neg (by omega), if_neg (by omega), if_neg (by simp only [hi, ne_eq, not_true_eq_false, and_false, or_false]; omega), if_neg (by omega), if_pos rfl]

theorem snoc_ne (l : List Int) (x : Int) (h : x ≠ -1) : l ++ [x] ≠ [-1] := by
  intro e
  cases l with
  | nil => simp at e; exact h e
  | cons y r => simp at e
theorem snoc_ne2 (l : List Int) (x : Int) (h : l ≠ []) : l ++ [x] ≠ [-1] := by
  intro e
  cases l with
  | nil => exact h rfl
  | cons y r => simp at e
/-- Numbers behind a beginning (vals are done, and nothing yet, or a 59, of the next one). -/
theorem NumS.dig {m : Nat} {p : PL} {vals : List Int} (h1 : p.st = 2) (h2 : p.inter = []) (h3 : p.wrong = false) (h4 : p.mark = m)
    (hc : ((if p.any = true then p.nums else [-1]) = vals ++ [-1]) ∨ (p.any = true ∧ p.nums.length = 9 ∧ p.nums.take 8 = vals.take 8 ∧ 9 ≤ vals.length)) (hl : vals.length ≤ 8 ∨ 9 ≤ vals.length) (he : (if p.any = true then p.nums else [-1]) = vals ++ [-1] → vals.length ≤ 8) (v : Int) (hv : p.any = true ∨ vals = []) (ha : p.any = false → p.nums = []) (hne : p.any = true → vals ≠ []) :
    ∃ q, feedP p (digN v) = (q, []) ∧ NumS m q (vals ++ [valN v]) := by
  by_cases h0 : v < 0
  · have e1 : digN v = [] := if_pos h0
    have e2 : valN v = -1 := if_pos h0
    rw [e1, e2]
    refine ⟨p, rfl, h1, h2, h3, h4, ?_⟩
    rcases hc with hc | ⟨c1, c2, c3, c4⟩
    · have hle := he hc
      by_cases hp : p.any = true
      · rw [if_pos hp] at hc
        exact .inr ⟨hp, ⟨by simp, snoc_ne2 _ _ (hne hp)⟩, by rw [hc], by rw [hc]; simp; omega⟩
      · have hp' : p.any = false := by simpa using hp
        have hvn : vals = [] := hv.resolve_left hp
        exact .inl ⟨hp', ha hp', .inr (by rw [hvn]; rfl)⟩
    · exact .inr ⟨c1, ⟨by simp, snoc_ne2 _ _ (hne c1)⟩, by rw [c3, List.take_append_of_le_length (by omega)], by rw [c2]; simp; omega⟩
  · have e1 : digN v = decN (v % 100000).toNat := if_neg h0
    have e2 : valN v = min (((v % 100000).toNat : Nat) : Int) 9999 := by
      unfold valN; rw [if_neg h0]
      have := Int.emod_nonneg v (show (100000 : Int) ≠ 0 by omega)
      rw [Int.toNat_of_nonneg this]
    rw [e1, e2]
    rcases hc with hc | ⟨c1, c2, c3, c4⟩
    · have hle := he hc
      refine ⟨_, csi_number p h1 h2 vals hc _, h1, h2, h3, h4, .inr ⟨rfl, ⟨by simp, snoc_ne _ _ (by omega)⟩, rfl, by simp; omega⟩⟩
    · obtain ⟨q, hq, q1, q2, q3, q4, q5, q6, q7⟩ := digits_nine (decN (v % 100000).toNat) (fun c hc => decN_mem _ c hc) p h1 h2 c1 c2
      refine ⟨q, hq, q1, q2, q6.trans h3, q7.trans h4, .inr ⟨q3, ⟨by simp, snoc_ne2 _ _ (hne c1)⟩, ?_, ?_⟩⟩
      · rw [q5, c3, List.take_append_of_le_length (by omega)]
      · rw [q4]; simp; omega

theorem NumS.first {m : Nat} {p : PL} (h : NumS m p []) (v : Int) : ∃ q, feedP p (partN 0 v) = (q, []) ∧ NumS m q [valN v] := by
  have e : partN 0 v = digN v := by simp [partN]
  rw [e]
  rcases h.n with ⟨a, b, c⟩ | ⟨_, b, _⟩
  · exact NumS.dig (vals := []) h.st h.i h.w h.m (.inl (by rw [a]; rfl)) (.inl (by simp)) (fun _ => by simp) v (.inr rfl) (fun _ => b) (fun e => by rw [a] at e; cases e)
  · exact absurd rfl b.1

theorem NumS.next {m : Nat} {p : PL} {vals : List Int} (h : NumS m p vals) (h0 : vals ≠ []) (k : Nat) (hk : 0 < k) (v : Int) : ∃ q, feedP p (partN k v) = (q, []) ∧ NumS m q (vals ++ [valN v]) := by
  have e : partN k v = [59] ++ digN v := by simp [partN, hk]
  have hb := csi_semi p h.st h.i
  obtain ⟨cur, hcur⟩ : ∃ cur, (if p.any = true then p.nums else [-1]) = cur := ⟨_, rfl⟩
  rw [hcur] at hb
  have hc : cur.take 8 = vals.take 8 ∧ cur.length = min vals.length 9 := by
    rw [← hcur]
    rcases h.n with ⟨a, b, c⟩ | ⟨a, _, c, d⟩
    · have c := c.resolve_left h0
      rw [a, c]; exact ⟨rfl, rfl⟩
    · rw [a]; exact ⟨c, d⟩
  rw [e, feedP_add, feedP_one, hb]
  simp only
  by_cases h8 : cur.length ≤ 8
  · have hcv : cur = vals := by
      have h1 : vals.length ≤ 8 := by omega
      rw [← List.take_of_length_le h8, hc.1, List.take_of_length_le h1]
    rw [if_pos h8, hcv]
    obtain ⟨q, hq, hn⟩ := NumS.dig (m := m) (p := { p with first := false, any := true, nums := vals ++ [-1] }) (vals := vals) h.st h.i h.w h.m (.inl rfl) (.inl (by omega)) (fun _ => by omega) v (.inl rfl) (fun e => by cases e) (fun _ => h0)
    exact ⟨q, by rw [hq]; rfl, hn⟩
  · rw [if_neg h8, List.append_nil]
    have hv9 : 9 ≤ vals.length := by omega
    obtain ⟨q, hq, hn⟩ := NumS.dig (m := m) (p := { p with first := false, any := true, nums := cur }) (vals := vals) h.st h.i h.w h.m (.inr ⟨rfl, by show cur.length = 9; omega, hc.1, hv9⟩) (.inr hv9) (fun e => by
      have := congrArg List.length e
      simp at this; omega) v (.inl rfl) (fun e => by cases e) (fun _ => h0)
    exact ⟨q, by rw [hq]; rfl, hn⟩

/-- The text of the first k numbers; what they are. -/
def txtN (l : List Int) : Nat → List Nat
  | 0 => []
  | k + 1 => txtN l k ++ partN k (l.getD k 0)
def valsN (l : List Int) (k : Nat) : List Int := (l.take k).map valN

theorem valsN_succ (l : List Int) (k : Nat) (hk : k < l.length) : valsN l (k + 1) = valsN l k ++ [valN (l.getD k 0)] := by
  unfold valsN
  rw [take_next (List.getElem?_eq_getElem hk), List.map_append, List.getD_eq_getElem?_getD, List.getElem?_eq_getElem hk]
  rfl

theorem numS_all {m : Nat} {p : PL} (h : NumS m p []) (l : List Int) : ∀ k, k ≤ l.length → ∃ q, feedP p (txtN l k) = (q, []) ∧ NumS m q (valsN l k) := by
  intro k
  induction k with
  | zero => intro _; exact ⟨p, rfl, by simpa [valsN] using h⟩
  | succ k ih =>
    intro hk
    obtain ⟨q, hq, hn⟩ := ih (by omega)
    have hs := valsN_succ l k (by omega)
    rw [hs]
    rcases Nat.eq_zero_or_pos k with rfl | h0
    · have hn' : NumS m q [] := by simpa [valsN] using hn
      obtain ⟨q', hq', hn2⟩ := hn'.first (l.getD 0 0)
      refine ⟨q', ?_, by simpa [valsN] using hn2⟩
      unfold txtN
      rw [feedP_add, hq]
      simp only [hq']
      rfl
    · have hne : valsN l k ≠ [] := by
        intro e
        have hl : (valsN l k).length = k := by unfold valsN; rw [List.length_map, List.length_take]; omega
        rw [e] at hl
        exact absurd hl (by show ¬ 0 = k; omega)
      obtain ⟨q', hq', hn2⟩ := hn.next hne k h0 (l.getD k 0)
      refine ⟨q', ?_, hn2⟩
      unfold txtN
      rw [feedP_add, hq]
      simp only [hq']
      rfl

/-- What the law wants. -/
def wantN (l : List Int) : List Int := if l.length = 1 ∧ l.getD 0 0 < 0 then [] else (l.map valN).take 8
theorem NumS.want {m : Nat} {q : PL} {l : List Int} (h : NumS m q (valsN l l.length)) : q.nums.take 8 = wantN l := by
  have e : valsN l l.length = l.map valN := by simp [valsN]
  rw [e] at h
  unfold wantN
  rcases h.n with ⟨a, b, c | c⟩ | ⟨a, b, c, d⟩
  · rw [b, c]; simp
  · have hl : l.length = 1 := by have := congrArg List.length c; simpa using this
    obtain ⟨x, rfl⟩ := List.length_eq_one_iff.1 hl
    have hx : x < 0 := by
      by_cases hx : x < 0
      · exact hx
      · have : valN x = -1 := by simpa using c
        unfold valN at this
        rw [if_neg hx] at this
        have := Int.emod_nonneg x (show (100000 : Int) ≠ 0 by omega)
        omega
    rw [b, if_pos ⟨rfl, by simpa using hx⟩]; rfl
  · rw [c, if_neg]
    rintro ⟨h1, h2⟩
    obtain ⟨x, rfl⟩ := List.length_eq_one_iff.1 h1
    have hx : x < 0 := by simpa using h2
    exact b.2 (by simp [valN, hx])

end Go.Proofs.Ythphnjilbpidgaa
