/- esc over lists: our parser, byte by byte, beside the document's. It speaks of no program. By program (XEscO.py). Own work. -/
import Derived.Test.YthphnjilbpidgaaEscM
namespace Go.Proofs.Ythphnjilbpidgaa
set_option linter.unusedVariables false
set_option linter.unusedSimpArgs false

/-- What a byte is. -/
def kindL (c : Nat) : Nat :=
  if c ≤ 31 then (if c = 7 then 1 else if c = 24 ∨ c = 26 then 2 else if c = 27 then 3 else 0)
  else if c ≤ 47 then 4 else if c ≤ 57 then 5 else if c = 58 then 6 else if c = 59 then 7 else if c ≤ 63 then 8
  else if c ≤ 126 then (if c = 80 then 10 else if c = 91 then 11 else if c = 93 then 12 else 9)
  else if c = 127 then 13 else 14

/-- The table. -/
def tabE : List Nat := [0, 2, 0, 2, 0, 0, 1, 0, 0, 1, 0, 1, 0, 1, 0, 1, 0, 1, 0, 1, 0, 1, 0, 1, 0, 1, 0, 0, 0, 1, 1, 2, 1, 2, 0, 0, 1, 0, 2, 8, 0, 3, 0, 3, 0, 3, 0, 3, 0, 3, 11, 0, 5, 0, 10, 0, 1, 0, 0, 1, 2, 2, 2, 2, 0, 0, 1, 0, 3, 8, 0, 3, 0, 3, 0, 3, 0, 3, 0, 3, 0, 3, 0, 3, 0, 3, 2, 0, 0, 1, 3, 2, 3, 2, 0, 0, 1, 0, 4, 0, 0, 3, 0, 3, 0, 3, 0, 3, 0, 3, 0, 3, 0, 3, 0, 3, 3, 0, 0, 1, 4, 2, 4, 2, 0, 0, 1, 0, 4, 0, 0, 0, 0, 0, 0, 0, 0, 0, 0, 0, 0, 0, 0, 0, 0, 0, 4, 0, 0, 1, 5, 2, 5, 2, 0, 0, 1, 0, 7, 8, 6, 9, 9, 0, 6, 10, 6, 7, 0, 4, 0, 4, 0, 4, 0, 4, 5, 0, 0, 1, 6, 2, 6, 2, 0, 0, 1, 0, 7, 8, 6, 9, 9, 0, 6, 10, 9, 0, 0, 4, 0, 4, 0, 4, 0, 4, 6, 0, 0, 1, 7, 2, 7, 2, 0, 0, 1, 0, 8, 8, 9, 0, 9, 0, 9, 0, 9, 0, 0, 4, 0, 4, 0, 4, 0, 4, 7, 0, 0, 1, 8, 2, 8, 2, 0, 0, 1, 0, 9, 0, 9, 0, 9, 0, 9, 0, 9, 0, 0, 4, 0, 4, 0, 4, 0, 4, 8, 0, 0, 1, 9, 2, 9, 2, 0, 0, 1, 0, 9, 0, 9, 0, 9, 0, 9, 0, 9, 0, 0, 0, 0, 0, 0, 0, 0, 0, 9, 0, 0, 1, 10, 0, 0, 5, 0, 0, 1, 5, 10, 11, 10, 11, 10, 11, 10, 11, 10, 11, 10, 11, 10, 11, 10, 11, 10, 11, 10, 11, 10, 11, 11, 0, 11, 0, 0, 0, 1, 6, 11, 11, 11, 11, 11, 11, 11, 11, 11, 11, 11, 11, 11, 11, 11, 11, 11, 11, 11, 11, 11, 11]
def nextE (s k : Nat) : Nat := tabE.getD (s * 30 + k * 2) 0
def deedE (s k : Nat) : Nat := tabE.getD (s * 30 + k * 2 + 1) 0

/-- Our parser. -/
structure BP where
  s : Nat
  u : St
  mark : Nat
  inter : List Nat
  nums : List Int
  came : Nat
  text : List Nat

def BP.z : BP := ⟨0, .z, 0, [], [], 0, []⟩
def BP.clear (b : BP) : BP := ⟨b.s, b.u, 0, [], [], 0, []⟩

def addN (n : List Int) (c : Nat) : List Int × Nat := (if c < 8 then n ++ [-1] else n, c + 1)
def beginN (n : List Int) (c : Nat) : List Int × Nat := if c = 0 then addN n c else (n, c)
def nextN (n : List Int) (c : Nat) : List Int × Nat := addN (beginN n c).1 (beginN n c).2
def digitN (n : List Int) (c d : Nat) : List Int × Nat := (if (beginN n c).2 ≤ 8 then digitL (beginN n c).1 d else (beginN n c).1, (beginN n c).2)

def keepE (b : BP) (d c : Nat) : BP :=
  if d = 7 then { b with mark := c }
  else if d = 8 then { b with inter := b.inter ++ [c] }
  else if d = 9 then { b with nums := (digitN b.nums b.came (c - 48)).1, came := (digitN b.nums b.came (c - 48)).2 }
  else if d = 10 then { b with nums := (nextN b.nums b.came).1, came := (nextN b.nums b.came).2 }
  else if d = 11 then (if b.text.length < 60 then { b with text := b.text ++ [c] } else b)
  else b

def doE (b : BP) (d c : Nat) : BP × List EAct :=
  if d = 1 then ({ b with u := (byteU b.u c).1 }, (byteU b.u c).2.map ePrint)
  else if d = 2 then (b, [eControl c])
  else if d = 3 then (b, [eEscape b.inter c])
  else if d = 4 then (b, [eCsi b.mark b.nums b.inter c])
  else if d = 5 then (b, [eText 5 b.text])
  else if d = 6 then (b, [eText 6 b.text])
  else (keepE b d c, [])

def flushE (b : BP) (d : Nat) : BP × List EAct := if d = 1 then (b, []) else ({ b with u := .z }, (badsU b.u).map ePrint)

/-- What is begun goes where nothing may be. -/
def toE (b : BP) (n : Nat) : BP := if n = 0 ∨ n = 1 then { b with s := n }.clear else { b with s := n }

def stepE (b : BP) (n d c : Nat) : BP × List EAct := (toE (doE (flushE b d).1 d c).1 n, (flushE b d).2 ++ (doE (flushE b d).1 d c).2)

/-- One byte. -/
def byteE (b : BP) (c : Nat) : BP × List EAct := stepE b (nextE b.s (kindL c)) (deedE b.s (kindL c)) c

def feedE : BP → List Nat → BP × List EAct
  | b, [] => (b, [])
  | b, c :: r => ((feedE (byteE b c).1 r).1, (byteE b c).2 ++ (feedE (byteE b c).1 r).2)

theorem feedE_add (p : BP) (a b : List Nat) : feedE p (a ++ b) = ((feedE (feedE p a).1 b).1, (feedE p a).2 ++ (feedE (feedE p a).1 b).2) := by
  induction a generalizing p with
  | nil => simp [feedE]
  | cons x r ih => simp [feedE, ih, List.append_assoc]
theorem feedE_snoc (p : BP) (a : List Nat) (c : Nat) : feedE p (a ++ [c]) = ((byteE (feedE p a).1 c).1, (feedE p a).2 ++ (byteE (feedE p a).1 c).2) := by
  rw [feedE_add]; simp [feedE]

/-- Numbers that are alike. -/
def AlikeN (n : List Int) (c : Nat) (m : List Int) (any : Bool) : Prop :=
  (any = false ∧ m = [] ∧ n = [] ∧ c = 0) ∨ (any = true ∧ 0 < c ∧ n = m.take 8 ∧ m.length = min c 9)

theorem AlikeN.begin {n m : List Int} {c : Nat} {any : Bool} (h : AlikeN n c m any) : 0 < (beginN n c).2 ∧ (beginN n c).1 = (if any = true then m else [-1]).take 8 ∧ (if any = true then m else [-1]).length = min (beginN n c).2 9 := by
  rcases h with ⟨rfl, rfl, rfl, rfl⟩ | ⟨rfl, h0, rfl, hl⟩
  · simp [beginN, addN]
  · have : c ≠ 0 := by omega
    simp [beginN, this, hl]; omega
theorem AlikeN.next {n m : List Int} {c : Nat} {any : Bool} (h : AlikeN n c m any) :
    AlikeN (nextN n c).1 (nextN n c).2 ((if any = true then m else [-1]) ++ (if (if any = true then m else [-1]).length ≤ 8 then [-1] else [])) true := by
  obtain ⟨h0, h1, h2⟩ := h.begin
  unfold nextN
  generalize beginN n c = x at *
  generalize (if any = true then m else [-1]) = base at *
  obtain ⟨x1, x2⟩ := x
  simp only at h0 h1 h2 ⊢
  subst h1
  refine .inr ⟨rfl, by simp [addN], ?_, ?_⟩
  · simp only [addN]
    split
    · rw [if_pos (by omega), List.take_of_length_le (l := base) (by omega), List.take_of_length_le (by simp; omega)]
    · rw [List.take_append_of_le_length (by omega)]
  · simp only [addN]
    split
    · simp; omega
    · simp; omega
theorem digitL_len (l : List Int) (d : Nat) (h : 0 < l.length) : (digitL l d).length = l.length := by simp [digitL]; omega
theorem AlikeN.digit {n m : List Int} {c : Nat} {any : Bool} (h : AlikeN n c m any) (d : Nat) :
    AlikeN (digitN n c d).1 (digitN n c d).2 (digitL (if any = true then m else [-1]) d) true := by
  obtain ⟨h0, h1, h2⟩ := h.begin
  unfold digitN
  generalize beginN n c = x at *
  generalize (if any = true then m else [-1]) = base at *
  obtain ⟨x1, x2⟩ := x
  simp only at h0 h1 h2 ⊢
  subst h1
  refine .inr ⟨rfl, h0, ?_, by rw [digitL_len _ _ (by omega), h2]⟩
  split
  · rw [List.take_of_length_le (l := base) (by omega), List.take_of_length_le (by rw [digitL_len _ _ (by omega)]; omega)]
  · unfold digitL
    rw [List.take_append_of_le_length (by simp; omega), List.dropLast_eq_take, List.take_take]
    congr 1; omega

inductive AlikeE : BP → PL → Prop
  | g (u : St) (B : List Nat) (h : AlikeU u B) : AlikeE ⟨0, u, 0, [], [], 0, []⟩ ⟨0, B, [], 0, [], false, false, false, []⟩
  | e0 : AlikeE ⟨1, .z, 0, [], [], 0, []⟩ ⟨1, [], [], 0, [], false, false, false, []⟩
  | e1 (i : Nat) : AlikeE ⟨2, .z, 0, [i], [], 0, []⟩ ⟨1, [], [i], 0, [], false, false, false, []⟩
  | e2 (i j : Nat) : AlikeE ⟨3, .z, 0, [i, j], [], 0, []⟩ ⟨1, [], [i, j], 0, [], false, false, false, []⟩
  | e3 (i j : Nat) : AlikeE ⟨4, .z, 0, [i, j], [], 0, []⟩ ⟨1, [], [i, j], 0, [], false, false, true, []⟩
  | c0 : AlikeE ⟨5, .z, 0, [], [], 0, []⟩ ⟨2, [], [], 0, [], false, true, false, []⟩
  | c1 (m : Nat) (n : List Int) (c : Nat) (k : List Int) (any : Bool) (h : AlikeN n c k any) : AlikeE ⟨6, .z, m, [], n, c, []⟩ ⟨2, [], [], m, k, any, false, false, []⟩
  | c2 (m : Nat) (n : List Int) (c : Nat) (k : List Int) (any : Bool) (i : Nat) (h : AlikeN n c k any) : AlikeE ⟨7, .z, m, [i], n, c, []⟩ ⟨2, [], [i], m, k, any, false, false, []⟩
  | c3 (m : Nat) (n : List Int) (c : Nat) (k : List Int) (any : Bool) (i j : Nat) (h : AlikeN n c k any) : AlikeE ⟨8, .z, m, [i, j], n, c, []⟩ ⟨2, [], [i, j], m, k, any, false, false, []⟩
  | c4 (m : Nat) (n : List Int) (c : Nat) (k : List Int) (any : Bool) (l : List Nat) (h : AlikeN n c k any) (hl : l.length ≤ 2) (m' : Nat) (k' : List Int) (any' : Bool) (l' : List Nat) : AlikeE ⟨9, .z, m, l, n, c, []⟩ ⟨2, [], l', m', k', any', false, true, []⟩
  | o (t : List Nat) (h : t.length ≤ 60) : AlikeE ⟨10, .z, 0, [], [], 0, t⟩ ⟨3, [], [], 0, [], false, false, false, t⟩
  | d (t : List Nat) (h : t.length ≤ 60) : AlikeE ⟨11, .z, 0, [], [], 0, t⟩ ⟨4, [], [], 0, [], false, false, false, t⟩

theorem alikeU_z : AlikeU .z [] := rfl
theorem AlikeN.take {n m : List Int} {c : Nat} {any : Bool} (h : AlikeN n c m any) : n = m.take 8 := by
  rcases h with ⟨_, rfl, rfl, _⟩ | ⟨_, _, h, _⟩
  · rfl
  · exact h
theorem AlikeN.len {n m : List Int} {c : Nat} {any : Bool} (h : AlikeN n c m any) : n.length = min c 8 := by
  rcases h with ⟨_, rfl, rfl, rfl⟩ | ⟨_, _, rfl, hl⟩
  · rfl
  · rw [List.length_take, hl]; omega
theorem zh : St.z.half = 0 := rfl
theorem none_alike : AlikeN [] 0 [] false := .inl ⟨rfl, rfl, rfl, rfl⟩
theorem flush_same {u : St} {B : List Nat} (h : AlikeU u B) : List.map ePrint (if u.half = 0 then [] else [65533]) = if B = [] then [] else [ePrint 65533] := by
  rw [h.half]
  cases B <;> rfl
theorem AlikeU.nil {B : List Nat} (h : AlikeU .z B) : B = [] := by
  have := h.half
  exact List.eq_nil_of_length_eq_zero this.symm

theorem kind_ctl (c : Nat) (h : c ≤ 31 ∧ c ≠ 7 ∧ c ≠ 24 ∧ c ≠ 26 ∧ c ≠ 27) : kindL c = 0 := by
  unfold kindL
  repeat' split
  all_goals omega

theorem kind_bell : kindL 7 = 1 := by decide

theorem kind_can : kindL 24 = 2 := by decide

theorem kind_sub : kindL 26 = 2 := by decide

theorem kind_begin : kindL 27 = 3 := by decide

theorem kind_inter (c : Nat) (h : 32 ≤ c ∧ c ≤ 47) : kindL c = 4 := by
  unfold kindL
  repeat' split
  all_goals omega

theorem kind_digit (c : Nat) (h : 48 ≤ c ∧ c ≤ 57) : kindL c = 5 := by
  unfold kindL
  repeat' split
  all_goals omega

theorem kind_colon : kindL 58 = 6 := by decide

theorem kind_semi : kindL 59 = 7 := by decide

theorem kind_mark (c : Nat) (h : 60 ≤ c ∧ c ≤ 63) : kindL c = 8 := by
  unfold kindL
  repeat' split
  all_goals omega

theorem kind_final (c : Nat) (h : 64 ≤ c ∧ c ≤ 126 ∧ c ≠ 80 ∧ c ≠ 91 ∧ c ≠ 93) : kindL c = 9 := by
  unfold kindL
  repeat' split
  all_goals omega

theorem kind_dcs : kindL 80 = 10 := by decide

theorem kind_csi : kindL 91 = 11 := by decide

theorem kind_osc : kindL 93 = 12 := by decide

theorem kind_del : kindL 127 = 13 := by decide

theorem kind_high (c : Nat) (h : 128 ≤ c) : kindL c = 14 := by
  unfold kindL
  repeat' split
  all_goals omega

/-- The table's entries, one by one. -/
theorem nx_0_0 : nextE 0 0 = 0 := rfl
theorem dd_0_0 : deedE 0 0 = 2 := rfl
theorem nx_0_1 : nextE 0 1 = 0 := rfl
theorem dd_0_1 : deedE 0 1 = 2 := rfl
theorem nx_0_2 : nextE 0 2 = 0 := rfl
theorem dd_0_2 : deedE 0 2 = 0 := rfl
theorem nx_0_3 : nextE 0 3 = 1 := rfl
theorem dd_0_3 : deedE 0 3 = 0 := rfl
theorem nx_0_4 : nextE 0 4 = 0 := rfl
theorem dd_0_4 : deedE 0 4 = 1 := rfl
theorem nx_0_5 : nextE 0 5 = 0 := rfl
theorem dd_0_5 : deedE 0 5 = 1 := rfl
theorem nx_0_6 : nextE 0 6 = 0 := rfl
theorem dd_0_6 : deedE 0 6 = 1 := rfl
theorem nx_0_7 : nextE 0 7 = 0 := rfl
theorem dd_0_7 : deedE 0 7 = 1 := rfl
theorem nx_0_8 : nextE 0 8 = 0 := rfl
theorem dd_0_8 : deedE 0 8 = 1 := rfl
theorem nx_0_9 : nextE 0 9 = 0 := rfl
theorem dd_0_9 : deedE 0 9 = 1 := rfl
theorem nx_0_10 : nextE 0 10 = 0 := rfl
theorem dd_0_10 : deedE 0 10 = 1 := rfl
theorem nx_0_11 : nextE 0 11 = 0 := rfl
theorem dd_0_11 : deedE 0 11 = 1 := rfl
theorem nx_0_12 : nextE 0 12 = 0 := rfl
theorem dd_0_12 : deedE 0 12 = 1 := rfl
theorem nx_0_13 : nextE 0 13 = 0 := rfl
theorem dd_0_13 : deedE 0 13 = 0 := rfl
theorem nx_0_14 : nextE 0 14 = 0 := rfl
theorem dd_0_14 : deedE 0 14 = 1 := rfl
theorem nx_1_0 : nextE 1 0 = 1 := rfl
theorem dd_1_0 : deedE 1 0 = 2 := rfl
theorem nx_1_1 : nextE 1 1 = 1 := rfl
theorem dd_1_1 : deedE 1 1 = 2 := rfl
theorem nx_1_2 : nextE 1 2 = 0 := rfl
theorem dd_1_2 : deedE 1 2 = 0 := rfl
theorem nx_1_3 : nextE 1 3 = 1 := rfl
theorem dd_1_3 : deedE 1 3 = 0 := rfl
theorem nx_1_4 : nextE 1 4 = 2 := rfl
theorem dd_1_4 : deedE 1 4 = 8 := rfl
theorem nx_1_5 : nextE 1 5 = 0 := rfl
theorem dd_1_5 : deedE 1 5 = 3 := rfl
theorem nx_1_6 : nextE 1 6 = 0 := rfl
theorem dd_1_6 : deedE 1 6 = 3 := rfl
theorem nx_1_7 : nextE 1 7 = 0 := rfl
theorem dd_1_7 : deedE 1 7 = 3 := rfl
theorem nx_1_8 : nextE 1 8 = 0 := rfl
theorem dd_1_8 : deedE 1 8 = 3 := rfl
theorem nx_1_9 : nextE 1 9 = 0 := rfl
theorem dd_1_9 : deedE 1 9 = 3 := rfl
theorem nx_1_10 : nextE 1 10 = 11 := rfl
theorem dd_1_10 : deedE 1 10 = 0 := rfl
theorem nx_1_11 : nextE 1 11 = 5 := rfl
theorem dd_1_11 : deedE 1 11 = 0 := rfl
theorem nx_1_12 : nextE 1 12 = 10 := rfl
theorem dd_1_12 : deedE 1 12 = 0 := rfl
theorem nx_1_13 : nextE 1 13 = 1 := rfl
theorem dd_1_13 : deedE 1 13 = 0 := rfl
theorem nx_1_14 : nextE 1 14 = 0 := rfl
theorem dd_1_14 : deedE 1 14 = 1 := rfl
theorem nx_2_0 : nextE 2 0 = 2 := rfl
theorem dd_2_0 : deedE 2 0 = 2 := rfl
theorem nx_2_1 : nextE 2 1 = 2 := rfl
theorem dd_2_1 : deedE 2 1 = 2 := rfl
theorem nx_2_2 : nextE 2 2 = 0 := rfl
theorem dd_2_2 : deedE 2 2 = 0 := rfl
theorem nx_2_3 : nextE 2 3 = 1 := rfl
theorem dd_2_3 : deedE 2 3 = 0 := rfl
theorem nx_2_4 : nextE 2 4 = 3 := rfl
theorem dd_2_4 : deedE 2 4 = 8 := rfl
theorem nx_2_5 : nextE 2 5 = 0 := rfl
theorem dd_2_5 : deedE 2 5 = 3 := rfl
theorem nx_2_6 : nextE 2 6 = 0 := rfl
theorem dd_2_6 : deedE 2 6 = 3 := rfl
theorem nx_2_7 : nextE 2 7 = 0 := rfl
theorem dd_2_7 : deedE 2 7 = 3 := rfl
theorem nx_2_8 : nextE 2 8 = 0 := rfl
theorem dd_2_8 : deedE 2 8 = 3 := rfl
theorem nx_2_9 : nextE 2 9 = 0 := rfl
theorem dd_2_9 : deedE 2 9 = 3 := rfl
theorem nx_2_10 : nextE 2 10 = 0 := rfl
theorem dd_2_10 : deedE 2 10 = 3 := rfl
theorem nx_2_11 : nextE 2 11 = 0 := rfl
theorem dd_2_11 : deedE 2 11 = 3 := rfl
theorem nx_2_12 : nextE 2 12 = 0 := rfl
theorem dd_2_12 : deedE 2 12 = 3 := rfl
theorem nx_2_13 : nextE 2 13 = 2 := rfl
theorem dd_2_13 : deedE 2 13 = 0 := rfl
theorem nx_2_14 : nextE 2 14 = 0 := rfl
theorem dd_2_14 : deedE 2 14 = 1 := rfl
theorem nx_3_0 : nextE 3 0 = 3 := rfl
theorem dd_3_0 : deedE 3 0 = 2 := rfl
theorem nx_3_1 : nextE 3 1 = 3 := rfl
theorem dd_3_1 : deedE 3 1 = 2 := rfl
theorem nx_3_2 : nextE 3 2 = 0 := rfl
theorem dd_3_2 : deedE 3 2 = 0 := rfl
theorem nx_3_3 : nextE 3 3 = 1 := rfl
theorem dd_3_3 : deedE 3 3 = 0 := rfl
theorem nx_3_4 : nextE 3 4 = 4 := rfl
theorem dd_3_4 : deedE 3 4 = 0 := rfl
theorem nx_3_5 : nextE 3 5 = 0 := rfl
theorem dd_3_5 : deedE 3 5 = 3 := rfl
theorem nx_3_6 : nextE 3 6 = 0 := rfl
theorem dd_3_6 : deedE 3 6 = 3 := rfl
theorem nx_3_7 : nextE 3 7 = 0 := rfl
theorem dd_3_7 : deedE 3 7 = 3 := rfl
theorem nx_3_8 : nextE 3 8 = 0 := rfl
theorem dd_3_8 : deedE 3 8 = 3 := rfl
theorem nx_3_9 : nextE 3 9 = 0 := rfl
theorem dd_3_9 : deedE 3 9 = 3 := rfl
theorem nx_3_10 : nextE 3 10 = 0 := rfl
theorem dd_3_10 : deedE 3 10 = 3 := rfl
theorem nx_3_11 : nextE 3 11 = 0 := rfl
theorem dd_3_11 : deedE 3 11 = 3 := rfl
theorem nx_3_12 : nextE 3 12 = 0 := rfl
theorem dd_3_12 : deedE 3 12 = 3 := rfl
theorem nx_3_13 : nextE 3 13 = 3 := rfl
theorem dd_3_13 : deedE 3 13 = 0 := rfl
theorem nx_3_14 : nextE 3 14 = 0 := rfl
theorem dd_3_14 : deedE 3 14 = 1 := rfl
theorem nx_4_0 : nextE 4 0 = 4 := rfl
theorem dd_4_0 : deedE 4 0 = 2 := rfl
theorem nx_4_1 : nextE 4 1 = 4 := rfl
theorem dd_4_1 : deedE 4 1 = 2 := rfl
theorem nx_4_2 : nextE 4 2 = 0 := rfl
theorem dd_4_2 : deedE 4 2 = 0 := rfl
theorem nx_4_3 : nextE 4 3 = 1 := rfl
theorem dd_4_3 : deedE 4 3 = 0 := rfl
theorem nx_4_4 : nextE 4 4 = 4 := rfl
theorem dd_4_4 : deedE 4 4 = 0 := rfl
theorem nx_4_5 : nextE 4 5 = 0 := rfl
theorem dd_4_5 : deedE 4 5 = 0 := rfl
theorem nx_4_6 : nextE 4 6 = 0 := rfl
theorem dd_4_6 : deedE 4 6 = 0 := rfl
theorem nx_4_7 : nextE 4 7 = 0 := rfl
theorem dd_4_7 : deedE 4 7 = 0 := rfl
theorem nx_4_8 : nextE 4 8 = 0 := rfl
theorem dd_4_8 : deedE 4 8 = 0 := rfl
theorem nx_4_9 : nextE 4 9 = 0 := rfl
theorem dd_4_9 : deedE 4 9 = 0 := rfl
theorem nx_4_10 : nextE 4 10 = 0 := rfl
theorem dd_4_10 : deedE 4 10 = 0 := rfl
theorem nx_4_11 : nextE 4 11 = 0 := rfl
theorem dd_4_11 : deedE 4 11 = 0 := rfl
theorem nx_4_12 : nextE 4 12 = 0 := rfl
theorem dd_4_12 : deedE 4 12 = 0 := rfl
theorem nx_4_13 : nextE 4 13 = 4 := rfl
theorem dd_4_13 : deedE 4 13 = 0 := rfl
theorem nx_4_14 : nextE 4 14 = 0 := rfl
theorem dd_4_14 : deedE 4 14 = 1 := rfl
theorem nx_5_0 : nextE 5 0 = 5 := rfl
theorem dd_5_0 : deedE 5 0 = 2 := rfl
theorem nx_5_1 : nextE 5 1 = 5 := rfl
theorem dd_5_1 : deedE 5 1 = 2 := rfl
theorem nx_5_2 : nextE 5 2 = 0 := rfl
theorem dd_5_2 : deedE 5 2 = 0 := rfl
theorem nx_5_3 : nextE 5 3 = 1 := rfl
theorem dd_5_3 : deedE 5 3 = 0 := rfl
theorem nx_5_4 : nextE 5 4 = 7 := rfl
theorem dd_5_4 : deedE 5 4 = 8 := rfl
theorem nx_5_5 : nextE 5 5 = 6 := rfl
theorem dd_5_5 : deedE 5 5 = 9 := rfl
theorem nx_5_6 : nextE 5 6 = 9 := rfl
theorem dd_5_6 : deedE 5 6 = 0 := rfl
theorem nx_5_7 : nextE 5 7 = 6 := rfl
theorem dd_5_7 : deedE 5 7 = 10 := rfl
theorem nx_5_8 : nextE 5 8 = 6 := rfl
theorem dd_5_8 : deedE 5 8 = 7 := rfl
theorem nx_5_9 : nextE 5 9 = 0 := rfl
theorem dd_5_9 : deedE 5 9 = 4 := rfl
theorem nx_5_10 : nextE 5 10 = 0 := rfl
theorem dd_5_10 : deedE 5 10 = 4 := rfl
theorem nx_5_11 : nextE 5 11 = 0 := rfl
theorem dd_5_11 : deedE 5 11 = 4 := rfl
theorem nx_5_12 : nextE 5 12 = 0 := rfl
theorem dd_5_12 : deedE 5 12 = 4 := rfl
theorem nx_5_13 : nextE 5 13 = 5 := rfl
theorem dd_5_13 : deedE 5 13 = 0 := rfl
theorem nx_5_14 : nextE 5 14 = 0 := rfl
theorem dd_5_14 : deedE 5 14 = 1 := rfl
theorem nx_6_0 : nextE 6 0 = 6 := rfl
theorem dd_6_0 : deedE 6 0 = 2 := rfl
theorem nx_6_1 : nextE 6 1 = 6 := rfl
theorem dd_6_1 : deedE 6 1 = 2 := rfl
theorem nx_6_2 : nextE 6 2 = 0 := rfl
theorem dd_6_2 : deedE 6 2 = 0 := rfl
theorem nx_6_3 : nextE 6 3 = 1 := rfl
theorem dd_6_3 : deedE 6 3 = 0 := rfl
theorem nx_6_4 : nextE 6 4 = 7 := rfl
theorem dd_6_4 : deedE 6 4 = 8 := rfl
theorem nx_6_5 : nextE 6 5 = 6 := rfl
theorem dd_6_5 : deedE 6 5 = 9 := rfl
theorem nx_6_6 : nextE 6 6 = 9 := rfl
theorem dd_6_6 : deedE 6 6 = 0 := rfl
theorem nx_6_7 : nextE 6 7 = 6 := rfl
theorem dd_6_7 : deedE 6 7 = 10 := rfl
theorem nx_6_8 : nextE 6 8 = 9 := rfl
theorem dd_6_8 : deedE 6 8 = 0 := rfl
theorem nx_6_9 : nextE 6 9 = 0 := rfl
theorem dd_6_9 : deedE 6 9 = 4 := rfl
theorem nx_6_10 : nextE 6 10 = 0 := rfl
theorem dd_6_10 : deedE 6 10 = 4 := rfl
theorem nx_6_11 : nextE 6 11 = 0 := rfl
theorem dd_6_11 : deedE 6 11 = 4 := rfl
theorem nx_6_12 : nextE 6 12 = 0 := rfl
theorem dd_6_12 : deedE 6 12 = 4 := rfl
theorem nx_6_13 : nextE 6 13 = 6 := rfl
theorem dd_6_13 : deedE 6 13 = 0 := rfl
theorem nx_6_14 : nextE 6 14 = 0 := rfl
theorem dd_6_14 : deedE 6 14 = 1 := rfl
theorem nx_7_0 : nextE 7 0 = 7 := rfl
theorem dd_7_0 : deedE 7 0 = 2 := rfl
theorem nx_7_1 : nextE 7 1 = 7 := rfl
theorem dd_7_1 : deedE 7 1 = 2 := rfl
theorem nx_7_2 : nextE 7 2 = 0 := rfl
theorem dd_7_2 : deedE 7 2 = 0 := rfl
theorem nx_7_3 : nextE 7 3 = 1 := rfl
theorem dd_7_3 : deedE 7 3 = 0 := rfl
theorem nx_7_4 : nextE 7 4 = 8 := rfl
theorem dd_7_4 : deedE 7 4 = 8 := rfl
theorem nx_7_5 : nextE 7 5 = 9 := rfl
theorem dd_7_5 : deedE 7 5 = 0 := rfl
theorem nx_7_6 : nextE 7 6 = 9 := rfl
theorem dd_7_6 : deedE 7 6 = 0 := rfl
theorem nx_7_7 : nextE 7 7 = 9 := rfl
theorem dd_7_7 : deedE 7 7 = 0 := rfl
theorem nx_7_8 : nextE 7 8 = 9 := rfl
theorem dd_7_8 : deedE 7 8 = 0 := rfl
theorem nx_7_9 : nextE 7 9 = 0 := rfl
theorem dd_7_9 : deedE 7 9 = 4 := rfl
theorem nx_7_10 : nextE 7 10 = 0 := rfl
theorem dd_7_10 : deedE 7 10 = 4 := rfl
theorem nx_7_11 : nextE 7 11 = 0 := rfl
theorem dd_7_11 : deedE 7 11 = 4 := rfl
theorem nx_7_12 : nextE 7 12 = 0 := rfl
theorem dd_7_12 : deedE 7 12 = 4 := rfl
theorem nx_7_13 : nextE 7 13 = 7 := rfl
theorem dd_7_13 : deedE 7 13 = 0 := rfl
theorem nx_7_14 : nextE 7 14 = 0 := rfl
theorem dd_7_14 : deedE 7 14 = 1 := rfl
theorem nx_8_0 : nextE 8 0 = 8 := rfl
theorem dd_8_0 : deedE 8 0 = 2 := rfl
theorem nx_8_1 : nextE 8 1 = 8 := rfl
theorem dd_8_1 : deedE 8 1 = 2 := rfl
theorem nx_8_2 : nextE 8 2 = 0 := rfl
theorem dd_8_2 : deedE 8 2 = 0 := rfl
theorem nx_8_3 : nextE 8 3 = 1 := rfl
theorem dd_8_3 : deedE 8 3 = 0 := rfl
theorem nx_8_4 : nextE 8 4 = 9 := rfl
theorem dd_8_4 : deedE 8 4 = 0 := rfl
theorem nx_8_5 : nextE 8 5 = 9 := rfl
theorem dd_8_5 : deedE 8 5 = 0 := rfl
theorem nx_8_6 : nextE 8 6 = 9 := rfl
theorem dd_8_6 : deedE 8 6 = 0 := rfl
theorem nx_8_7 : nextE 8 7 = 9 := rfl
theorem dd_8_7 : deedE 8 7 = 0 := rfl
theorem nx_8_8 : nextE 8 8 = 9 := rfl
theorem dd_8_8 : deedE 8 8 = 0 := rfl
theorem nx_8_9 : nextE 8 9 = 0 := rfl
theorem dd_8_9 : deedE 8 9 = 4 := rfl
theorem nx_8_10 : nextE 8 10 = 0 := rfl
theorem dd_8_10 : deedE 8 10 = 4 := rfl
theorem nx_8_11 : nextE 8 11 = 0 := rfl
theorem dd_8_11 : deedE 8 11 = 4 := rfl
theorem nx_8_12 : nextE 8 12 = 0 := rfl
theorem dd_8_12 : deedE 8 12 = 4 := rfl
theorem nx_8_13 : nextE 8 13 = 8 := rfl
theorem dd_8_13 : deedE 8 13 = 0 := rfl
theorem nx_8_14 : nextE 8 14 = 0 := rfl
theorem dd_8_14 : deedE 8 14 = 1 := rfl
theorem nx_9_0 : nextE 9 0 = 9 := rfl
theorem dd_9_0 : deedE 9 0 = 2 := rfl
theorem nx_9_1 : nextE 9 1 = 9 := rfl
theorem dd_9_1 : deedE 9 1 = 2 := rfl
theorem nx_9_2 : nextE 9 2 = 0 := rfl
theorem dd_9_2 : deedE 9 2 = 0 := rfl
theorem nx_9_3 : nextE 9 3 = 1 := rfl
theorem dd_9_3 : deedE 9 3 = 0 := rfl
theorem nx_9_4 : nextE 9 4 = 9 := rfl
theorem dd_9_4 : deedE 9 4 = 0 := rfl
theorem nx_9_5 : nextE 9 5 = 9 := rfl
theorem dd_9_5 : deedE 9 5 = 0 := rfl
theorem nx_9_6 : nextE 9 6 = 9 := rfl
theorem dd_9_6 : deedE 9 6 = 0 := rfl
theorem nx_9_7 : nextE 9 7 = 9 := rfl
theorem dd_9_7 : deedE 9 7 = 0 := rfl
theorem nx_9_8 : nextE 9 8 = 9 := rfl
theorem dd_9_8 : deedE 9 8 = 0 := rfl
theorem nx_9_9 : nextE 9 9 = 0 := rfl
theorem dd_9_9 : deedE 9 9 = 0 := rfl
theorem nx_9_10 : nextE 9 10 = 0 := rfl
theorem dd_9_10 : deedE 9 10 = 0 := rfl
theorem nx_9_11 : nextE 9 11 = 0 := rfl
theorem dd_9_11 : deedE 9 11 = 0 := rfl
theorem nx_9_12 : nextE 9 12 = 0 := rfl
theorem dd_9_12 : deedE 9 12 = 0 := rfl
theorem nx_9_13 : nextE 9 13 = 9 := rfl
theorem dd_9_13 : deedE 9 13 = 0 := rfl
theorem nx_9_14 : nextE 9 14 = 0 := rfl
theorem dd_9_14 : deedE 9 14 = 1 := rfl
theorem nx_10_0 : nextE 10 0 = 10 := rfl
theorem dd_10_0 : deedE 10 0 = 0 := rfl
theorem nx_10_1 : nextE 10 1 = 0 := rfl
theorem dd_10_1 : deedE 10 1 = 5 := rfl
theorem nx_10_2 : nextE 10 2 = 0 := rfl
theorem dd_10_2 : deedE 10 2 = 0 := rfl
theorem nx_10_3 : nextE 10 3 = 1 := rfl
theorem dd_10_3 : deedE 10 3 = 5 := rfl
theorem nx_10_4 : nextE 10 4 = 10 := rfl
theorem dd_10_4 : deedE 10 4 = 11 := rfl
theorem nx_10_5 : nextE 10 5 = 10 := rfl
theorem dd_10_5 : deedE 10 5 = 11 := rfl
theorem nx_10_6 : nextE 10 6 = 10 := rfl
theorem dd_10_6 : deedE 10 6 = 11 := rfl
theorem nx_10_7 : nextE 10 7 = 10 := rfl
theorem dd_10_7 : deedE 10 7 = 11 := rfl
theorem nx_10_8 : nextE 10 8 = 10 := rfl
theorem dd_10_8 : deedE 10 8 = 11 := rfl
theorem nx_10_9 : nextE 10 9 = 10 := rfl
theorem dd_10_9 : deedE 10 9 = 11 := rfl
theorem nx_10_10 : nextE 10 10 = 10 := rfl
theorem dd_10_10 : deedE 10 10 = 11 := rfl
theorem nx_10_11 : nextE 10 11 = 10 := rfl
theorem dd_10_11 : deedE 10 11 = 11 := rfl
theorem nx_10_12 : nextE 10 12 = 10 := rfl
theorem dd_10_12 : deedE 10 12 = 11 := rfl
theorem nx_10_13 : nextE 10 13 = 10 := rfl
theorem dd_10_13 : deedE 10 13 = 11 := rfl
theorem nx_10_14 : nextE 10 14 = 10 := rfl
theorem dd_10_14 : deedE 10 14 = 11 := rfl
theorem nx_11_0 : nextE 11 0 = 11 := rfl
theorem dd_11_0 : deedE 11 0 = 0 := rfl
theorem nx_11_1 : nextE 11 1 = 11 := rfl
theorem dd_11_1 : deedE 11 1 = 0 := rfl
theorem nx_11_2 : nextE 11 2 = 0 := rfl
theorem dd_11_2 : deedE 11 2 = 0 := rfl
theorem nx_11_3 : nextE 11 3 = 1 := rfl
theorem dd_11_3 : deedE 11 3 = 6 := rfl
theorem nx_11_4 : nextE 11 4 = 11 := rfl
theorem dd_11_4 : deedE 11 4 = 11 := rfl
theorem nx_11_5 : nextE 11 5 = 11 := rfl
theorem dd_11_5 : deedE 11 5 = 11 := rfl
theorem nx_11_6 : nextE 11 6 = 11 := rfl
theorem dd_11_6 : deedE 11 6 = 11 := rfl
theorem nx_11_7 : nextE 11 7 = 11 := rfl
theorem dd_11_7 : deedE 11 7 = 11 := rfl
theorem nx_11_8 : nextE 11 8 = 11 := rfl
theorem dd_11_8 : deedE 11 8 = 11 := rfl
theorem nx_11_9 : nextE 11 9 = 11 := rfl
theorem dd_11_9 : deedE 11 9 = 11 := rfl
theorem nx_11_10 : nextE 11 10 = 11 := rfl
theorem dd_11_10 : deedE 11 10 = 11 := rfl
theorem nx_11_11 : nextE 11 11 = 11 := rfl
theorem dd_11_11 : deedE 11 11 = 11 := rfl
theorem nx_11_12 : nextE 11 12 = 11 := rfl
theorem dd_11_12 : deedE 11 12 = 11 := rfl
theorem nx_11_13 : nextE 11 13 = 11 := rfl
theorem dd_11_13 : deedE 11 13 = 11 := rfl
theorem nx_11_14 : nextE 11 14 = 11 := rfl
theorem dd_11_14 : deedE 11 14 = 11 := rfl

set_option maxHeartbeats 1600000 in
theorem al_ctl (b : BP) (p : PL) (h : AlikeE b p) (c : Nat) (hc : c ≤ 31 ∧ c ≠ 7 ∧ c ≠ 24 ∧ c ≠ 26 ∧ c ≠ 27) : AlikeE (byteE b c).1 (byteP p c).1 ∧ (byteE b c).2 = (byteP p c).2 := by
  have hk := kind_ctl c hc
  have t0 : (c = 24) = False := by simp only [eq_iff_iff, iff_true, iff_false]; omega
  have t1 : (c = 26) = False := by simp only [eq_iff_iff, iff_true, iff_false]; omega
  have t2 : (c = 27) = False := by simp only [eq_iff_iff, iff_true, iff_false]; omega
  have t3 : (c < 32) = True := by simp only [eq_iff_iff, iff_true, iff_false]; omega
  have t4 : (c = 7) = False := by simp only [eq_iff_iff, iff_true, iff_false]; omega
  have t5 : (c = 127) = False := by simp only [eq_iff_iff, iff_true, iff_false]; omega
  have t6 : (c < 128) = True := by simp only [eq_iff_iff, iff_true, iff_false]; omega
  have t7 : (c < 48) = True := by simp only [eq_iff_iff, iff_true, iff_false]; omega
  have t8 : (c = 91) = False := by simp only [eq_iff_iff, iff_true, iff_false]; omega
  have t9 : (c = 93) = False := by simp only [eq_iff_iff, iff_true, iff_false]; omega
  have t10 : (c = 80) = False := by simp only [eq_iff_iff, iff_true, iff_false]; omega
  have t11 : (60 ≤ c) = False := by simp only [eq_iff_iff, iff_true, iff_false]; omega
  have t12 : (c ≤ 63) = True := by simp only [eq_iff_iff, iff_true, iff_false]; omega
  have t13 : (c = 58) = False := by simp only [eq_iff_iff, iff_true, iff_false]; omega
  have t14 : (c ≤ 59) = True := by simp only [eq_iff_iff, iff_true, iff_false]; omega
  have t15 : (c ≤ 57) = True := by simp only [eq_iff_iff, iff_true, iff_false]; omega
  have t16 : (c = 59) = False := by simp only [eq_iff_iff, iff_true, iff_false]; omega
  rcases h with ⟨u, B, h⟩ | _ | ⟨i⟩ | ⟨i, j⟩ | ⟨i, j⟩ | _ | ⟨m, n, d, k, any, h⟩ | ⟨m, n, d, k, any, i, h⟩ | ⟨m, n, d, k, any, i, j, h⟩ | ⟨m, n, d, k, any, l, h, hl, m', k', any', l'⟩ | ⟨t, h⟩ | ⟨t, h⟩
  all_goals simp [byteE, hk, nx_0_0, dd_0_0, nx_1_0, dd_1_0, nx_2_0, dd_2_0, nx_3_0, dd_3_0, nx_4_0, dd_4_0, nx_5_0, dd_5_0, nx_6_0, dd_6_0, nx_7_0, dd_7_0, nx_8_0, dd_8_0, nx_9_0, dd_9_0, nx_10_0, dd_10_0, nx_11_0, dd_11_0, stepE, flushE, doE, keepE, toE, BP.clear, byteP, escP, csiP, PL.text, PL.ends, PL.more, PL.flushed, pAt, badsU, zh, t0, t1, t2, t3, t4, t5, t6, t7, t8, t9, t10, t11, t12, t13, t14, t15, t16]
  all_goals (repeat' (refine And.intro ?_ ?_))
  all_goals first
    | rfl
    | exact flush_same h
    | exact AlikeE.e0
    | exact AlikeE.e1 _
    | exact AlikeE.e2 _ _
    | exact AlikeE.e3 _ _
    | exact AlikeE.c0
    | exact AlikeE.g _ _ alikeU_z
    | exact AlikeE.g _ _ (byte_alike h _).1
    | exact AlikeE.g _ _ (byte_alike alikeU_z _).1
    | exact congrArg _ (byte_alike h _).2
    | exact congrArg _ (byte_alike alikeU_z _).2
    | exact AlikeE.c1 _ _ _ _ _ h
    | exact AlikeE.c2 _ _ _ _ _ _ h
    | exact AlikeE.c3 _ _ _ _ _ _ _ h
    | exact AlikeE.c1 _ _ _ _ _ none_alike
    | exact AlikeE.c2 _ _ _ _ _ _ none_alike
    | exact AlikeE.c1 _ _ _ _ _ (AlikeN.digit h _)
    | exact AlikeE.c1 _ _ _ _ _ (AlikeN.digit none_alike _)
    | exact AlikeE.c1 _ _ _ _ _ (AlikeN.next h)
    | exact AlikeE.c1 _ _ _ _ _ (AlikeN.next none_alike)
    | exact AlikeE.o _ (by simp)
    | exact AlikeE.d _ (by simp)
    | exact AlikeE.o _ h
    | exact AlikeE.d _ h
    | exact AlikeE.c4 _ _ _ _ _ _ h (by simp) _ _ _ _
    | exact AlikeE.c4 _ _ _ _ _ _ h hl _ _ _ _
    | exact AlikeE.c4 _ _ _ _ _ _ none_alike (by simp) _ _ _ _
    | (split <;> first | exact AlikeE.c4 _ _ _ _ _ _ h hl _ _ _ _ | rfl)
    | (by_cases ht : t.length < 60 <;> simp only [ht, if_true, if_false] <;> first | exact AlikeE.o _ (by simp; omega) | exact AlikeE.d _ (by simp; omega) | exact AlikeE.o _ (by omega) | exact AlikeE.d _ (by omega) | rfl)
    | exact congrArg (fun x => eCsi m x _ _) h.take
    | fail

set_option maxHeartbeats 1600000 in
theorem al_bell (b : BP) (p : PL) (h : AlikeE b p) : AlikeE (byteE b 7).1 (byteP p 7).1 ∧ (byteE b 7).2 = (byteP p 7).2 := by
  have hk := kind_bell
  rcases h with ⟨u, B, h⟩ | _ | ⟨i⟩ | ⟨i, j⟩ | ⟨i, j⟩ | _ | ⟨m, n, d, k, any, h⟩ | ⟨m, n, d, k, any, i, h⟩ | ⟨m, n, d, k, any, i, j, h⟩ | ⟨m, n, d, k, any, l, h, hl, m', k', any', l'⟩ | ⟨t, h⟩ | ⟨t, h⟩
  all_goals simp [byteE, hk, nx_0_1, dd_0_1, nx_1_1, dd_1_1, nx_2_1, dd_2_1, nx_3_1, dd_3_1, nx_4_1, dd_4_1, nx_5_1, dd_5_1, nx_6_1, dd_6_1, nx_7_1, dd_7_1, nx_8_1, dd_8_1, nx_9_1, dd_9_1, nx_10_1, dd_10_1, nx_11_1, dd_11_1, stepE, flushE, doE, keepE, toE, BP.clear, byteP, escP, csiP, PL.text, PL.ends, PL.more, PL.flushed, pAt, badsU, zh]
  all_goals (repeat' (refine And.intro ?_ ?_))
  all_goals first
    | rfl
    | exact flush_same h
    | exact AlikeE.e0
    | exact AlikeE.e1 _
    | exact AlikeE.e2 _ _
    | exact AlikeE.e3 _ _
    | exact AlikeE.c0
    | exact AlikeE.g _ _ alikeU_z
    | exact AlikeE.g _ _ (byte_alike h _).1
    | exact AlikeE.g _ _ (byte_alike alikeU_z _).1
    | exact congrArg _ (byte_alike h _).2
    | exact congrArg _ (byte_alike alikeU_z _).2
    | exact AlikeE.c1 _ _ _ _ _ h
    | exact AlikeE.c2 _ _ _ _ _ _ h
    | exact AlikeE.c3 _ _ _ _ _ _ _ h
    | exact AlikeE.c1 _ _ _ _ _ none_alike
    | exact AlikeE.c2 _ _ _ _ _ _ none_alike
    | exact AlikeE.c1 _ _ _ _ _ (AlikeN.digit h _)
    | exact AlikeE.c1 _ _ _ _ _ (AlikeN.digit none_alike _)
    | exact AlikeE.c1 _ _ _ _ _ (AlikeN.next h)
    | exact AlikeE.c1 _ _ _ _ _ (AlikeN.next none_alike)
    | exact AlikeE.o _ (by simp)
    | exact AlikeE.d _ (by simp)
    | exact AlikeE.o _ h
    | exact AlikeE.d _ h
    | exact AlikeE.c4 _ _ _ _ _ _ h (by simp) _ _ _ _
    | exact AlikeE.c4 _ _ _ _ _ _ h hl _ _ _ _
    | exact AlikeE.c4 _ _ _ _ _ _ none_alike (by simp) _ _ _ _
    | (split <;> first | exact AlikeE.c4 _ _ _ _ _ _ h hl _ _ _ _ | rfl)
    | (by_cases ht : t.length < 60 <;> simp only [ht, if_true, if_false] <;> first | exact AlikeE.o _ (by simp; omega) | exact AlikeE.d _ (by simp; omega) | exact AlikeE.o _ (by omega) | exact AlikeE.d _ (by omega) | rfl)
    | exact congrArg (fun x => eCsi m x _ _) h.take
    | fail

set_option maxHeartbeats 1600000 in
theorem al_can (b : BP) (p : PL) (h : AlikeE b p) : AlikeE (byteE b 24).1 (byteP p 24).1 ∧ (byteE b 24).2 = (byteP p 24).2 := by
  have hk := kind_can
  rcases h with ⟨u, B, h⟩ | _ | ⟨i⟩ | ⟨i, j⟩ | ⟨i, j⟩ | _ | ⟨m, n, d, k, any, h⟩ | ⟨m, n, d, k, any, i, h⟩ | ⟨m, n, d, k, any, i, j, h⟩ | ⟨m, n, d, k, any, l, h, hl, m', k', any', l'⟩ | ⟨t, h⟩ | ⟨t, h⟩
  all_goals simp [byteE, hk, nx_0_2, dd_0_2, nx_1_2, dd_1_2, nx_2_2, dd_2_2, nx_3_2, dd_3_2, nx_4_2, dd_4_2, nx_5_2, dd_5_2, nx_6_2, dd_6_2, nx_7_2, dd_7_2, nx_8_2, dd_8_2, nx_9_2, dd_9_2, nx_10_2, dd_10_2, nx_11_2, dd_11_2, stepE, flushE, doE, keepE, toE, BP.clear, byteP, escP, csiP, PL.text, PL.ends, PL.more, PL.flushed, pAt, badsU, zh]
  all_goals (repeat' (refine And.intro ?_ ?_))
  all_goals first
    | rfl
    | exact flush_same h
    | exact AlikeE.e0
    | exact AlikeE.e1 _
    | exact AlikeE.e2 _ _
    | exact AlikeE.e3 _ _
    | exact AlikeE.c0
    | exact AlikeE.g _ _ alikeU_z
    | exact AlikeE.g _ _ (byte_alike h _).1
    | exact AlikeE.g _ _ (byte_alike alikeU_z _).1
    | exact congrArg _ (byte_alike h _).2
    | exact congrArg _ (byte_alike alikeU_z _).2
    | exact AlikeE.c1 _ _ _ _ _ h
    | exact AlikeE.c2 _ _ _ _ _ _ h
    | exact AlikeE.c3 _ _ _ _ _ _ _ h
    | exact AlikeE.c1 _ _ _ _ _ none_alike
    | exact AlikeE.c2 _ _ _ _ _ _ none_alike
    | exact AlikeE.c1 _ _ _ _ _ (AlikeN.digit h _)
    | exact AlikeE.c1 _ _ _ _ _ (AlikeN.digit none_alike _)
    | exact AlikeE.c1 _ _ _ _ _ (AlikeN.next h)
    | exact AlikeE.c1 _ _ _ _ _ (AlikeN.next none_alike)
    | exact AlikeE.o _ (by simp)
    | exact AlikeE.d _ (by simp)
    | exact AlikeE.o _ h
    | exact AlikeE.d _ h
    | exact AlikeE.c4 _ _ _ _ _ _ h (by simp) _ _ _ _
    | exact AlikeE.c4 _ _ _ _ _ _ h hl _ _ _ _
    | exact AlikeE.c4 _ _ _ _ _ _ none_alike (by simp) _ _ _ _
    | (split <;> first | exact AlikeE.c4 _ _ _ _ _ _ h hl _ _ _ _ | rfl)
    | (by_cases ht : t.length < 60 <;> simp only [ht, if_true, if_false] <;> first | exact AlikeE.o _ (by simp; omega) | exact AlikeE.d _ (by simp; omega) | exact AlikeE.o _ (by omega) | exact AlikeE.d _ (by omega) | rfl)
    | exact congrArg (fun x => eCsi m x _ _) h.take
    | fail

set_option maxHeartbeats 1600000 in
theorem al_sub (b : BP) (p : PL) (h : AlikeE b p) : AlikeE (byteE b 26).1 (byteP p 26).1 ∧ (byteE b 26).2 = (byteP p 26).2 := by
  have hk := kind_sub
  rcases h with ⟨u, B, h⟩ | _ | ⟨i⟩ | ⟨i, j⟩ | ⟨i, j⟩ | _ | ⟨m, n, d, k, any, h⟩ | ⟨m, n, d, k, any, i, h⟩ | ⟨m, n, d, k, any, i, j, h⟩ | ⟨m, n, d, k, any, l, h, hl, m', k', any', l'⟩ | ⟨t, h⟩ | ⟨t, h⟩
  all_goals simp [byteE, hk, nx_0_2, dd_0_2, nx_1_2, dd_1_2, nx_2_2, dd_2_2, nx_3_2, dd_3_2, nx_4_2, dd_4_2, nx_5_2, dd_5_2, nx_6_2, dd_6_2, nx_7_2, dd_7_2, nx_8_2, dd_8_2, nx_9_2, dd_9_2, nx_10_2, dd_10_2, nx_11_2, dd_11_2, stepE, flushE, doE, keepE, toE, BP.clear, byteP, escP, csiP, PL.text, PL.ends, PL.more, PL.flushed, pAt, badsU, zh]
  all_goals (repeat' (refine And.intro ?_ ?_))
  all_goals first
    | rfl
    | exact flush_same h
    | exact AlikeE.e0
    | exact AlikeE.e1 _
    | exact AlikeE.e2 _ _
    | exact AlikeE.e3 _ _
    | exact AlikeE.c0
    | exact AlikeE.g _ _ alikeU_z
    | exact AlikeE.g _ _ (byte_alike h _).1
    | exact AlikeE.g _ _ (byte_alike alikeU_z _).1
    | exact congrArg _ (byte_alike h _).2
    | exact congrArg _ (byte_alike alikeU_z _).2
    | exact AlikeE.c1 _ _ _ _ _ h
    | exact AlikeE.c2 _ _ _ _ _ _ h
    | exact AlikeE.c3 _ _ _ _ _ _ _ h
    | exact AlikeE.c1 _ _ _ _ _ none_alike
    | exact AlikeE.c2 _ _ _ _ _ _ none_alike
    | exact AlikeE.c1 _ _ _ _ _ (AlikeN.digit h _)
    | exact AlikeE.c1 _ _ _ _ _ (AlikeN.digit none_alike _)
    | exact AlikeE.c1 _ _ _ _ _ (AlikeN.next h)
    | exact AlikeE.c1 _ _ _ _ _ (AlikeN.next none_alike)
    | exact AlikeE.o _ (by simp)
    | exact AlikeE.d _ (by simp)
    | exact AlikeE.o _ h
    | exact AlikeE.d _ h
    | exact AlikeE.c4 _ _ _ _ _ _ h (by simp) _ _ _ _
    | exact AlikeE.c4 _ _ _ _ _ _ h hl _ _ _ _
    | exact AlikeE.c4 _ _ _ _ _ _ none_alike (by simp) _ _ _ _
    | (split <;> first | exact AlikeE.c4 _ _ _ _ _ _ h hl _ _ _ _ | rfl)
    | (by_cases ht : t.length < 60 <;> simp only [ht, if_true, if_false] <;> first | exact AlikeE.o _ (by simp; omega) | exact AlikeE.d _ (by simp; omega) | exact AlikeE.o _ (by omega) | exact AlikeE.d _ (by omega) | rfl)
    | exact congrArg (fun x => eCsi m x _ _) h.take
    | fail

set_option maxHeartbeats 1600000 in
theorem al_begin (b : BP) (p : PL) (h : AlikeE b p) : AlikeE (byteE b 27).1 (byteP p 27).1 ∧ (byteE b 27).2 = (byteP p 27).2 := by
  have hk := kind_begin
  rcases h with ⟨u, B, h⟩ | _ | ⟨i⟩ | ⟨i, j⟩ | ⟨i, j⟩ | _ | ⟨m, n, d, k, any, h⟩ | ⟨m, n, d, k, any, i, h⟩ | ⟨m, n, d, k, any, i, j, h⟩ | ⟨m, n, d, k, any, l, h, hl, m', k', any', l'⟩ | ⟨t, h⟩ | ⟨t, h⟩
  all_goals simp [byteE, hk, nx_0_3, dd_0_3, nx_1_3, dd_1_3, nx_2_3, dd_2_3, nx_3_3, dd_3_3, nx_4_3, dd_4_3, nx_5_3, dd_5_3, nx_6_3, dd_6_3, nx_7_3, dd_7_3, nx_8_3, dd_8_3, nx_9_3, dd_9_3, nx_10_3, dd_10_3, nx_11_3, dd_11_3, stepE, flushE, doE, keepE, toE, BP.clear, byteP, escP, csiP, PL.text, PL.ends, PL.more, PL.flushed, pAt, badsU, zh]
  all_goals (repeat' (refine And.intro ?_ ?_))
  all_goals first
    | rfl
    | exact flush_same h
    | exact AlikeE.e0
    | exact AlikeE.e1 _
    | exact AlikeE.e2 _ _
    | exact AlikeE.e3 _ _
    | exact AlikeE.c0
    | exact AlikeE.g _ _ alikeU_z
    | exact AlikeE.g _ _ (byte_alike h _).1
    | exact AlikeE.g _ _ (byte_alike alikeU_z _).1
    | exact congrArg _ (byte_alike h _).2
    | exact congrArg _ (byte_alike alikeU_z _).2
    | exact AlikeE.c1 _ _ _ _ _ h
    | exact AlikeE.c2 _ _ _ _ _ _ h
    | exact AlikeE.c3 _ _ _ _ _ _ _ h
    | exact AlikeE.c1 _ _ _ _ _ none_alike
    | exact AlikeE.c2 _ _ _ _ _ _ none_alike
    | exact AlikeE.c1 _ _ _ _ _ (AlikeN.digit h _)
    | exact AlikeE.c1 _ _ _ _ _ (AlikeN.digit none_alike _)
    | exact AlikeE.c1 _ _ _ _ _ (AlikeN.next h)
    | exact AlikeE.c1 _ _ _ _ _ (AlikeN.next none_alike)
    | exact AlikeE.o _ (by simp)
    | exact AlikeE.d _ (by simp)
    | exact AlikeE.o _ h
    | exact AlikeE.d _ h
    | exact AlikeE.c4 _ _ _ _ _ _ h (by simp) _ _ _ _
    | exact AlikeE.c4 _ _ _ _ _ _ h hl _ _ _ _
    | exact AlikeE.c4 _ _ _ _ _ _ none_alike (by simp) _ _ _ _
    | (split <;> first | exact AlikeE.c4 _ _ _ _ _ _ h hl _ _ _ _ | rfl)
    | (by_cases ht : t.length < 60 <;> simp only [ht, if_true, if_false] <;> first | exact AlikeE.o _ (by simp; omega) | exact AlikeE.d _ (by simp; omega) | exact AlikeE.o _ (by omega) | exact AlikeE.d _ (by omega) | rfl)
    | exact congrArg (fun x => eCsi m x _ _) h.take
    | fail

set_option maxHeartbeats 1600000 in
theorem al_inter (b : BP) (p : PL) (h : AlikeE b p) (c : Nat) (hc : 32 ≤ c ∧ c ≤ 47) : AlikeE (byteE b c).1 (byteP p c).1 ∧ (byteE b c).2 = (byteP p c).2 := by
  have hk := kind_inter c hc
  have t0 : (c = 24) = False := by simp only [eq_iff_iff, iff_true, iff_false]; omega
  have t1 : (c = 26) = False := by simp only [eq_iff_iff, iff_true, iff_false]; omega
  have t2 : (c = 27) = False := by simp only [eq_iff_iff, iff_true, iff_false]; omega
  have t3 : (c < 32) = False := by simp only [eq_iff_iff, iff_true, iff_false]; omega
  have t4 : (c = 7) = False := by simp only [eq_iff_iff, iff_true, iff_false]; omega
  have t5 : (c = 127) = False := by simp only [eq_iff_iff, iff_true, iff_false]; omega
  have t6 : (c < 128) = True := by simp only [eq_iff_iff, iff_true, iff_false]; omega
  have t7 : (c < 48) = True := by simp only [eq_iff_iff, iff_true, iff_false]; omega
  have t8 : (c = 91) = False := by simp only [eq_iff_iff, iff_true, iff_false]; omega
  have t9 : (c = 93) = False := by simp only [eq_iff_iff, iff_true, iff_false]; omega
  have t10 : (c = 80) = False := by simp only [eq_iff_iff, iff_true, iff_false]; omega
  have t11 : (60 ≤ c) = False := by simp only [eq_iff_iff, iff_true, iff_false]; omega
  have t12 : (c ≤ 63) = True := by simp only [eq_iff_iff, iff_true, iff_false]; omega
  have t13 : (c = 58) = False := by simp only [eq_iff_iff, iff_true, iff_false]; omega
  have t14 : (c ≤ 59) = True := by simp only [eq_iff_iff, iff_true, iff_false]; omega
  have t15 : (c ≤ 57) = True := by simp only [eq_iff_iff, iff_true, iff_false]; omega
  have t16 : (c = 59) = False := by simp only [eq_iff_iff, iff_true, iff_false]; omega
  rcases h with ⟨u, B, h⟩ | _ | ⟨i⟩ | ⟨i, j⟩ | ⟨i, j⟩ | _ | ⟨m, n, d, k, any, h⟩ | ⟨m, n, d, k, any, i, h⟩ | ⟨m, n, d, k, any, i, j, h⟩ | ⟨m, n, d, k, any, l, h, hl, m', k', any', l'⟩ | ⟨t, h⟩ | ⟨t, h⟩
  all_goals simp [byteE, hk, nx_0_4, dd_0_4, nx_1_4, dd_1_4, nx_2_4, dd_2_4, nx_3_4, dd_3_4, nx_4_4, dd_4_4, nx_5_4, dd_5_4, nx_6_4, dd_6_4, nx_7_4, dd_7_4, nx_8_4, dd_8_4, nx_9_4, dd_9_4, nx_10_4, dd_10_4, nx_11_4, dd_11_4, stepE, flushE, doE, keepE, toE, BP.clear, byteP, escP, csiP, PL.text, PL.ends, PL.more, PL.flushed, pAt, badsU, zh, t0, t1, t2, t3, t4, t5, t6, t7, t8, t9, t10, t11, t12, t13, t14, t15, t16]
  all_goals (repeat' (refine And.intro ?_ ?_))
  all_goals first
    | rfl
    | exact flush_same h
    | exact AlikeE.e0
    | exact AlikeE.e1 _
    | exact AlikeE.e2 _ _
    | exact AlikeE.e3 _ _
    | exact AlikeE.c0
    | exact AlikeE.g _ _ alikeU_z
    | exact AlikeE.g _ _ (byte_alike h _).1
    | exact AlikeE.g _ _ (byte_alike alikeU_z _).1
    | exact congrArg _ (byte_alike h _).2
    | exact congrArg _ (byte_alike alikeU_z _).2
    | exact AlikeE.c1 _ _ _ _ _ h
    | exact AlikeE.c2 _ _ _ _ _ _ h
    | exact AlikeE.c3 _ _ _ _ _ _ _ h
    | exact AlikeE.c1 _ _ _ _ _ none_alike
    | exact AlikeE.c2 _ _ _ _ _ _ none_alike
    | exact AlikeE.c1 _ _ _ _ _ (AlikeN.digit h _)
    | exact AlikeE.c1 _ _ _ _ _ (AlikeN.digit none_alike _)
    | exact AlikeE.c1 _ _ _ _ _ (AlikeN.next h)
    | exact AlikeE.c1 _ _ _ _ _ (AlikeN.next none_alike)
    | exact AlikeE.o _ (by simp)
    | exact AlikeE.d _ (by simp)
    | exact AlikeE.o _ h
    | exact AlikeE.d _ h
    | exact AlikeE.c4 _ _ _ _ _ _ h (by simp) _ _ _ _
    | exact AlikeE.c4 _ _ _ _ _ _ h hl _ _ _ _
    | exact AlikeE.c4 _ _ _ _ _ _ none_alike (by simp) _ _ _ _
    | (split <;> first | exact AlikeE.c4 _ _ _ _ _ _ h hl _ _ _ _ | rfl)
    | (by_cases ht : t.length < 60 <;> simp only [ht, if_true, if_false] <;> first | exact AlikeE.o _ (by simp; omega) | exact AlikeE.d _ (by simp; omega) | exact AlikeE.o _ (by omega) | exact AlikeE.d _ (by omega) | rfl)
    | exact congrArg (fun x => eCsi m x _ _) h.take
    | fail

set_option maxHeartbeats 1600000 in
theorem al_digit (b : BP) (p : PL) (h : AlikeE b p) (c : Nat) (hc : 48 ≤ c ∧ c ≤ 57) : AlikeE (byteE b c).1 (byteP p c).1 ∧ (byteE b c).2 = (byteP p c).2 := by
  have hk := kind_digit c hc
  have t0 : (c = 24) = False := by simp only [eq_iff_iff, iff_true, iff_false]; omega
  have t1 : (c = 26) = False := by simp only [eq_iff_iff, iff_true, iff_false]; omega
  have t2 : (c = 27) = False := by simp only [eq_iff_iff, iff_true, iff_false]; omega
  have t3 : (c < 32) = False := by simp only [eq_iff_iff, iff_true, iff_false]; omega
  have t4 : (c = 7) = False := by simp only [eq_iff_iff, iff_true, iff_false]; omega
  have t5 : (c = 127) = False := by simp only [eq_iff_iff, iff_true, iff_false]; omega
  have t6 : (c < 128) = True := by simp only [eq_iff_iff, iff_true, iff_false]; omega
  have t7 : (c < 48) = False := by simp only [eq_iff_iff, iff_true, iff_false]; omega
  have t8 : (c = 91) = False := by simp only [eq_iff_iff, iff_true, iff_false]; omega
  have t9 : (c = 93) = False := by simp only [eq_iff_iff, iff_true, iff_false]; omega
  have t10 : (c = 80) = False := by simp only [eq_iff_iff, iff_true, iff_false]; omega
  have t11 : (60 ≤ c) = False := by simp only [eq_iff_iff, iff_true, iff_false]; omega
  have t12 : (c ≤ 63) = True := by simp only [eq_iff_iff, iff_true, iff_false]; omega
  have t13 : (c = 58) = False := by simp only [eq_iff_iff, iff_true, iff_false]; omega
  have t14 : (c ≤ 59) = True := by simp only [eq_iff_iff, iff_true, iff_false]; omega
  have t15 : (c ≤ 57) = True := by simp only [eq_iff_iff, iff_true, iff_false]; omega
  have t16 : (c = 59) = False := by simp only [eq_iff_iff, iff_true, iff_false]; omega
  rcases h with ⟨u, B, h⟩ | _ | ⟨i⟩ | ⟨i, j⟩ | ⟨i, j⟩ | _ | ⟨m, n, d, k, any, h⟩ | ⟨m, n, d, k, any, i, h⟩ | ⟨m, n, d, k, any, i, j, h⟩ | ⟨m, n, d, k, any, l, h, hl, m', k', any', l'⟩ | ⟨t, h⟩ | ⟨t, h⟩
  all_goals simp [byteE, hk, nx_0_5, dd_0_5, nx_1_5, dd_1_5, nx_2_5, dd_2_5, nx_3_5, dd_3_5, nx_4_5, dd_4_5, nx_5_5, dd_5_5, nx_6_5, dd_6_5, nx_7_5, dd_7_5, nx_8_5, dd_8_5, nx_9_5, dd_9_5, nx_10_5, dd_10_5, nx_11_5, dd_11_5, stepE, flushE, doE, keepE, toE, BP.clear, byteP, escP, csiP, PL.text, PL.ends, PL.more, PL.flushed, pAt, badsU, zh, t0, t1, t2, t3, t4, t5, t6, t7, t8, t9, t10, t11, t12, t13, t14, t15, t16]
  all_goals (repeat' (refine And.intro ?_ ?_))
  all_goals first
    | rfl
    | exact flush_same h
    | exact AlikeE.e0
    | exact AlikeE.e1 _
    | exact AlikeE.e2 _ _
    | exact AlikeE.e3 _ _
    | exact AlikeE.c0
    | exact AlikeE.g _ _ alikeU_z
    | exact AlikeE.g _ _ (byte_alike h _).1
    | exact AlikeE.g _ _ (byte_alike alikeU_z _).1
    | exact congrArg _ (byte_alike h _).2
    | exact congrArg _ (byte_alike alikeU_z _).2
    | exact AlikeE.c1 _ _ _ _ _ h
    | exact AlikeE.c2 _ _ _ _ _ _ h
    | exact AlikeE.c3 _ _ _ _ _ _ _ h
    | exact AlikeE.c1 _ _ _ _ _ none_alike
    | exact AlikeE.c2 _ _ _ _ _ _ none_alike
    | exact AlikeE.c1 _ _ _ _ _ (AlikeN.digit h _)
    | exact AlikeE.c1 _ _ _ _ _ (AlikeN.digit none_alike _)
    | exact AlikeE.c1 _ _ _ _ _ (AlikeN.next h)
    | exact AlikeE.c1 _ _ _ _ _ (AlikeN.next none_alike)
    | exact AlikeE.o _ (by simp)
    | exact AlikeE.d _ (by simp)
    | exact AlikeE.o _ h
    | exact AlikeE.d _ h
    | exact AlikeE.c4 _ _ _ _ _ _ h (by simp) _ _ _ _
    | exact AlikeE.c4 _ _ _ _ _ _ h hl _ _ _ _
    | exact AlikeE.c4 _ _ _ _ _ _ none_alike (by simp) _ _ _ _
    | (split <;> first | exact AlikeE.c4 _ _ _ _ _ _ h hl _ _ _ _ | rfl)
    | (by_cases ht : t.length < 60 <;> simp only [ht, if_true, if_false] <;> first | exact AlikeE.o _ (by simp; omega) | exact AlikeE.d _ (by simp; omega) | exact AlikeE.o _ (by omega) | exact AlikeE.d _ (by omega) | rfl)
    | exact congrArg (fun x => eCsi m x _ _) h.take
    | fail

set_option maxHeartbeats 1600000 in
theorem al_colon (b : BP) (p : PL) (h : AlikeE b p) : AlikeE (byteE b 58).1 (byteP p 58).1 ∧ (byteE b 58).2 = (byteP p 58).2 := by
  have hk := kind_colon
  rcases h with ⟨u, B, h⟩ | _ | ⟨i⟩ | ⟨i, j⟩ | ⟨i, j⟩ | _ | ⟨m, n, d, k, any, h⟩ | ⟨m, n, d, k, any, i, h⟩ | ⟨m, n, d, k, any, i, j, h⟩ | ⟨m, n, d, k, any, l, h, hl, m', k', any', l'⟩ | ⟨t, h⟩ | ⟨t, h⟩
  all_goals simp [byteE, hk, nx_0_6, dd_0_6, nx_1_6, dd_1_6, nx_2_6, dd_2_6, nx_3_6, dd_3_6, nx_4_6, dd_4_6, nx_5_6, dd_5_6, nx_6_6, dd_6_6, nx_7_6, dd_7_6, nx_8_6, dd_8_6, nx_9_6, dd_9_6, nx_10_6, dd_10_6, nx_11_6, dd_11_6, stepE, flushE, doE, keepE, toE, BP.clear, byteP, escP, csiP, PL.text, PL.ends, PL.more, PL.flushed, pAt, badsU, zh]
  all_goals (repeat' (refine And.intro ?_ ?_))
  all_goals first
    | rfl
    | exact flush_same h
    | exact AlikeE.e0
    | exact AlikeE.e1 _
    | exact AlikeE.e2 _ _
    | exact AlikeE.e3 _ _
    | exact AlikeE.c0
    | exact AlikeE.g _ _ alikeU_z
    | exact AlikeE.g _ _ (byte_alike h _).1
    | exact AlikeE.g _ _ (byte_alike alikeU_z _).1
    | exact congrArg _ (byte_alike h _).2
    | exact congrArg _ (byte_alike alikeU_z _).2
    | exact AlikeE.c1 _ _ _ _ _ h
    | exact AlikeE.c2 _ _ _ _ _ _ h
    | exact AlikeE.c3 _ _ _ _ _ _ _ h
    | exact AlikeE.c1 _ _ _ _ _ none_alike
    | exact AlikeE.c2 _ _ _ _ _ _ none_alike
    | exact AlikeE.c1 _ _ _ _ _ (AlikeN.digit h _)
    | exact AlikeE.c1 _ _ _ _ _ (AlikeN.digit none_alike _)
    | exact AlikeE.c1 _ _ _ _ _ (AlikeN.next h)
    | exact AlikeE.c1 _ _ _ _ _ (AlikeN.next none_alike)
    | exact AlikeE.o _ (by simp)
    | exact AlikeE.d _ (by simp)
    | exact AlikeE.o _ h
    | exact AlikeE.d _ h
    | exact AlikeE.c4 _ _ _ _ _ _ h (by simp) _ _ _ _
    | exact AlikeE.c4 _ _ _ _ _ _ h hl _ _ _ _
    | exact AlikeE.c4 _ _ _ _ _ _ none_alike (by simp) _ _ _ _
    | (split <;> first | exact AlikeE.c4 _ _ _ _ _ _ h hl _ _ _ _ | rfl)
    | (by_cases ht : t.length < 60 <;> simp only [ht, if_true, if_false] <;> first | exact AlikeE.o _ (by simp; omega) | exact AlikeE.d _ (by simp; omega) | exact AlikeE.o _ (by omega) | exact AlikeE.d _ (by omega) | rfl)
    | exact congrArg (fun x => eCsi m x _ _) h.take
    | fail

set_option maxHeartbeats 1600000 in
theorem al_semi (b : BP) (p : PL) (h : AlikeE b p) : AlikeE (byteE b 59).1 (byteP p 59).1 ∧ (byteE b 59).2 = (byteP p 59).2 := by
  have hk := kind_semi
  rcases h with ⟨u, B, h⟩ | _ | ⟨i⟩ | ⟨i, j⟩ | ⟨i, j⟩ | _ | ⟨m, n, d, k, any, h⟩ | ⟨m, n, d, k, any, i, h⟩ | ⟨m, n, d, k, any, i, j, h⟩ | ⟨m, n, d, k, any, l, h, hl, m', k', any', l'⟩ | ⟨t, h⟩ | ⟨t, h⟩
  all_goals simp [byteE, hk, nx_0_7, dd_0_7, nx_1_7, dd_1_7, nx_2_7, dd_2_7, nx_3_7, dd_3_7, nx_4_7, dd_4_7, nx_5_7, dd_5_7, nx_6_7, dd_6_7, nx_7_7, dd_7_7, nx_8_7, dd_8_7, nx_9_7, dd_9_7, nx_10_7, dd_10_7, nx_11_7, dd_11_7, stepE, flushE, doE, keepE, toE, BP.clear, byteP, escP, csiP, PL.text, PL.ends, PL.more, PL.flushed, pAt, badsU, zh]
  all_goals (repeat' (refine And.intro ?_ ?_))
  all_goals first
    | rfl
    | exact flush_same h
    | exact AlikeE.e0
    | exact AlikeE.e1 _
    | exact AlikeE.e2 _ _
    | exact AlikeE.e3 _ _
    | exact AlikeE.c0
    | exact AlikeE.g _ _ alikeU_z
    | exact AlikeE.g _ _ (byte_alike h _).1
    | exact AlikeE.g _ _ (byte_alike alikeU_z _).1
    | exact congrArg _ (byte_alike h _).2
    | exact congrArg _ (byte_alike alikeU_z _).2
    | exact AlikeE.c1 _ _ _ _ _ h
    | exact AlikeE.c2 _ _ _ _ _ _ h
    | exact AlikeE.c3 _ _ _ _ _ _ _ h
    | exact AlikeE.c1 _ _ _ _ _ none_alike
    | exact AlikeE.c2 _ _ _ _ _ _ none_alike
    | exact AlikeE.c1 _ _ _ _ _ (AlikeN.digit h _)
    | exact AlikeE.c1 _ _ _ _ _ (AlikeN.digit none_alike _)
    | exact AlikeE.c1 _ _ _ _ _ (AlikeN.next h)
    | exact AlikeE.c1 _ _ _ _ _ (AlikeN.next none_alike)
    | exact AlikeE.o _ (by simp)
    | exact AlikeE.d _ (by simp)
    | exact AlikeE.o _ h
    | exact AlikeE.d _ h
    | exact AlikeE.c4 _ _ _ _ _ _ h (by simp) _ _ _ _
    | exact AlikeE.c4 _ _ _ _ _ _ h hl _ _ _ _
    | exact AlikeE.c4 _ _ _ _ _ _ none_alike (by simp) _ _ _ _
    | (split <;> first | exact AlikeE.c4 _ _ _ _ _ _ h hl _ _ _ _ | rfl)
    | (by_cases ht : t.length < 60 <;> simp only [ht, if_true, if_false] <;> first | exact AlikeE.o _ (by simp; omega) | exact AlikeE.d _ (by simp; omega) | exact AlikeE.o _ (by omega) | exact AlikeE.d _ (by omega) | rfl)
    | exact congrArg (fun x => eCsi m x _ _) h.take
    | fail

set_option maxHeartbeats 1600000 in
theorem al_mark (b : BP) (p : PL) (h : AlikeE b p) (c : Nat) (hc : 60 ≤ c ∧ c ≤ 63) : AlikeE (byteE b c).1 (byteP p c).1 ∧ (byteE b c).2 = (byteP p c).2 := by
  have hk := kind_mark c hc
  have t0 : (c = 24) = False := by simp only [eq_iff_iff, iff_true, iff_false]; omega
  have t1 : (c = 26) = False := by simp only [eq_iff_iff, iff_true, iff_false]; omega
  have t2 : (c = 27) = False := by simp only [eq_iff_iff, iff_true, iff_false]; omega
  have t3 : (c < 32) = False := by simp only [eq_iff_iff, iff_true, iff_false]; omega
  have t4 : (c = 7) = False := by simp only [eq_iff_iff, iff_true, iff_false]; omega
  have t5 : (c = 127) = False := by simp only [eq_iff_iff, iff_true, iff_false]; omega
  have t6 : (c < 128) = True := by simp only [eq_iff_iff, iff_true, iff_false]; omega
  have t7 : (c < 48) = False := by simp only [eq_iff_iff, iff_true, iff_false]; omega
  have t8 : (c = 91) = False := by simp only [eq_iff_iff, iff_true, iff_false]; omega
  have t9 : (c = 93) = False := by simp only [eq_iff_iff, iff_true, iff_false]; omega
  have t10 : (c = 80) = False := by simp only [eq_iff_iff, iff_true, iff_false]; omega
  have t11 : (60 ≤ c) = True := by simp only [eq_iff_iff, iff_true, iff_false]; omega
  have t12 : (c ≤ 63) = True := by simp only [eq_iff_iff, iff_true, iff_false]; omega
  have t13 : (c = 58) = False := by simp only [eq_iff_iff, iff_true, iff_false]; omega
  have t14 : (c ≤ 59) = False := by simp only [eq_iff_iff, iff_true, iff_false]; omega
  have t15 : (c ≤ 57) = False := by simp only [eq_iff_iff, iff_true, iff_false]; omega
  have t16 : (c = 59) = False := by simp only [eq_iff_iff, iff_true, iff_false]; omega
  rcases h with ⟨u, B, h⟩ | _ | ⟨i⟩ | ⟨i, j⟩ | ⟨i, j⟩ | _ | ⟨m, n, d, k, any, h⟩ | ⟨m, n, d, k, any, i, h⟩ | ⟨m, n, d, k, any, i, j, h⟩ | ⟨m, n, d, k, any, l, h, hl, m', k', any', l'⟩ | ⟨t, h⟩ | ⟨t, h⟩
  all_goals simp [byteE, hk, nx_0_8, dd_0_8, nx_1_8, dd_1_8, nx_2_8, dd_2_8, nx_3_8, dd_3_8, nx_4_8, dd_4_8, nx_5_8, dd_5_8, nx_6_8, dd_6_8, nx_7_8, dd_7_8, nx_8_8, dd_8_8, nx_9_8, dd_9_8, nx_10_8, dd_10_8, nx_11_8, dd_11_8, stepE, flushE, doE, keepE, toE, BP.clear, byteP, escP, csiP, PL.text, PL.ends, PL.more, PL.flushed, pAt, badsU, zh, t0, t1, t2, t3, t4, t5, t6, t7, t8, t9, t10, t11, t12, t13, t14, t15, t16]
  all_goals (repeat' (refine And.intro ?_ ?_))
  all_goals first
    | rfl
    | exact flush_same h
    | exact AlikeE.e0
    | exact AlikeE.e1 _
    | exact AlikeE.e2 _ _
    | exact AlikeE.e3 _ _
    | exact AlikeE.c0
    | exact AlikeE.g _ _ alikeU_z
    | exact AlikeE.g _ _ (byte_alike h _).1
    | exact AlikeE.g _ _ (byte_alike alikeU_z _).1
    | exact congrArg _ (byte_alike h _).2
    | exact congrArg _ (byte_alike alikeU_z _).2
    | exact AlikeE.c1 _ _ _ _ _ h
    | exact AlikeE.c2 _ _ _ _ _ _ h
    | exact AlikeE.c3 _ _ _ _ _ _ _ h
    | exact AlikeE.c1 _ _ _ _ _ none_alike
    | exact AlikeE.c2 _ _ _ _ _ _ none_alike
    | exact AlikeE.c1 _ _ _ _ _ (AlikeN.digit h _)
    | exact AlikeE.c1 _ _ _ _ _ (AlikeN.digit none_alike _)
    | exact AlikeE.c1 _ _ _ _ _ (AlikeN.next h)
    | exact AlikeE.c1 _ _ _ _ _ (AlikeN.next none_alike)
    | exact AlikeE.o _ (by simp)
    | exact AlikeE.d _ (by simp)
    | exact AlikeE.o _ h
    | exact AlikeE.d _ h
    | exact AlikeE.c4 _ _ _ _ _ _ h (by simp) _ _ _ _
    | exact AlikeE.c4 _ _ _ _ _ _ h hl _ _ _ _
    | exact AlikeE.c4 _ _ _ _ _ _ none_alike (by simp) _ _ _ _
    | (split <;> first | exact AlikeE.c4 _ _ _ _ _ _ h hl _ _ _ _ | rfl)
    | (by_cases ht : t.length < 60 <;> simp only [ht, if_true, if_false] <;> first | exact AlikeE.o _ (by simp; omega) | exact AlikeE.d _ (by simp; omega) | exact AlikeE.o _ (by omega) | exact AlikeE.d _ (by omega) | rfl)
    | exact congrArg (fun x => eCsi m x _ _) h.take
    | fail

set_option maxHeartbeats 1600000 in
theorem al_final (b : BP) (p : PL) (h : AlikeE b p) (c : Nat) (hc : 64 ≤ c ∧ c ≤ 126 ∧ c ≠ 80 ∧ c ≠ 91 ∧ c ≠ 93) : AlikeE (byteE b c).1 (byteP p c).1 ∧ (byteE b c).2 = (byteP p c).2 := by
  have hk := kind_final c hc
  have t0 : (c = 24) = False := by simp only [eq_iff_iff, iff_true, iff_false]; omega
  have t1 : (c = 26) = False := by simp only [eq_iff_iff, iff_true, iff_false]; omega
  have t2 : (c = 27) = False := by simp only [eq_iff_iff, iff_true, iff_false]; omega
  have t3 : (c < 32) = False := by simp only [eq_iff_iff, iff_true, iff_false]; omega
  have t4 : (c = 7) = False := by simp only [eq_iff_iff, iff_true, iff_false]; omega
  have t5 : (c = 127) = False := by simp only [eq_iff_iff, iff_true, iff_false]; omega
  have t6 : (c < 128) = True := by simp only [eq_iff_iff, iff_true, iff_false]; omega
  have t7 : (c < 48) = False := by simp only [eq_iff_iff, iff_true, iff_false]; omega
  have t8 : (c = 91) = False := by simp only [eq_iff_iff, iff_true, iff_false]; omega
  have t9 : (c = 93) = False := by simp only [eq_iff_iff, iff_true, iff_false]; omega
  have t10 : (c = 80) = False := by simp only [eq_iff_iff, iff_true, iff_false]; omega
  have t11 : (60 ≤ c) = True := by simp only [eq_iff_iff, iff_true, iff_false]; omega
  have t12 : (c ≤ 63) = False := by simp only [eq_iff_iff, iff_true, iff_false]; omega
  have t13 : (c = 58) = False := by simp only [eq_iff_iff, iff_true, iff_false]; omega
  have t14 : (c ≤ 59) = False := by simp only [eq_iff_iff, iff_true, iff_false]; omega
  have t15 : (c ≤ 57) = False := by simp only [eq_iff_iff, iff_true, iff_false]; omega
  have t16 : (c = 59) = False := by simp only [eq_iff_iff, iff_true, iff_false]; omega
  rcases h with ⟨u, B, h⟩ | _ | ⟨i⟩ | ⟨i, j⟩ | ⟨i, j⟩ | _ | ⟨m, n, d, k, any, h⟩ | ⟨m, n, d, k, any, i, h⟩ | ⟨m, n, d, k, any, i, j, h⟩ | ⟨m, n, d, k, any, l, h, hl, m', k', any', l'⟩ | ⟨t, h⟩ | ⟨t, h⟩
  all_goals simp [byteE, hk, nx_0_9, dd_0_9, nx_1_9, dd_1_9, nx_2_9, dd_2_9, nx_3_9, dd_3_9, nx_4_9, dd_4_9, nx_5_9, dd_5_9, nx_6_9, dd_6_9, nx_7_9, dd_7_9, nx_8_9, dd_8_9, nx_9_9, dd_9_9, nx_10_9, dd_10_9, nx_11_9, dd_11_9, stepE, flushE, doE, keepE, toE, BP.clear, byteP, escP, csiP, PL.text, PL.ends, PL.more, PL.flushed, pAt, badsU, zh, t0, t1, t2, t3, t4, t5, t6, t7, t8, t9, t10, t11, t12, t13, t14, t15, t16]
  all_goals (repeat' (refine And.intro ?_ ?_))
  all_goals first
    | rfl
    | exact flush_same h
    | exact AlikeE.e0
    | exact AlikeE.e1 _
    | exact AlikeE.e2 _ _
    | exact AlikeE.e3 _ _
    | exact AlikeE.c0
    | exact AlikeE.g _ _ alikeU_z
    | exact AlikeE.g _ _ (byte_alike h _).1
    | exact AlikeE.g _ _ (byte_alike alikeU_z _).1
    | exact congrArg _ (byte_alike h _).2
    | exact congrArg _ (byte_alike alikeU_z _).2
    | exact AlikeE.c1 _ _ _ _ _ h
    | exact AlikeE.c2 _ _ _ _ _ _ h
    | exact AlikeE.c3 _ _ _ _ _ _ _ h
    | exact AlikeE.c1 _ _ _ _ _ none_alike
    | exact AlikeE.c2 _ _ _ _ _ _ none_alike
    | exact AlikeE.c1 _ _ _ _ _ (AlikeN.digit h _)
    | exact AlikeE.c1 _ _ _ _ _ (AlikeN.digit none_alike _)
    | exact AlikeE.c1 _ _ _ _ _ (AlikeN.next h)
    | exact AlikeE.c1 _ _ _ _ _ (AlikeN.next none_alike)
    | exact AlikeE.o _ (by simp)
    | exact AlikeE.d _ (by simp)
    | exact AlikeE.o _ h
    | exact AlikeE.d _ h
    | exact AlikeE.c4 _ _ _ _ _ _ h (by simp) _ _ _ _
    | exact AlikeE.c4 _ _ _ _ _ _ h hl _ _ _ _
    | exact AlikeE.c4 _ _ _ _ _ _ none_alike (by simp) _ _ _ _
    | (split <;> first | exact AlikeE.c4 _ _ _ _ _ _ h hl _ _ _ _ | rfl)
    | (by_cases ht : t.length < 60 <;> simp only [ht, if_true, if_false] <;> first | exact AlikeE.o _ (by simp; omega) | exact AlikeE.d _ (by simp; omega) | exact AlikeE.o _ (by omega) | exact AlikeE.d _ (by omega) | rfl)
    | exact congrArg (fun x => eCsi m x _ _) h.take
    | fail

set_option maxHeartbeats 1600000 in
theorem al_dcs (b : BP) (p : PL) (h : AlikeE b p) : AlikeE (byteE b 80).1 (byteP p 80).1 ∧ (byteE b 80).2 = (byteP p 80).2 := by
  have hk := kind_dcs
  rcases h with ⟨u, B, h⟩ | _ | ⟨i⟩ | ⟨i, j⟩ | ⟨i, j⟩ | _ | ⟨m, n, d, k, any, h⟩ | ⟨m, n, d, k, any, i, h⟩ | ⟨m, n, d, k, any, i, j, h⟩ | ⟨m, n, d, k, any, l, h, hl, m', k', any', l'⟩ | ⟨t, h⟩ | ⟨t, h⟩
  all_goals simp [byteE, hk, nx_0_10, dd_0_10, nx_1_10, dd_1_10, nx_2_10, dd_2_10, nx_3_10, dd_3_10, nx_4_10, dd_4_10, nx_5_10, dd_5_10, nx_6_10, dd_6_10, nx_7_10, dd_7_10, nx_8_10, dd_8_10, nx_9_10, dd_9_10, nx_10_10, dd_10_10, nx_11_10, dd_11_10, stepE, flushE, doE, keepE, toE, BP.clear, byteP, escP, csiP, PL.text, PL.ends, PL.more, PL.flushed, pAt, badsU, zh]
  all_goals (repeat' (refine And.intro ?_ ?_))
  all_goals first
    | rfl
    | exact flush_same h
    | exact AlikeE.e0
    | exact AlikeE.e1 _
    | exact AlikeE.e2 _ _
    | exact AlikeE.e3 _ _
    | exact AlikeE.c0
    | exact AlikeE.g _ _ alikeU_z
    | exact AlikeE.g _ _ (byte_alike h _).1
    | exact AlikeE.g _ _ (byte_alike alikeU_z _).1
    | exact congrArg _ (byte_alike h _).2
    | exact congrArg _ (byte_alike alikeU_z _).2
    | exact AlikeE.c1 _ _ _ _ _ h
    | exact AlikeE.c2 _ _ _ _ _ _ h
    | exact AlikeE.c3 _ _ _ _ _ _ _ h
    | exact AlikeE.c1 _ _ _ _ _ none_alike
    | exact AlikeE.c2 _ _ _ _ _ _ none_alike
    | exact AlikeE.c1 _ _ _ _ _ (AlikeN.digit h _)
    | exact AlikeE.c1 _ _ _ _ _ (AlikeN.digit none_alike _)
    | exact AlikeE.c1 _ _ _ _ _ (AlikeN.next h)
    | exact AlikeE.c1 _ _ _ _ _ (AlikeN.next none_alike)
    | exact AlikeE.o _ (by simp)
    | exact AlikeE.d _ (by simp)
    | exact AlikeE.o _ h
    | exact AlikeE.d _ h
    | exact AlikeE.c4 _ _ _ _ _ _ h (by simp) _ _ _ _
    | exact AlikeE.c4 _ _ _ _ _ _ h hl _ _ _ _
    | exact AlikeE.c4 _ _ _ _ _ _ none_alike (by simp) _ _ _ _
    | (split <;> first | exact AlikeE.c4 _ _ _ _ _ _ h hl _ _ _ _ | rfl)
    | (by_cases ht : t.length < 60 <;> simp only [ht, if_true, if_false] <;> first | exact AlikeE.o _ (by simp; omega) | exact AlikeE.d _ (by simp; omega) | exact AlikeE.o _ (by omega) | exact AlikeE.d _ (by omega) | rfl)
    | exact congrArg (fun x => eCsi m x _ _) h.take
    | fail

set_option maxHeartbeats 1600000 in
theorem al_csi (b : BP) (p : PL) (h : AlikeE b p) : AlikeE (byteE b 91).1 (byteP p 91).1 ∧ (byteE b 91).2 = (byteP p 91).2 := by
  have hk := kind_csi
  rcases h with ⟨u, B, h⟩ | _ | ⟨i⟩ | ⟨i, j⟩ | ⟨i, j⟩ | _ | ⟨m, n, d, k, any, h⟩ | ⟨m, n, d, k, any, i, h⟩ | ⟨m, n, d, k, any, i, j, h⟩ | ⟨m, n, d, k, any, l, h, hl, m', k', any', l'⟩ | ⟨t, h⟩ | ⟨t, h⟩
  all_goals simp [byteE, hk, nx_0_11, dd_0_11, nx_1_11, dd_1_11, nx_2_11, dd_2_11, nx_3_11, dd_3_11, nx_4_11, dd_4_11, nx_5_11, dd_5_11, nx_6_11, dd_6_11, nx_7_11, dd_7_11, nx_8_11, dd_8_11, nx_9_11, dd_9_11, nx_10_11, dd_10_11, nx_11_11, dd_11_11, stepE, flushE, doE, keepE, toE, BP.clear, byteP, escP, csiP, PL.text, PL.ends, PL.more, PL.flushed, pAt, badsU, zh]
  all_goals (repeat' (refine And.intro ?_ ?_))
  all_goals first
    | rfl
    | exact flush_same h
    | exact AlikeE.e0
    | exact AlikeE.e1 _
    | exact AlikeE.e2 _ _
    | exact AlikeE.e3 _ _
    | exact AlikeE.c0
    | exact AlikeE.g _ _ alikeU_z
    | exact AlikeE.g _ _ (byte_alike h _).1
    | exact AlikeE.g _ _ (byte_alike alikeU_z _).1
    | exact congrArg _ (byte_alike h _).2
    | exact congrArg _ (byte_alike alikeU_z _).2
    | exact AlikeE.c1 _ _ _ _ _ h
    | exact AlikeE.c2 _ _ _ _ _ _ h
    | exact AlikeE.c3 _ _ _ _ _ _ _ h
    | exact AlikeE.c1 _ _ _ _ _ none_alike
    | exact AlikeE.c2 _ _ _ _ _ _ none_alike
    | exact AlikeE.c1 _ _ _ _ _ (AlikeN.digit h _)
    | exact AlikeE.c1 _ _ _ _ _ (AlikeN.digit none_alike _)
    | exact AlikeE.c1 _ _ _ _ _ (AlikeN.next h)
    | exact AlikeE.c1 _ _ _ _ _ (AlikeN.next none_alike)
    | exact AlikeE.o _ (by simp)
    | exact AlikeE.d _ (by simp)
    | exact AlikeE.o _ h
    | exact AlikeE.d _ h
    | exact AlikeE.c4 _ _ _ _ _ _ h (by simp) _ _ _ _
    | exact AlikeE.c4 _ _ _ _ _ _ h hl _ _ _ _
    | exact AlikeE.c4 _ _ _ _ _ _ none_alike (by simp) _ _ _ _
    | (split <;> first | exact AlikeE.c4 _ _ _ _ _ _ h hl _ _ _ _ | rfl)
    | (by_cases ht : t.length < 60 <;> simp only [ht, if_true, if_false] <;> first | exact AlikeE.o _ (by simp; omega) | exact AlikeE.d _ (by simp; omega) | exact AlikeE.o _ (by omega) | exact AlikeE.d _ (by omega) | rfl)
    | exact congrArg (fun x => eCsi m x _ _) h.take
    | fail

set_option maxHeartbeats 1600000 in
theorem al_osc (b : BP) (p : PL) (h : AlikeE b p) : AlikeE (byteE b 93).1 (byteP p 93).1 ∧ (byteE b 93).2 = (byteP p 93).2 := by
  have hk := kind_osc
  rcases h with ⟨u, B, h⟩ | _ | ⟨i⟩ | ⟨i, j⟩ | ⟨i, j⟩ | _ | ⟨m, n, d, k, any, h⟩ | ⟨m, n, d, k, any, i, h⟩ | ⟨m, n, d, k, any, i, j, h⟩ | ⟨m, n, d, k, any, l, h, hl, m', k', any', l'⟩ | ⟨t, h⟩ | ⟨t, h⟩
  all_goals simp [byteE, hk, nx_0_12, dd_0_12, nx_1_12, dd_1_12, nx_2_12, dd_2_12, nx_3_12, dd_3_12, nx_4_12, dd_4_12, nx_5_12, dd_5_12, nx_6_12, dd_6_12, nx_7_12, dd_7_12, nx_8_12, dd_8_12, nx_9_12, dd_9_12, nx_10_12, dd_10_12, nx_11_12, dd_11_12, stepE, flushE, doE, keepE, toE, BP.clear, byteP, escP, csiP, PL.text, PL.ends, PL.more, PL.flushed, pAt, badsU, zh]
  all_goals (repeat' (refine And.intro ?_ ?_))
  all_goals first
    | rfl
    | exact flush_same h
    | exact AlikeE.e0
    | exact AlikeE.e1 _
    | exact AlikeE.e2 _ _
    | exact AlikeE.e3 _ _
    | exact AlikeE.c0
    | exact AlikeE.g _ _ alikeU_z
    | exact AlikeE.g _ _ (byte_alike h _).1
    | exact AlikeE.g _ _ (byte_alike alikeU_z _).1
    | exact congrArg _ (byte_alike h _).2
    | exact congrArg _ (byte_alike alikeU_z _).2
    | exact AlikeE.c1 _ _ _ _ _ h
    | exact AlikeE.c2 _ _ _ _ _ _ h
    | exact AlikeE.c3 _ _ _ _ _ _ _ h
    | exact AlikeE.c1 _ _ _ _ _ none_alike
    | exact AlikeE.c2 _ _ _ _ _ _ none_alike
    | exact AlikeE.c1 _ _ _ _ _ (AlikeN.digit h _)
    | exact AlikeE.c1 _ _ _ _ _ (AlikeN.digit none_alike _)
    | exact AlikeE.c1 _ _ _ _ _ (AlikeN.next h)
    | exact AlikeE.c1 _ _ _ _ _ (AlikeN.next none_alike)
    | exact AlikeE.o _ (by simp)
    | exact AlikeE.d _ (by simp)
    | exact AlikeE.o _ h
    | exact AlikeE.d _ h
    | exact AlikeE.c4 _ _ _ _ _ _ h (by simp) _ _ _ _
    | exact AlikeE.c4 _ _ _ _ _ _ h hl _ _ _ _
    | exact AlikeE.c4 _ _ _ _ _ _ none_alike (by simp) _ _ _ _
    | (split <;> first | exact AlikeE.c4 _ _ _ _ _ _ h hl _ _ _ _ | rfl)
    | (by_cases ht : t.length < 60 <;> simp only [ht, if_true, if_false] <;> first | exact AlikeE.o _ (by simp; omega) | exact AlikeE.d _ (by simp; omega) | exact AlikeE.o _ (by omega) | exact AlikeE.d _ (by omega) | rfl)
    | exact congrArg (fun x => eCsi m x _ _) h.take
    | fail

set_option maxHeartbeats 1600000 in
theorem al_del (b : BP) (p : PL) (h : AlikeE b p) : AlikeE (byteE b 127).1 (byteP p 127).1 ∧ (byteE b 127).2 = (byteP p 127).2 := by
  have hk := kind_del
  rcases h with ⟨u, B, h⟩ | _ | ⟨i⟩ | ⟨i, j⟩ | ⟨i, j⟩ | _ | ⟨m, n, d, k, any, h⟩ | ⟨m, n, d, k, any, i, h⟩ | ⟨m, n, d, k, any, i, j, h⟩ | ⟨m, n, d, k, any, l, h, hl, m', k', any', l'⟩ | ⟨t, h⟩ | ⟨t, h⟩
  all_goals simp [byteE, hk, nx_0_13, dd_0_13, nx_1_13, dd_1_13, nx_2_13, dd_2_13, nx_3_13, dd_3_13, nx_4_13, dd_4_13, nx_5_13, dd_5_13, nx_6_13, dd_6_13, nx_7_13, dd_7_13, nx_8_13, dd_8_13, nx_9_13, dd_9_13, nx_10_13, dd_10_13, nx_11_13, dd_11_13, stepE, flushE, doE, keepE, toE, BP.clear, byteP, escP, csiP, PL.text, PL.ends, PL.more, PL.flushed, pAt, badsU, zh]
  all_goals (repeat' (refine And.intro ?_ ?_))
  all_goals first
    | rfl
    | exact flush_same h
    | exact AlikeE.e0
    | exact AlikeE.e1 _
    | exact AlikeE.e2 _ _
    | exact AlikeE.e3 _ _
    | exact AlikeE.c0
    | exact AlikeE.g _ _ alikeU_z
    | exact AlikeE.g _ _ (byte_alike h _).1
    | exact AlikeE.g _ _ (byte_alike alikeU_z _).1
    | exact congrArg _ (byte_alike h _).2
    | exact congrArg _ (byte_alike alikeU_z _).2
    | exact AlikeE.c1 _ _ _ _ _ h
    | exact AlikeE.c2 _ _ _ _ _ _ h
    | exact AlikeE.c3 _ _ _ _ _ _ _ h
    | exact AlikeE.c1 _ _ _ _ _ none_alike
    | exact AlikeE.c2 _ _ _ _ _ _ none_alike
    | exact AlikeE.c1 _ _ _ _ _ (AlikeN.digit h _)
    | exact AlikeE.c1 _ _ _ _ _ (AlikeN.digit none_alike _)
    | exact AlikeE.c1 _ _ _ _ _ (AlikeN.next h)
    | exact AlikeE.c1 _ _ _ _ _ (AlikeN.next none_alike)
    | exact AlikeE.o _ (by simp)
    | exact AlikeE.d _ (by simp)
    | exact AlikeE.o _ h
    | exact AlikeE.d _ h
    | exact AlikeE.c4 _ _ _ _ _ _ h (by simp) _ _ _ _
    | exact AlikeE.c4 _ _ _ _ _ _ h hl _ _ _ _
    | exact AlikeE.c4 _ _ _ _ _ _ none_alike (by simp) _ _ _ _
    | (split <;> first | exact AlikeE.c4 _ _ _ _ _ _ h hl _ _ _ _ | rfl)
    | (by_cases ht : t.length < 60 <;> simp only [ht, if_true, if_false] <;> first | exact AlikeE.o _ (by simp; omega) | exact AlikeE.d _ (by simp; omega) | exact AlikeE.o _ (by omega) | exact AlikeE.d _ (by omega) | rfl)
    | exact congrArg (fun x => eCsi m x _ _) h.take
    | fail

set_option maxHeartbeats 1600000 in
theorem al_high (b : BP) (p : PL) (h : AlikeE b p) (c : Nat) (hc : 128 ≤ c) : AlikeE (byteE b c).1 (byteP p c).1 ∧ (byteE b c).2 = (byteP p c).2 := by
  have hk := kind_high c hc
  have t0 : (c = 24) = False := by simp only [eq_iff_iff, iff_true, iff_false]; omega
  have t1 : (c = 26) = False := by simp only [eq_iff_iff, iff_true, iff_false]; omega
  have t2 : (c = 27) = False := by simp only [eq_iff_iff, iff_true, iff_false]; omega
  have t3 : (c < 32) = False := by simp only [eq_iff_iff, iff_true, iff_false]; omega
  have t4 : (c = 7) = False := by simp only [eq_iff_iff, iff_true, iff_false]; omega
  have t5 : (c = 127) = False := by simp only [eq_iff_iff, iff_true, iff_false]; omega
  have t6 : (c < 128) = False := by simp only [eq_iff_iff, iff_true, iff_false]; omega
  have t7 : (c < 48) = False := by simp only [eq_iff_iff, iff_true, iff_false]; omega
  have t8 : (c = 91) = False := by simp only [eq_iff_iff, iff_true, iff_false]; omega
  have t9 : (c = 93) = False := by simp only [eq_iff_iff, iff_true, iff_false]; omega
  have t10 : (c = 80) = False := by simp only [eq_iff_iff, iff_true, iff_false]; omega
  have t11 : (60 ≤ c) = True := by simp only [eq_iff_iff, iff_true, iff_false]; omega
  have t12 : (c ≤ 63) = False := by simp only [eq_iff_iff, iff_true, iff_false]; omega
  have t13 : (c = 58) = False := by simp only [eq_iff_iff, iff_true, iff_false]; omega
  have t14 : (c ≤ 59) = False := by simp only [eq_iff_iff, iff_true, iff_false]; omega
  have t15 : (c ≤ 57) = False := by simp only [eq_iff_iff, iff_true, iff_false]; omega
  have t16 : (c = 59) = False := by simp only [eq_iff_iff, iff_true, iff_false]; omega
  rcases h with ⟨u, B, h⟩ | _ | ⟨i⟩ | ⟨i, j⟩ | ⟨i, j⟩ | _ | ⟨m, n, d, k, any, h⟩ | ⟨m, n, d, k, any, i, h⟩ | ⟨m, n, d, k, any, i, j, h⟩ | ⟨m, n, d, k, any, l, h, hl, m', k', any', l'⟩ | ⟨t, h⟩ | ⟨t, h⟩
  all_goals simp [byteE, hk, nx_0_14, dd_0_14, nx_1_14, dd_1_14, nx_2_14, dd_2_14, nx_3_14, dd_3_14, nx_4_14, dd_4_14, nx_5_14, dd_5_14, nx_6_14, dd_6_14, nx_7_14, dd_7_14, nx_8_14, dd_8_14, nx_9_14, dd_9_14, nx_10_14, dd_10_14, nx_11_14, dd_11_14, stepE, flushE, doE, keepE, toE, BP.clear, byteP, escP, csiP, PL.text, PL.ends, PL.more, PL.flushed, pAt, badsU, zh, t0, t1, t2, t3, t4, t5, t6, t7, t8, t9, t10, t11, t12, t13, t14, t15, t16]
  all_goals (repeat' (refine And.intro ?_ ?_))
  all_goals first
    | rfl
    | exact flush_same h
    | exact AlikeE.e0
    | exact AlikeE.e1 _
    | exact AlikeE.e2 _ _
    | exact AlikeE.e3 _ _
    | exact AlikeE.c0
    | exact AlikeE.g _ _ alikeU_z
    | exact AlikeE.g _ _ (byte_alike h _).1
    | exact AlikeE.g _ _ (byte_alike alikeU_z _).1
    | exact congrArg _ (byte_alike h _).2
    | exact congrArg _ (byte_alike alikeU_z _).2
    | exact AlikeE.c1 _ _ _ _ _ h
    | exact AlikeE.c2 _ _ _ _ _ _ h
    | exact AlikeE.c3 _ _ _ _ _ _ _ h
    | exact AlikeE.c1 _ _ _ _ _ none_alike
    | exact AlikeE.c2 _ _ _ _ _ _ none_alike
    | exact AlikeE.c1 _ _ _ _ _ (AlikeN.digit h _)
    | exact AlikeE.c1 _ _ _ _ _ (AlikeN.digit none_alike _)
    | exact AlikeE.c1 _ _ _ _ _ (AlikeN.next h)
    | exact AlikeE.c1 _ _ _ _ _ (AlikeN.next none_alike)
    | exact AlikeE.o _ (by simp)
    | exact AlikeE.d _ (by simp)
    | exact AlikeE.o _ h
    | exact AlikeE.d _ h
    | exact AlikeE.c4 _ _ _ _ _ _ h (by simp) _ _ _ _
    | exact AlikeE.c4 _ _ _ _ _ _ h hl _ _ _ _
    | exact AlikeE.c4 _ _ _ _ _ _ none_alike (by simp) _ _ _ _
    | (split <;> first | exact AlikeE.c4 _ _ _ _ _ _ h hl _ _ _ _ | rfl)
    | (by_cases ht : t.length < 60 <;> simp only [ht, if_true, if_false] <;> first | exact AlikeE.o _ (by simp; omega) | exact AlikeE.d _ (by simp; omega) | exact AlikeE.o _ (by omega) | exact AlikeE.d _ (by omega) | rfl)
    | exact congrArg (fun x => eCsi m x _ _) h.take
    | fail

/-- One byte: the same acts, and alike again. -/
theorem byte_alikeE {b : BP} {p : PL} (h : AlikeE b p) (c : Nat) : AlikeE (byteE b c).1 (byteP p c).1 ∧ (byteE b c).2 = (byteP p c).2 := by
  by_cases h1 : c ≤ 31
  · by_cases e1 : c = 7
    · subst e1; exact al_bell b p h
    by_cases e2 : c = 24
    · subst e2; exact al_can b p h
    by_cases e3 : c = 26
    · subst e3; exact al_sub b p h
    by_cases e4 : c = 27
    · subst e4; exact al_begin b p h
    exact al_ctl b p h c ⟨h1, e1, e2, e3, e4⟩
  by_cases h2 : c ≤ 47
  · exact al_inter b p h c ⟨by omega, h2⟩
  by_cases h3 : c ≤ 57
  · exact al_digit b p h c ⟨by omega, h3⟩
  by_cases h4 : c = 58
  · subst h4; exact al_colon b p h
  by_cases h5 : c = 59
  · subst h5; exact al_semi b p h
  by_cases h6 : c ≤ 63
  · exact al_mark b p h c ⟨by omega, h6⟩
  by_cases h7 : c ≤ 126
  · by_cases e1 : c = 80
    · subst e1; exact al_dcs b p h
    by_cases e2 : c = 91
    · subst e2; exact al_csi b p h
    by_cases e3 : c = 93
    · subst e3; exact al_osc b p h
    exact al_final b p h c ⟨by omega, h7, e1, e2, e3⟩
  by_cases h8 : c = 127
  · subst h8; exact al_del b p h
  · exact al_high b p h c (by omega)

theorem feed_alikeE (l : List Nat) : ∀ {b : BP} {p : PL}, AlikeE b p → AlikeE (feedE b l).1 (feedP p l).1 ∧ (feedE b l).2 = (feedP p l).2 := by
  induction l with
  | nil => intro b p h; exact ⟨h, rfl⟩
  | cons c r ih =>
    intro b p h
    obtain ⟨h1, h2⟩ := byte_alikeE h c
    obtain ⟨h3, h4⟩ := ih h1
    exact ⟨h3, by simp only [feedE, feedP]; rw [h2, h4]⟩

theorem AlikeE.z : AlikeE .z (pAt 0) := AlikeE.g _ _ alikeU_z

/-- What holds of every parser of ours. -/
structure BP.Ok (b : BP) : Prop where
  s : b.s ≤ 11
  few : b.inter.length ≤ 2
  nm : b.nums.length = min b.came 8
  tx : b.text.length ≤ 60
theorem AlikeE.ok {b : BP} {p : PL} (h : AlikeE b p) : b.Ok := by
  rcases h with ⟨u, B, h⟩ | _ | ⟨i⟩ | ⟨i, j⟩ | ⟨i, j⟩ | _ | ⟨m, n, d, k, any, h⟩ | ⟨m, n, d, k, any, i, h⟩ | ⟨m, n, d, k, any, i, j, h⟩ | ⟨m, n, d, k, any, l, h, hl, m', k', any', l'⟩ | ⟨t, h⟩ | ⟨t, h⟩
  all_goals (refine ⟨by simp, ?_, ?_, ?_⟩ <;> first | (simp; done) | exact h.len | exact hl | exact h)
def BP.kept (b : BP) : Nat := b.inter.length + b.nums.length + b.text.length + b.u.half

end Go.Proofs.Ythphnjilbpidgaa
