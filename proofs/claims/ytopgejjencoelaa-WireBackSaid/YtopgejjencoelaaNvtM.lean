/- Chapter 8 over lists: a table, a byte, bytes. Own work. -/
import Derived.Test.YtopgejjencoelaaBase
set_option linter.unusedVariables false
set_option linter.unusedSimpArgs false
namespace Go.Proofs.Ytopgejjencoelaa
set_option linter.unusedVariables false
open Go.RowKit

/-- A token. -/
structure Tok where
  kind : Int
  cmd : Int
  opt : Int
  text : List UInt8
deriving DecidableEq

def Tok.cells (t : Tok) : List Value := [.int .i64 t.kind, .int .i64 t.cmd, .int .i64 t.opt, .string ⟨t.text.toArray⟩]
/-- Tokens, cell by cell. -/
def toks (l : List Tok) : List Value := l.flatMap Tok.cells

theorem toks_len (l : List Tok) : (toks l).length = l.length * 4 := by
  induction l with
  | nil => rfl
  | cons t r ih => simp only [toks, List.flatMap_cons, List.length_append] at ih ⊢; rw [ih]; simp [Tok.cells]; omega

theorem toks_add (a b : List Tok) : toks (a ++ b) = toks a ++ toks b := by simp [toks]

theorem toks_one (t : Tok) : toks [t] = t.cells := by simp [toks]

theorem toks_at {l : List Tok} {i : Nat} {t : Tok} (h : l[i]? = some t) (k : Nat) (hk : k < 4) : (toks l)[i * 4 + k]? = t.cells[k]? := by
  induction l generalizing i with
  | nil => simp at h
  | cons x r ih =>
    cases i with
    | zero =>
      simp at h
      subst h
      rw [Nat.zero_mul, Nat.zero_add]
      simp only [toks, List.flatMap_cons]
      rw [List.getElem?_append_left (by simp [Tok.cells]; omega)]
    | succ i =>
      simp at h
      have := ih h
      simp only [toks, List.flatMap_cons] at this ⊢
      rw [List.getElem?_append_right (by simp [Tok.cells]; omega), ← this]
      congr 1
      simp [Tok.cells]
      omega

theorem toks_one_cell (l : List Tok) : ∀ u ∈ toks l, u.oneCell' = true := by
  intro u hu
  obtain ⟨t, _, ht⟩ := List.mem_flatMap.1 hu
  simp [Tok.cells] at ht
  rcases ht with rfl | rfl | rfl | rfl <;> rfl

/-- A byte's kind. -/
def kindL (bin : Bool) (b : UInt8) : Nat :=
  if b = 0 ∧ bin = false then 1 else if b = 13 then 2 else if b = 240 then 3 else if b = 250 then 4 else if 251 ≤ b ∧ b ≤ 254 then 5 else if b = 255 then 6 else 0

theorem kindL_lt (bin : Bool) (b : UInt8) : kindL bin b < 7 := by unfold kindL; repeat' split
                                                                  all_goals omega

/-- What is done in each state with a byte of each kind: the next state, and the act. -/
def tabL : List Nat := [
  0, 1, 0, 1, 1, 1, 0, 1, 0, 1, 0, 1, 2, 0,
  0, 1, 0, 0, 1, 1, 0, 1, 0, 1, 0, 1, 2, 0,
  0, 2, 0, 2, 0, 2, 0, 2, 4, 5, 3, 3, 0, 1,
  0, 4, 0, 4, 0, 4, 0, 4, 0, 4, 0, 4, 0, 4,
  5, 6, 5, 6, 5, 6, 5, 6, 5, 6, 5, 6, 5, 6,
  5, 7, 5, 7, 5, 7, 5, 7, 5, 7, 5, 7, 6, 0,
  0, 2, 0, 2, 0, 2, 0, 8, 4, 5, 3, 3, 5, 7]

def nextL (s k : Nat) : Nat := tabL.getD (s * 14 + k * 2) 0
def actL (s k : Nat) : Nat := tabL.getD (s * 14 + k * 2 + 1) 0

theorem next_lt {s k : Nat} (hs : s < 7) (hk : k < 7) : nextL s k < 7 := by
  have : ∀ s, s < 7 → ∀ k, k < 7 → nextL s k < 7 := by decide
  exact this s hs k hk
theorem act_lt {s k : Nat} (hs : s < 7) (hk : k < 7) : actL s k < 9 := by
  have : ∀ s, s < 7 → ∀ k, k < 7 → actL s k < 9 := by decide
  exact this s hs k hk

/-- What a Reader has. -/
structure Rd where
  at' : Nat
  cmd : Int
  opt : Int
  text : List UInt8
  long : Bool
deriving DecidableEq

def Rd.new : Rd := ⟨0, 0, 0, [], false⟩

/-- What an answer has. -/
structure An where
  told : List Tok
  bytes : List UInt8
deriving DecidableEq

def An.new : An := ⟨[], []⟩
def endA (a : An) : An := ⟨if a.bytes = [] then a.told else a.told ++ [⟨0, 0, 0, a.bytes⟩], []⟩
def dataA (a : An) (b : UInt8) : An := ⟨a.told, a.bytes ++ [b]⟩
def tellA (a : An) (t : Tok) : An := ⟨(endA a).told ++ [t], []⟩

def keepR (r : Rd) (b : UInt8) : Rd := if r.text.length = 40 then ⟨r.at', r.cmd, r.opt, r.text, true⟩ else ⟨r.at', r.cmd, r.opt, r.text ++ [b], r.long⟩
def doR (c : Nat) (b : UInt8) (r : Rd) : Rd :=
  match c with
  | 2 => ⟨r.at', 0, 0, [], false⟩
  | 3 => ⟨r.at', b.toNat, 0, [], false⟩
  | 4 => ⟨r.at', 0, 0, [], false⟩
  | 5 => ⟨r.at', 0, 0, [], false⟩
  | 6 => ⟨r.at', r.cmd, b.toNat, r.text, r.long⟩
  | 7 => keepR r b
  | 8 => ⟨r.at', 0, 0, [], false⟩
  | _ => r
def doA (c : Nat) (b : UInt8) (r : Rd) (a : An) : An :=
  match c with
  | 1 => dataA a b
  | 2 => tellA a ⟨1, b.toNat, 0, []⟩
  | 4 => tellA a ⟨2, r.cmd, b.toNat, []⟩
  | 8 => if r.long = true then a else tellA a ⟨3, 0, r.opt, r.text⟩
  | _ => a

def Rd.goes (r : Rd) (s : Nat) : Rd := ⟨s, r.cmd, r.opt, r.text, r.long⟩

/-- A byte. -/
def takeL (bin : Bool) (x : Rd × An) (b : UInt8) : Rd × An :=
  ((doR (actL x.1.at' (kindL bin b)) b x.1).goes (nextL x.1.at' (kindL bin b)), doA (actL x.1.at' (kindL bin b)) b x.1 x.2)

/-- Bytes. -/
def bytesL (bin : Bool) (x : Rd × An) (s : List UInt8) : Rd × An := s.foldl (takeL bin) x
/-- What a Feed tells, and what is kept. -/
def feedL (bin : Bool) (r : Rd) (s : List UInt8) : List Tok := (endA (bytesL bin (r, An.new) s).2).told
def goL (bin : Bool) (r : Rd) (s : List UInt8) : Rd := (bytesL bin (r, An.new) s).1

/-- What a Reader's parts may be. -/
def Rd.Ok (r : Rd) : Prop := r.at' < 7 ∧ r.text.length ≤ 40

theorem doR_ok {c : Nat} {b : UInt8} {r : Rd} (h : r.Ok) : (doR c b r).Ok := by
  obtain ⟨h1, h2⟩ := h
  unfold doR
  split <;> first | exact ⟨h1, h2⟩ | exact ⟨h1, Nat.zero_le _⟩ | skip
  unfold keepR
  split
  · exact ⟨h1, h2⟩
  · exact ⟨h1, by simp; omega⟩

theorem take_ok {bin : Bool} {x : Rd × An} {b : UInt8} (h : x.1.Ok) : (takeL bin x b).1.Ok := by
  have h2 := doR_ok (c := actL x.1.at' (kindL bin b)) (b := b) h
  exact ⟨next_lt h.1 (kindL_lt _ _), h2.2⟩

theorem bytes_ok {bin : Bool} {s : List UInt8} : ∀ {x : Rd × An}, x.1.Ok → (bytesL bin x s).1.Ok := by
  induction s with
  | nil => intro x h; exact h
  | cons b s ih => intro x h; exact ih (take_ok h)

theorem bytes_add (bin : Bool) (x : Rd × An) (s t : List UInt8) : bytesL bin x (s ++ t) = bytesL bin (bytesL bin x s) t := by simp [bytesL]
theorem bytes_one (bin : Bool) (x : Rd × An) (b : UInt8) : bytesL bin x [b] = takeL bin x b := rfl

/-- What a byte does to the Reader hangs on the Reader alone. -/
theorem take_rd (bin : Bool) (r : Rd) (a a' : An) (b : UInt8) : (takeL bin (r, a) b).1 = (takeL bin (r, a') b).1 := rfl
theorem bytes_rd (bin : Bool) (s : List UInt8) : ∀ (r : Rd) (a a' : An), (bytesL bin (r, a) s).1 = (bytesL bin (r, a') s).1 := by
  induction s with
  | nil => intros; rfl
  | cons b s ih => intro r a a'; exact ih _ _ _

end Go.Proofs.Ytopgejjencoelaa
