/- esc over lists: the document's parser, byte by byte; what its statements ask of it. It speaks of no program. Own work. esc over lists: our parser, byte by byte, beside the document's. It speaks of no program. By program (XEscO.py). Own work. esc.Parser in memory; numbers. Own work. esc: textOf, kindOf, numbers.all. Own work (rgn/XEscK.lean by rgn.py). esc's begun: keep. Own work. Acts in memory: a row of the call's own, whose numbers lie in rows of their own; append; esc.prints. Own work. esc.Parser in memory: do. Own work (rgn/XEscD.lean by rgn.py). -/
import Derived.Test.YtnminmaklbhakaaGreatDoorUtfs
import Derived.Deep.Cut
import Derived.Deep.RegionLaw
set_option linter.unusedVariables false
set_option linter.unusedSimpArgs false
namespace Go.Proofs.YtnminmaklbhakaaGreatDoor
set_option linter.unusedVariables false
set_option linter.unusedSimpArgs false

/-- An act, over lists (kind 1 Print, 2 Control, 3 Escape, 4 Csi, 5 Osc, 6 Dcs). -/
structure EAct where
  kind : Nat
  rune : Nat
  byte : Nat
  mark : Nat
  nums : List Int
  inter : List Nat
  text : List Nat

def ePrint (r : Nat) : EAct := ⟨1, r, 0, 0, [], [], []⟩
def eControl (c : Nat) : EAct := ⟨2, 0, c, 0, [], [], []⟩
def eEscape (i : List Nat) (c : Nat) : EAct := ⟨3, 0, c, 0, [], i, []⟩
def eCsi (m : Nat) (n : List Int) (i : List Nat) (c : Nat) : EAct := ⟨4, 0, c, m, n, i, []⟩
def eText (k : Nat) (t : List Nat) : EAct := ⟨k, 0, 0, 0, [], [], t⟩

/-- A parser: st 0 ground, 1 escape, 2 csi, 3 osc, 4 dcs; u: the bytes of a rune that is half read. -/
structure PL where
  st : Nat
  u : List Nat
  inter : List Nat
  mark : Nat
  nums : List Int
  any : Bool
  first : Bool
  wrong : Bool
  body : List Nat

/-- A state's beginning. -/
def pAt (s : Nat) : PL := ⟨s, [], [], 0, [], false, decide (s = 2), false, []⟩
def PL.text (p : PL) : Prop := p.st = 3 ∨ p.st = 4
instance (p : PL) : Decidable p.text := by unfold PL.text; infer_instance
def PL.ends (p : PL) : EAct := eText (if p.st = 4 then 6 else 5) p.body
def PL.more (p : PL) (c : Nat) : PL := if 2 ≤ p.inter.length then { p with wrong := true } else { p with inter := p.inter ++ [c] }
def PL.flushed (p : PL) : List EAct := if p.u = [] then [] else [ePrint 65533]

def escP (p : PL) (c : Nat) : PL × List EAct :=
  if c < 48 then (p.more c, [])
  else if c = 91 ∧ p.inter = [] then (pAt 2, [])
  else if c = 93 ∧ p.inter = [] then (pAt 3, [])
  else if c = 80 ∧ p.inter = [] then (pAt 4, [])
  else (pAt 0, if p.wrong = true then [] else [eEscape p.inter c])

/-- The last of the numbers, with one more digit. -/
def digitL (l : List Int) (d : Nat) : List Int := l.dropLast ++ [min (max (l.getLastD (-1)) 0 * 10 + (d : Int)) 9999]

def csiP (p : PL) (c : Nat) : PL × List EAct :=
  if c < 48 then ({ p with first := false }.more c, [])
  else if 60 ≤ c ∧ c ≤ 63 ∧ p.first = true then ({ p with first := false, mark := c }, [])
  else if (60 ≤ c ∧ c ≤ 63) ∨ c = 58 ∨ (c ≤ 59 ∧ p.inter ≠ []) then ({ p with first := false, wrong := true }, [])
  else if c ≤ 57 then ({ p with first := false, any := true, nums := digitL (if p.any = true then p.nums else [-1]) (c - 48) }, [])
  else if c = 59 then ({ p with first := false, any := true, nums := (if p.any = true then p.nums else [-1]) ++ (if (if p.any = true then p.nums else [-1]).length ≤ 8 then [-1] else []) }, [])
  else (pAt 0, if p.wrong = true then [] else [eCsi p.mark (p.nums.take 8) p.inter c])

/-- One byte. -/
def byteP (p : PL) (c : Nat) : PL × List EAct :=
  if c = 24 ∨ c = 26 then (pAt 0, if p.st = 0 then p.flushed else [])
  else if c = 27 then (pAt 1, if p.st = 0 then p.flushed else if p.text then [p.ends] else [])
  else if c < 32 then
    if p.text then (if c = 7 ∧ p.st = 3 then (pAt 0, [p.ends]) else (p, []))
    else if p.st = 0 then ({ p with u := [] }, p.flushed ++ [eControl c]) else (p, [eControl c])
  else if c = 127 ∧ ¬ p.text then (if p.st = 0 then ({ p with u := [] }, p.flushed) else (p, []))
  else if p.text then (if p.body.length < 60 then { p with body := p.body ++ [c] } else p, [])
  else if p.st = 1 ∧ c < 128 then escP p c
  else if p.st = 2 ∧ c < 128 then csiP p c
  else if p.st = 0 then ({ p with u := (byteB p.u c).1 }, (byteB p.u c).2.map ePrint)
  else ({ (pAt 0) with u := (byteB [] c).1 }, (byteB [] c).2.map ePrint)

def feedP : PL → List Nat → PL × List EAct
  | p, [] => (p, [])
  | p, c :: r => ((feedP (byteP p c).1 r).1, (byteP p c).2 ++ (feedP (byteP p c).1 r).2)

theorem feedP_add (p : PL) (a b : List Nat) : feedP p (a ++ b) = ((feedP (feedP p a).1 b).1, (feedP p a).2 ++ (feedP (feedP p a).1 b).2) := by
  induction a generalizing p with
  | nil => simp [feedP]
  | cons x r ih => simp [feedP, ih, List.append_assoc]
theorem feedP_one (p : PL) (c : Nat) : feedP p [c] = byteP p c := by simp [feedP]
theorem feedP_cons (p : PL) (c : Nat) (r : List Nat) : feedP p (c :: r) = ((feedP (byteP p c).1 r).1, (byteP p c).2 ++ (feedP (byteP p c).1 r).2) := rfl

/-- What holds of every parser: a rune is half read in ground alone. -/
structure PL.Ok (p : PL) : Prop where
  st : p.st ≤ 4
  u : p.st ≠ 0 → p.u = []
  g : p.st = 0 → p = { (pAt 0) with u := p.u }
  few : p.inter.length ≤ 2
  nm : p.nums.length ≤ 9
  bd : p.body.length ≤ 60
  tx : p.text → p.inter = [] ∧ p.nums = []
  tx' : ¬ p.text → p.body = []
  es : p.st ≠ 2 → p.nums = []

theorem PL.Ok.at' (s : Nat) (hs : s ≤ 4) : (pAt s).Ok :=
  ⟨hs, fun _ => rfl, fun h => by have : s = 0 := h; subst this; rfl, by simp [pAt], by simp [pAt], by simp [pAt], fun _ => ⟨rfl, rfl⟩, fun _ => rfl, fun _ => rfl⟩

/-- Whatever came, 24 gives it up. -/
theorem byteP_24 (p : PL) : (byteP p 24).1 = pAt 0 := by unfold byteP; rw [if_pos (.inl rfl)]
theorem byteP_26 (p : PL) : (byteP p 26).1 = pAt 0 := by unfold byteP; rw [if_pos (.inr rfl)]

/-- Plain text. -/
theorem byteB_low (c : Nat) (h : c < 128) : byteB [] c = ([], [c]) := by
  simp [byteB, mayB, h]
theorem byteP_plain (c : Nat) (h1 : 32 ≤ c) (h2 : c ≤ 126) : byteP (pAt 0) c = (pAt 0, [ePrint c]) := by
  unfold byteP
  rw [if_neg (by omega), if_neg (by omega), if_neg (by omega), if_neg (by simp only [not_and]; intro e; omega), if_neg (by simp [PL.text, pAt]), if_neg (by simp [pAt]), if_neg (by simp [pAt]), if_pos (show (pAt 0).st = 0 from rfl)]
  show ({ (pAt 0) with u := (byteB [] c).1 }, (byteB [] c).2.map ePrint) = _
  rw [byteB_low c (by omega)]
  rfl
theorem feedP_plain (l : List Nat) (h : ∀ c ∈ l, 32 ≤ c ∧ c ≤ 126) : feedP (pAt 0) l = (pAt 0, l.map ePrint) := by
  induction l with
  | nil => rfl
  | cons c r ih =>
    obtain ⟨h1, h2⟩ := h c (by simp)
    rw [feedP_cons, byteP_plain c h1 h2, ih (fun x hx => h x (by simp [hx]))]
    rfl

/-- The bytes of an osc, a dcs. -/
theorem byteP_body (p : PL) (ht : p.text) (c : Nat) (h : 32 ≤ c) : byteP p c = (if p.body.length < 60 then { p with body := p.body ++ [c] } else p, []) := by
  unfold byteP
  rw [if_neg (by omega), if_neg (by omega), if_neg (by omega), if_neg (by intro e; exact e.2 ht), if_pos ht]
theorem feedP_body (l : List Nat) (h : ∀ c ∈ l, 32 ≤ c) : ∀ (p : PL), p.text → p.body.length ≤ 60 → feedP p l = ({ p with body := (p.body ++ l).take 60 }, []) := by
  induction l with
  | nil =>
    intro p ht hp
    rw [List.append_nil, List.take_of_length_le hp]; rfl
  | cons c r ih =>
    intro p ht hp
    rw [feedP_cons, byteP_body p ht c (h c (by simp))]
    have hr := ih (fun x hx => h x (by simp [hx]))
    by_cases hl : p.body.length < 60
    · rw [if_pos hl]
      have := hr { p with body := p.body ++ [c] } ht (by simp; omega)
      rw [this]
      simp
    · rw [if_neg hl]
      have e : p.body.length = 60 := by omega
      rw [hr p ht hp, List.take_append_of_le_length (by omega), List.take_append_of_le_length (by omega)]
      rfl

theorem PL.Ok.more {p : PL} (h : p.Ok) (hs : p.st ≠ 0) (ht : ¬ p.text) (c : Nat) : (p.more c).Ok := by
  unfold PL.more
  split
  · exact ⟨h.st, fun e => h.u e, fun e => absurd e hs, h.few, h.nm, h.bd, fun e => absurd e ht, h.tx', h.es⟩
  · exact ⟨h.st, fun e => h.u e, fun e => absurd e hs, by simp; omega, h.nm, h.bd, fun e => absurd e ht, h.tx', h.es⟩

theorem escP_ok {p : PL} (h : p.Ok) (hs : p.st = 1) (c : Nat) : (escP p c).1.Ok := by
  have ht : ¬ p.text := by unfold PL.text; omega
  unfold escP
  split
  · exact h.more (by omega) ht c
  split
  · exact PL.Ok.at' 2 (by omega)
  split
  · exact PL.Ok.at' 3 (by omega)
  split
  · exact PL.Ok.at' 4 (by omega)
  · exact PL.Ok.at' 0 (by omega)

theorem PL.Ok.nofirst {p : PL} (h : p.Ok) (hs : p.st = 2) : ({ p with first := false } : PL).Ok :=
  ⟨h.st, h.u, fun e => by have : p.st = 0 := e; omega, h.few, h.nm, h.bd, h.tx, h.tx', h.es⟩

theorem csiP_ok {p : PL} (h : p.Ok) (hs : p.st = 2) (c : Nat) : (csiP p c).1.Ok := by
  have ht : ¬ p.text := by unfold PL.text; omega
  have hf := h.nofirst hs
  have hb := h.tx' ht
  unfold csiP
  split
  · exact hf.more (by show p.st ≠ 0; omega) ht c
  split
  · exact ⟨h.st, h.u, fun e => by have : p.st = 0 := e; omega, h.few, h.nm, h.bd, fun e => absurd e ht, h.tx', fun e => absurd hs e⟩
  split
  · exact ⟨h.st, h.u, fun e => by have : p.st = 0 := e; omega, h.few, h.nm, h.bd, fun e => absurd e ht, h.tx', fun e => absurd hs e⟩
  split
  · refine ⟨h.st, h.u, fun e => by have : p.st = 0 := e; omega, h.few, ?_, h.bd, fun e => absurd e ht, h.tx', fun e => absurd hs e⟩
    have := h.nm
    simp only [digitL, List.length_append, List.length_dropLast, List.length_cons, List.length_nil]
    split
    · omega
    · simp
  split
  · refine ⟨h.st, h.u, fun e => by have : p.st = 0 := e; omega, h.few, ?_, h.bd, fun e => absurd e ht, h.tx', fun e => absurd hs e⟩
    have := h.nm
    simp only [List.length_append]
    split
    · split
      · simp; omega
      · simp; omega
    · simp
  · exact PL.Ok.at' 0 (by omega)

theorem PL.Ok.ground {u : List Nat} : ({ (pAt 0) with u := u } : PL).Ok :=
  ⟨by simp [pAt], fun e => absurd rfl e, fun _ => rfl, by simp [pAt], by simp [pAt], by simp [pAt], fun e => by simp [PL.text, pAt] at e, fun _ => rfl, fun _ => rfl⟩

theorem PL.Ok.byte {p : PL} (h : p.Ok) (c : Nat) : (byteP p c).1.Ok := by
  have hg : ∀ u, p.st = 0 → ({ p with u := u } : PL).Ok := fun u e => by
    have := h.g e
    rw [this]; exact PL.Ok.ground
  unfold byteP
  split
  · exact PL.Ok.at' 0 (by omega)
  split
  · exact PL.Ok.at' 1 (by omega)
  split
  · split
    · split
      · exact PL.Ok.at' 0 (by omega)
      · exact h
    · split
      · rename_i e; exact hg _ e
      · exact h
  split
  · split
    · rename_i e; exact hg _ e
    · exact h
  split
  · rename_i ht
    simp only
    split
    · rename_i hl
      refine ⟨h.st, h.u, fun e => ?_, h.few, h.nm, by simp; omega, h.tx, fun e => absurd ht e, h.es⟩
      have : p.st = 0 := e
      unfold PL.text at ht; omega
    · exact h
  split
  · rename_i e; exact escP_ok h e.1 c
  split
  · rename_i e; exact csiP_ok h e.1 c
  split
  · rename_i e; exact hg _ e
  · exact PL.Ok.ground

theorem PL.Ok.feed {p : PL} (h : p.Ok) (l : List Nat) : (feedP p l).1.Ok := by
  induction l generalizing p with
  | nil => exact h
  | cons c r ih => exact ih (h.byte c)

/-- Controls within a sequence are told, and it goes on; 127 is nothing. -/
theorem byteP_control (p : PL) (hs : p.st = 1 ∨ p.st = 2) (c : Nat) (h1 : c < 32) (h2 : c ≠ 24) (h3 : c ≠ 26) (h4 : c ≠ 27) : byteP p c = (p, [eControl c]) := by
  have ht : ¬ p.text := by unfold PL.text; omega
  unfold byteP
  rw [if_neg (by omega), if_neg h4, if_pos h1, if_neg ht, if_neg (by omega)]
theorem byteP_127 (p : PL) (hs : p.st = 1 ∨ p.st = 2) : byteP p 127 = (p, []) := by
  have ht : ¬ p.text := by unfold PL.text; omega
  unfold byteP
  rw [if_neg (by omega), if_neg (by omega), if_neg (by omega), if_pos ⟨rfl, ht⟩, if_neg (by omega)]
theorem byteP_27 (p : PL) : (byteP p 27).1 = pAt 1 := by
  unfold byteP; rw [if_neg (by omega), if_pos rfl]

/-- Digits, in csi. -/
theorem byteP_csi (p : PL) (hs : p.st = 2) (c : Nat) (h1 : 32 ≤ c) (h2 : c ≤ 126) : byteP p c = csiP p c := by
  have ht : ¬ p.text := by unfold PL.text; omega
  unfold byteP
  rw [if_neg (by omega), if_neg (by omega), if_neg (by omega), if_neg (by intro e; omega), if_neg ht, if_neg (by omega), if_pos ⟨hs, by omega⟩]
theorem byteP_esc (p : PL) (hs : p.st = 1) (c : Nat) (h1 : 32 ≤ c) (h2 : c ≤ 126) : byteP p c = escP p c := by
  have ht : ¬ p.text := by unfold PL.text; omega
  unfold byteP
  rw [if_neg (by omega), if_neg (by omega), if_neg (by omega), if_neg (by intro e; omega), if_neg ht, if_pos ⟨hs, by omega⟩]

/-- A number's digits, the greatest first. -/
def decN (n : Nat) : List Nat := if n < 10 then [48 + n] else decN (n / 10) ++ [48 + n % 10]
termination_by n
decreasing_by omega

theorem decN_mem (n : Nat) : ∀ c ∈ decN n, 48 ≤ c ∧ c ≤ 57 := by
  induction n using Nat.strongRecOn with
  | _ n ih =>
    unfold decN
    split
    · intro c hc; simp at hc; omega
    · intro c hc
      rcases List.mem_append.1 hc with e | e
      · exact ih _ (by omega) c e
      · simp at e; omega

/-- The csi that has read a number behind a list of others. -/
theorem csi_number (p : PL) (hs : p.st = 2) (hi : p.inter = []) (l : List Int) (hl : (if p.any = true then p.nums else [-1]) = l ++ [-1]) (n : Nat) :
    feedP p (decN n) = ({ p with first := false, any := true, nums := l ++ [min (n : Int) 9999] }, []) := by
  induction n using Nat.strongRecOn with
  | _ n ih =>
    unfold decN
    split
    · rename_i hn
      rw [feedP_one, byteP_csi p hs _ (by omega) (by omega)]
      unfold csiP
      rw [if_neg (by omega), if_neg (by omega), if_neg (by simp only [hi, ne_eq, not_true_eq_false, and_false, or_false]; omega), if_pos (by omega), hl]
      have e : digitL (l ++ [-1]) (48 + n - 48) = l ++ [min (n : Int) 9999] := by
        unfold digitL
        rw [List.dropLast_concat]
        congr 2
        rw [List.getLastD_eq_getLast?, List.getLast?_append]
        simp
        omega
      rw [e]
    · rename_i hn
      rw [feedP_add, ih (n / 10) (by omega), feedP_one]
      simp only
      rw [byteP_csi { p with first := false, any := true, nums := l ++ [min ((n / 10 : Nat) : Int) 9999] } hs (48 + n % 10) (by omega) (by omega)]
      unfold csiP
      rw [if_neg (by omega), if_neg (by simp), if_neg (by simp only [hi, ne_eq, not_true_eq_false, and_false, or_false]; omega), if_pos (by omega)]
      have e : digitL (l ++ [min ((n / 10 : Nat) : Int) 9999]) (48 + n % 10 - 48) = l ++ [min (n : Int) 9999] := by
        unfold digitL
        rw [List.dropLast_concat]
        congr 2
        rw [List.getLastD_eq_getLast?, List.getLast?_append]
        simp
        omega
      simp only [if_true]
      rw [e]
      rfl

end Go.Proofs.YtnminmaklbhakaaGreatDoor
namespace Go.Proofs.YtnminmaklbhakaaGreatDoor
set_option linter.unusedVariables false
set_option linter.unusedSimpArgs false

/-- What a byte is. -/
def kindL (c : Nat) : Nat :=
  if c ≤ 31 then (if c = 7 then 1 else if c = 24 ∨ c = 26 then 2 else if c = 27 then 3 else 0)
  else if c ≤ 47 then 4 else if c ≤ 57 then 5 else if c = 58 then 6 else if c = 59 then 7 else if c ≤ 63 then 8
  else if c ≤ 126 then (if c = 80 then 10 else if c = 91 then 11 else if c = 93 then 12 else 9)
  else if c = 127 then 13 else 14

/-- The table. -/
def tabE : List Nat := [0, 2, 0, 2, 0, 0, 1, 0, 0, 1, 0, 1, 0, 1, 0, 1, 0, 1, 0, 1, 0, 1, 0, 1, 0, 1, 0, 0, 0, 1, 1, 2, 1, 2, 0, 0, 1, 0, 2, 8, 0, 3, 0, 3, 0, 3, 0, 3, 0, 3, 11, 0, 5, 0, 10, 0, 1, 0, 0, 1, 2, 2, 2, 2, 0, 0, 1, 0, 3, 8, 0, 3, 0, 3, 0, 3, 0, 3, 0, 3, 0, 3, 0, 3, 0, 3, 2, 0, 0, 1, 3, 2, 3, 2, 0, 0, 1, 0, 4, 0, 0, 3, 0, 3, 0, 3, 0, 3, 0, 3, 0, 3, 0, 3, 0, 3, 3, 0, 0, 1, 4, 2, 4, 2, 0, 0, 1, 0, 4, 0, 0, 0, 0, 0, 0, 0, 0, 0, 0, 0, 0, 0, 0, 0, 0, 0, 4, 0, 0, 1, 5, 2, 5, 2, 0, 0, 1, 0, 7, 8, 6, 9, 9, 0, 6, 10, 6, 7, 0, 4, 0, 4, 0, 4, 0, 4, 5, 0, 0, 1, 6, 2, 6, 2, 0, 0, 1, 0, 7, 8, 6, 9, 9, 0, 6, 10, 9, 0, 0, 4, 0, 4, 0, 4, 0, 4, 6, 0, 0, 1, 7, 2, 7, 2, 0, 0, 1, 0, 8, 8, 9, 0, 9, 0, 9, 0, 9, 0, 0, 4, 0, 4, 0, 4, 0, 4, 7, 0, 0, 1, 8, 2, 8, 2, 0, 0, 1, 0, 9, 0, 9, 0, 9, 0, 9, 0, 9, 0, 0, 4, 0, 4, 0, 4, 0, 4, 8, 0, 0, 1, 9, 2, 9, 2, 0, 0, 1, 0, 9, 0, 9, 0, 9, 0, 9, 0, 9, 0, 0, 0, 0, 0, 0, 0, 0, 0, 9, 0, 0, 1, 10, 0, 0, 5, 0, 0, 1, 5, 10, 11, 10, 11, 10, 11, 10, 11, 10, 11, 10, 11, 10, 11, 10, 11, 10, 11, 10, 11, 10, 11, 11, 0, 11, 0, 0, 0, 1, 6, 11, 11, 11, 11, 11, 11, 11, 11, 11, 11, 11, 11, 11, 11, 11, 11, 11, 11, 11, 11, 11, 11]
def nextE (s k : Nat) : Nat := tabE.getD (s * 30 + k * 2) 0
def deedE (s k : Nat) : Nat := tabE.getD (s * 30 + k * 2 + 1) 0

/-- Our parser. -/
structure BP where
  s : Nat
  u : St
  mark : Nat
  inter : List Nat
  nums : List Int
  came : Nat
  text : List Nat

def BP.z : BP := ⟨0, .z, 0, [], [], 0, []⟩
def BP.clear (b : BP) : BP := ⟨b.s, b.u, 0, [], [], 0, []⟩

def addN (n : List Int) (c : Nat) : List Int × Nat := (if c < 8 then n ++ [-1] else n, c + 1)
def beginN (n : List Int) (c : Nat) : List Int × Nat := if c = 0 then addN n c else (n, c)
def nextN (n : List Int) (c : Nat) : List Int × Nat := addN (beginN n c).1 (beginN n c).2
def digitN (n : List Int) (c d : Nat) : List Int × Nat := (if (beginN n c).2 ≤ 8 then digitL (beginN n c).1 d else (beginN n c).1, (beginN n c).2)

def keepE (b : BP) (d c : Nat) : BP :=
  if d = 7 then { b with mark := c }
  else if d = 8 then { b with inter := b.inter ++ [c] }
  else if d = 9 then { b with nums := (digitN b.nums b.came (c - 48)).1, came := (digitN b.nums b.came (c - 48)).2 }
  else if d = 10 then { b with nums := (nextN b.nums b.came).1, came := (nextN b.nums b.came).2 }
  else if d = 11 then (if b.text.length < 60 then { b with text := b.text ++ [c] } else b)
  else b

def doE (b : BP) (d c : Nat) : BP × List EAct :=
  if d = 1 then ({ b with u := (byteU b.u c).1 }, (byteU b.u c).2.map ePrint)
  else if d = 2 then (b, [eControl c])
  else if d = 3 then (b, [eEscape b.inter c])
  else if d = 4 then (b, [eCsi b.mark b.nums b.inter c])
  else if d = 5 then (b, [eText 5 b.text])
  else if d = 6 then (b, [eText 6 b.text])
  else (keepE b d c, [])

def flushE (b : BP) (d : Nat) : BP × List EAct := if d = 1 then (b, []) else ({ b with u := .z }, (badsU b.u).map ePrint)

/-- What is begun goes where nothing may be. -/
def toE (b : BP) (n : Nat) : BP := if n = 0 ∨ n = 1 then { b with s := n }.clear else { b with s := n }

def stepE (b : BP) (n d c : Nat) : BP × List EAct := (toE (doE (flushE b d).1 d c).1 n, (flushE b d).2 ++ (doE (flushE b d).1 d c).2)

/-- One byte. -/
def byteE (b : BP) (c : Nat) : BP × List EAct := stepE b (nextE b.s (kindL c)) (deedE b.s (kindL c)) c

def feedE : BP → List Nat → BP × List EAct
  | b, [] => (b, [])
  | b, c :: r => ((feedE (byteE b c).1 r).1, (byteE b c).2 ++ (feedE (byteE b c).1 r).2)

theorem feedE_add (p : BP) (a b : List Nat) : feedE p (a ++ b) = ((feedE (feedE p a).1 b).1, (feedE p a).2 ++ (feedE (feedE p a).1 b).2) := by
  induction a generalizing p with
  | nil => simp [feedE]
  | cons x r ih => simp [feedE, ih, List.append_assoc]
theorem feedE_snoc (p : BP) (a : List Nat) (c : Nat) : feedE p (a ++ [c]) = ((byteE (feedE p a).1 c).1, (feedE p a).2 ++ (byteE (feedE p a).1 c).2) := by
  rw [feedE_add]; simp [feedE]

/-- Numbers that are alike. -/
def AlikeN (n : List Int) (c : Nat) (m : List Int) (any : Bool) : Prop :=
  (any = false ∧ m = [] ∧ n = [] ∧ c = 0) ∨ (any = true ∧ 0 < c ∧ n = m.take 8 ∧ m.length = min c 9)

theorem AlikeN.begin {n m : List Int} {c : Nat} {any : Bool} (h : AlikeN n c m any) : 0 < (beginN n c).2 ∧ (beginN n c).1 = (if any = true then m else [-1]).take 8 ∧ (if any = true then m else [-1]).length = min (beginN n c).2 9 := by
  rcases h with ⟨rfl, rfl, rfl, rfl⟩ | ⟨rfl, h0, rfl, hl⟩
  · simp [beginN, addN]
  · have : c ≠ 0 := by omega
    simp [beginN, this, hl]; omega
theorem AlikeN.next {n m : List Int} {c : Nat} {any : Bool} (h : AlikeN n c m any) :
    AlikeN (nextN n c).1 (nextN n c).2 ((if any = true then m else [-1]) ++ (if (if any = true then m else [-1]).length ≤ 8 then [-1] else [])) true := by
  obtain ⟨h0, h1, h2⟩ := h.begin
  unfold nextN
  generalize beginN n c = x at *
  generalize (if any = true then m else [-1]) = base at *
  obtain ⟨x1, x2⟩ := x
  simp only at h0 h1 h2 ⊢
  subst h1
  refine .inr ⟨rfl, by simp [addN], ?_, ?_⟩
  · simp only [addN]
    split
    · rw [if_pos (by omega), List.take_of_length_le (l := base) (by omega), List.take_of_length_le (by simp; omega)]
    · rw [List.take_append_of_le_length (by omega)]
  · simp only [addN]
    split
    · simp; omega
    · simp; omega
theorem digitL_len (l : List Int) (d : Nat) (h : 0 < l.length) : (digitL l d).length = l.length := by simp [digitL]; omega
theorem AlikeN.digit {n m : List Int} {c : Nat} {any : Bool} (h : AlikeN n c m any) (d : Nat) :
    AlikeN (digitN n c d).1 (digitN n c d).2 (digitL (if any = true then m else [-1]) d) true := by
  obtain ⟨h0, h1, h2⟩ := h.begin
  unfold digitN
  generalize beginN n c = x at *
  generalize (if any = true then m else [-1]) = base at *
  obtain ⟨x1, x2⟩ := x
  simp only at h0 h1 h2 ⊢
  subst h1
  refine .inr ⟨rfl, h0, ?_, by rw [digitL_len _ _ (by omega), h2]⟩
  split
  · rw [List.take_of_length_le (l := base) (by omega), List.take_of_length_le (by rw [digitL_len _ _ (by omega)]; omega)]
  · unfold digitL
    rw [List.take_append_of_le_length (by simp; omega), List.dropLast_eq_take, List.take_take]
    congr 1; omega

inductive AlikeE : BP → PL → Prop
  | g (u : St) (B : List Nat) (h : AlikeU u B) : AlikeE ⟨0, u, 0, [], [], 0, []⟩ ⟨0, B, [], 0, [], false, false, false, []⟩
  | e0 : AlikeE ⟨1, .z, 0, [], [], 0, []⟩ ⟨1, [], [], 0, [], false, false, false, []⟩
  | e1 (i : Nat) : AlikeE ⟨2, .z, 0, [i], [], 0, []⟩ ⟨1, [], [i], 0, [], false, false, false, []⟩
  | e2 (i j : Nat) : AlikeE ⟨3, .z, 0, [i, j], [], 0, []⟩ ⟨1, [], [i, j], 0, [], false, false, false, []⟩
  | e3 (i j : Nat) : AlikeE ⟨4, .z, 0, [i, j], [], 0, []⟩ ⟨1, [], [i, j], 0, [], false, false, true, []⟩
  | c0 : AlikeE ⟨5, .z, 0, [], [], 0, []⟩ ⟨2, [], [], 0, [], false, true, false, []⟩
  | c1 (m : Nat) (n : List Int) (c : Nat) (k : List Int) (any : Bool) (h : AlikeN n c k any) : AlikeE ⟨6, .z, m, [], n, c, []⟩ ⟨2, [], [], m, k, any, false, false, []⟩
  | c2 (m : Nat) (n : List Int) (c : Nat) (k : List Int) (any : Bool) (i : Nat) (h : AlikeN n c k any) : AlikeE ⟨7, .z, m, [i], n, c, []⟩ ⟨2, [], [i], m, k, any, false, false, []⟩
  | c3 (m : Nat) (n : List Int) (c : Nat) (k : List Int) (any : Bool) (i j : Nat) (h : AlikeN n c k any) : AlikeE ⟨8, .z, m, [i, j], n, c, []⟩ ⟨2, [], [i, j], m, k, any, false, false, []⟩
  | c4 (m : Nat) (n : List Int) (c : Nat) (k : List Int) (any : Bool) (l : List Nat) (h : AlikeN n c k any) (hl : l.length ≤ 2) (m' : Nat) (k' : List Int) (any' : Bool) (l' : List Nat) : AlikeE ⟨9, .z, m, l, n, c, []⟩ ⟨2, [], l', m', k', any', false, true, []⟩
  | o (t : List Nat) (h : t.length ≤ 60) : AlikeE ⟨10, .z, 0, [], [], 0, t⟩ ⟨3, [], [], 0, [], false, false, false, t⟩
  | d (t : List Nat) (h : t.length ≤ 60) : AlikeE ⟨11, .z, 0, [], [], 0, t⟩ ⟨4, [], [], 0, [], false, false, false, t⟩

theorem alikeU_z : AlikeU .z [] := rfl
theorem AlikeN.take {n m : List Int} {c : Nat} {any : Bool} (h : AlikeN n c m any) : n = m.take 8 := by
  rcases h with ⟨_, rfl, rfl, _⟩ | ⟨_, _, h, _⟩
  · rfl
  · exact h
theorem AlikeN.len {n m : List Int} {c : Nat} {any : Bool} (h : AlikeN n c m any) : n.length = min c 8 := by
  rcases h with ⟨_, rfl, rfl, rfl⟩ | ⟨_, _, rfl, hl⟩
  · rfl
  · rw [List.length_take, hl]; omega
theorem zh : St.z.half = 0 := rfl
theorem none_alike : AlikeN [] 0 [] false := .inl ⟨rfl, rfl, rfl, rfl⟩
theorem flush_same {u : St} {B : List Nat} (h : AlikeU u B) : List.map ePrint (if u.half = 0 then [] else [65533]) = if B = [] then [] else [ePrint 65533] := by
  rw [h.half]
  cases B <;> rfl
theorem AlikeU.nil {B : List Nat} (h : AlikeU .z B) : B = [] := by
  have := h.half
  exact List.eq_nil_of_length_eq_zero this.symm

theorem kind_ctl (c : Nat) (h : c ≤ 31 ∧ c ≠ 7 ∧ c ≠ 24 ∧ c ≠ 26 ∧ c ≠ 27) : kindL c = 0 := by
  unfold kindL
  repeat' split
  all_goals omega

theorem kind_bell : kindL 7 = 1 := by decide

theorem kind_can : kindL 24 = 2 := by decide

theorem kind_sub : kindL 26 = 2 := by decide

theorem kind_begin : kindL 27 = 3 := by decide

theorem kind_inter (c : Nat) (h : 32 ≤ c ∧ c ≤ 47) : kindL c = 4 := by
  unfold kindL
  repeat' split
  all_goals omega

theorem kind_digit (c : Nat) (h : 48 ≤ c ∧ c ≤ 57) : kindL c = 5 := by
  unfold kindL
  repeat' split
  all_goals omega

theorem kind_colon : kindL 58 = 6 := by decide

theorem kind_semi : kindL 59 = 7 := by decide

theorem kind_mark (c : Nat) (h : 60 ≤ c ∧ c ≤ 63) : kindL c = 8 := by
  unfold kindL
  repeat' split
  all_goals omega

theorem kind_final (c : Nat) (h : 64 ≤ c ∧ c ≤ 126 ∧ c ≠ 80 ∧ c ≠ 91 ∧ c ≠ 93) : kindL c = 9 := by
  unfold kindL
  repeat' split
  all_goals omega

theorem kind_dcs : kindL 80 = 10 := by decide

theorem kind_csi : kindL 91 = 11 := by decide

theorem kind_osc : kindL 93 = 12 := by decide

theorem kind_del : kindL 127 = 13 := by decide

theorem kind_high (c : Nat) (h : 128 ≤ c) : kindL c = 14 := by
  unfold kindL
  repeat' split
  all_goals omega

/-- The table's entries, one by one. -/
theorem nx_0_0 : nextE 0 0 = 0 := rfl
theorem dd_0_0 : deedE 0 0 = 2 := rfl
theorem nx_0_1 : nextE 0 1 = 0 := rfl
theorem dd_0_1 : deedE 0 1 = 2 := rfl
theorem nx_0_2 : nextE 0 2 = 0 := rfl
theorem dd_0_2 : deedE 0 2 = 0 := rfl
theorem nx_0_3 : nextE 0 3 = 1 := rfl
theorem dd_0_3 : deedE 0 3 = 0 := rfl
theorem nx_0_4 : nextE 0 4 = 0 := rfl
theorem dd_0_4 : deedE 0 4 = 1 := rfl
theorem nx_0_5 : nextE 0 5 = 0 := rfl
theorem dd_0_5 : deedE 0 5 = 1 := rfl
theorem nx_0_6 : nextE 0 6 = 0 := rfl
theorem dd_0_6 : deedE 0 6 = 1 := rfl
theorem nx_0_7 : nextE 0 7 = 0 := rfl
theorem dd_0_7 : deedE 0 7 = 1 := rfl
theorem nx_0_8 : nextE 0 8 = 0 := rfl
theorem dd_0_8 : deedE 0 8 = 1 := rfl
theorem nx_0_9 : nextE 0 9 = 0 := rfl
theorem dd_0_9 : deedE 0 9 = 1 := rfl
theorem nx_0_10 : nextE 0 10 = 0 := rfl
theorem dd_0_10 : deedE 0 10 = 1 := rfl
theorem nx_0_11 : nextE 0 11 = 0 := rfl
theorem dd_0_11 : deedE 0 11 = 1 := rfl
theorem nx_0_12 : nextE 0 12 = 0 := rfl
theorem dd_0_12 : deedE 0 12 = 1 := rfl
theorem nx_0_13 : nextE 0 13 = 0 := rfl
theorem dd_0_13 : deedE 0 13 = 0 := rfl
theorem nx_0_14 : nextE 0 14 = 0 := rfl
theorem dd_0_14 : deedE 0 14 = 1 := rfl
theorem nx_1_0 : nextE 1 0 = 1 := rfl
theorem dd_1_0 : deedE 1 0 = 2 := rfl
theorem nx_1_1 : nextE 1 1 = 1 := rfl
theorem dd_1_1 : deedE 1 1 = 2 := rfl
theorem nx_1_2 : nextE 1 2 = 0 := rfl
theorem dd_1_2 : deedE 1 2 = 0 := rfl
theorem nx_1_3 : nextE 1 3 = 1 := rfl
theorem dd_1_3 : deedE 1 3 = 0 := rfl
theorem nx_1_4 : nextE 1 4 = 2 := rfl
theorem dd_1_4 : deedE 1 4 = 8 := rfl
theorem nx_1_5 : nextE 1 5 = 0 := rfl
theorem dd_1_5 : deedE 1 5 = 3 := rfl
theorem nx_1_6 : nextE 1 6 = 0 := rfl
theorem dd_1_6 : deedE 1 6 = 3 := rfl
theorem nx_1_7 : nextE 1 7 = 0 := rfl
theorem dd_1_7 : deedE 1 7 = 3 := rfl
theorem nx_1_8 : nextE 1 8 = 0 := rfl
theorem dd_1_8 : deedE 1 8 = 3 := rfl
theorem nx_1_9 : nextE 1 9 = 0 := rfl
theorem dd_1_9 : deedE 1 9 = 3 := rfl
theorem nx_1_10 : nextE 1 10 = 11 := rfl
theorem dd_1_10 : deedE 1 10 = 0 := rfl
theorem nx_1_11 : nextE 1 11 = 5 := rfl
theorem dd_1_11 : deedE 1 11 = 0 := rfl
theorem nx_1_12 : nextE 1 12 = 10 := rfl
theorem dd_1_12 : deedE 1 12 = 0 := rfl
theorem nx_1_13 : nextE 1 13 = 1 := rfl
theorem dd_1_13 : deedE 1 13 = 0 := rfl
theorem nx_1_14 : nextE 1 14 = 0 := rfl
theorem dd_1_14 : deedE 1 14 = 1 := rfl
theorem nx_2_0 : nextE 2 0 = 2 := rfl
theorem dd_2_0 : deedE 2 0 = 2 := rfl
theorem nx_2_1 : nextE 2 1 = 2 := rfl
theorem dd_2_1 : deedE 2 1 = 2 := rfl
theorem nx_2_2 : nextE 2 2 = 0 := rfl
theorem dd_2_2 : deedE 2 2 = 0 := rfl
theorem nx_2_3 : nextE 2 3 = 1 := rfl
theorem dd_2_3 : deedE 2 3 = 0 := rfl
theorem nx_2_4 : nextE 2 4 = 3 := rfl
theorem dd_2_4 : deedE 2 4 = 8 := rfl
theorem nx_2_5 : nextE 2 5 = 0 := rfl
theorem dd_2_5 : deedE 2 5 = 3 := rfl
theorem nx_2_6 : nextE 2 6 = 0 := rfl
theorem dd_2_6 : deedE 2 6 = 3 := rfl
theorem nx_2_7 : nextE 2 7 = 0 := rfl
theorem dd_2_7 : deedE 2 7 = 3 := rfl
theorem nx_2_8 : nextE 2 8 = 0 := rfl
theorem dd_2_8 : deedE 2 8 = 3 := rfl
theorem nx_2_9 : nextE 2 9 = 0 := rfl
theorem dd_2_9 : deedE 2 9 = 3 := rfl
theorem nx_2_10 : nextE 2 10 = 0 := rfl
theorem dd_2_10 : deedE 2 10 = 3 := rfl
theorem nx_2_11 : nextE 2 11 = 0 := rfl
theorem dd_2_11 : deedE 2 11 = 3 := rfl
theorem nx_2_12 : nextE 2 12 = 0 := rfl
theorem dd_2_12 : deedE 2 12 = 3 := rfl
theorem nx_2_13 : nextE 2 13 = 2 := rfl
theorem dd_2_13 : deedE 2 13 = 0 := rfl
theorem nx_2_14 : nextE 2 14 = 0 := rfl
theorem dd_2_14 : deedE 2 14 = 1 := rfl
theorem nx_3_0 : nextE 3 0 = 3 := rfl
theorem dd_3_0 : deedE 3 0 = 2 := rfl
theorem nx_3_1 : nextE 3 1 = 3 := rfl
theorem dd_3_1 : deedE 3 1 = 2 := rfl
theorem nx_3_2 : nextE 3 2 = 0 := rfl
theorem dd_3_2 : deedE 3 2 = 0 := rfl
theorem nx_3_3 : nextE 3 3 = 1 := rfl
theorem dd_3_3 : deedE 3 3 = 0 := rfl
theorem nx_3_4 : nextE 3 4 = 4 := rfl
theorem dd_3_4 : deedE 3 4 = 0 := rfl
theorem nx_3_5 : nextE 3 5 = 0 := rfl
theorem dd_3_5 : deedE 3 5 = 3 := rfl
theorem nx_3_6 : nextE 3 6 = 0 := rfl
theorem dd_3_6 : deedE 3 6 = 3 := rfl
theorem nx_3_7 : nextE 3 7 = 0 := rfl
theorem dd_3_7 : deedE 3 7 = 3 := rfl
theorem nx_3_8 : nextE 3 8 = 0 := rfl
theorem dd_3_8 : deedE 3 8 = 3 := rfl
theorem nx_3_9 : nextE 3 9 = 0 := rfl
theorem dd_3_9 : deedE 3 9 = 3 := rfl
theorem nx_3_10 : nextE 3 10 = 0 := rfl
theorem dd_3_10 : deedE 3 10 = 3 := rfl
theorem nx_3_11 : nextE 3 11 = 0 := rfl
theorem dd_3_11 : deedE 3 11 = 3 := rfl
theorem nx_3_12 : nextE 3 12 = 0 := rfl
theorem dd_3_12 : deedE 3 12 = 3 := rfl
theorem nx_3_13 : nextE 3 13 = 3 := rfl
theorem dd_3_13 : deedE 3 13 = 0 := rfl
theorem nx_3_14 : nextE 3 14 = 0 := rfl
theorem dd_3_14 : deedE 3 14 = 1 := rfl
theorem nx_4_0 : nextE 4 0 = 4 := rfl
theorem dd_4_0 : deedE 4 0 = 2 := rfl
theorem nx_4_1 : nextE 4 1 = 4 := rfl
theorem dd_4_1 : deedE 4 1 = 2 := rfl
theorem nx_4_2 : nextE 4 2 = 0 := rfl
theorem dd_4_2 : deedE 4 2 = 0 := rfl
theorem nx_4_3 : nextE 4 3 = 1 := rfl
theorem dd_4_3 : deedE 4 3 = 0 := rfl
theorem nx_4_4 : nextE 4 4 = 4 := rfl
theorem dd_4_4 : deedE 4 4 = 0 := rfl
theorem nx_4_5 : nextE 4 5 = 0 := rfl
theorem dd_4_5 : deedE 4 5 = 0 := rfl
theorem nx_4_6 : nextE 4 6 = 0 := rfl
theorem dd_4_6 : deedE 4 6 = 0 := rfl
theorem nx_4_7 : nextE 4 7 = 0 := rfl
theorem dd_4_7 : deedE 4 7 = 0 := rfl
theorem nx_4_8 : nextE 4 8 = 0 := rfl
theorem dd_4_8 : deedE 4 8 = 0 := rfl
theorem nx_4_9 : nextE 4 9 = 0 := rfl
theorem dd_4_9 : deedE 4 9 = 0 := rfl
theorem nx_4_10 : nextE 4 10 = 0 := rfl
theorem dd_4_10 : deedE 4 10 = 0 := rfl
theorem nx_4_11 : nextE 4 11 = 0 := rfl
theorem dd_4_11 : deedE 4 11 = 0 := rfl
theorem nx_4_12 : nextE 4 12 = 0 := rfl
theorem dd_4_12 : deedE 4 12 = 0 := rfl
theorem nx_4_13 : nextE 4 13 = 4 := rfl
theorem dd_4_13 : deedE 4 13 = 0 := rfl
theorem nx_4_14 : nextE 4 14 = 0 := rfl
theorem dd_4_14 : deedE 4 14 = 1 := rfl
theorem nx_5_0 : nextE 5 0 = 5 := rfl
theorem dd_5_0 : deedE 5 0 = 2 := rfl
theorem nx_5_1 : nextE 5 1 = 5 := rfl
theorem dd_5_1 : deedE 5 1 = 2 := rfl
theorem nx_5_2 : nextE 5 2 = 0 := rfl
theorem dd_5_2 : deedE 5 2 = 0 := rfl
theorem nx_5_3 : nextE 5 3 = 1 := rfl
theorem dd_5_3 : deedE 5 3 = 0 := rfl
theorem nx_5_4 : nextE 5 4 = 7 := rfl
theorem dd_5_4 : deedE 5 4 = 8 := rfl
theorem nx_5_5 : nextE 5 5 = 6 := rfl
theorem dd_5_5 : deedE 5 5 = 9 := rfl
theorem nx_5_6 : nextE 5 6 = 9 := rfl
theorem dd_5_6 : deedE 5 6 = 0 := rfl
theorem nx_5_7 : nextE 5 7 = 6 := rfl
theorem dd_5_7 : deedE 5 7 = 10 := rfl
theorem nx_5_8 : nextE 5 8 = 6 := rfl
theorem dd_5_8 : deedE 5 8 = 7 := rfl
theorem nx_5_9 : nextE 5 9 = 0 := rfl
theorem dd_5_9 : deedE 5 9 = 4 := rfl
theorem nx_5_10 : nextE 5 10 = 0 := rfl
theorem dd_5_10 : deedE 5 10 = 4 := rfl
theorem nx_5_11 : nextE 5 11 = 0 := rfl
theorem dd_5_11 : deedE 5 11 = 4 := rfl
theorem nx_5_12 : nextE 5 12 = 0 := rfl
theorem dd_5_12 : deedE 5 12 = 4 := rfl
theorem nx_5_13 : nextE 5 13 = 5 := rfl
theorem dd_5_13 : deedE 5 13 = 0 := rfl
theorem nx_5_14 : nextE 5 14 = 0 := rfl
theorem dd_5_14 : deedE 5 14 = 1 := rfl
theorem nx_6_0 : nextE 6 0 = 6 := rfl
theorem dd_6_0 : deedE 6 0 = 2 := rfl
theorem nx_6_1 : nextE 6 1 = 6 := rfl
theorem dd_6_1 : deedE 6 1 = 2 := rfl
theorem nx_6_2 : nextE 6 2 = 0 := rfl
theorem dd_6_2 : deedE 6 2 = 0 := rfl
theorem nx_6_3 : nextE 6 3 = 1 := rfl
theorem dd_6_3 : deedE 6 3 = 0 := rfl
theorem nx_6_4 : nextE 6 4 = 7 := rfl
theorem dd_6_4 : deedE 6 4 = 8 := rfl
theorem nx_6_5 : nextE 6 5 = 6 := rfl
theorem dd_6_5 : deedE 6 5 = 9 := rfl
theorem nx_6_6 : nextE 6 6 = 9 := rfl
theorem dd_6_6 : deedE 6 6 = 0 := rfl
theorem nx_6_7 : nextE 6 7 = 6 := rfl
theorem dd_6_7 : deedE 6 7 = 10 := rfl
theorem nx_6_8 : nextE 6 8 = 9 := rfl
theorem dd_6_8 : deedE 6 8 = 0 := rfl
theorem nx_6_9 : nextE 6 9 = 0 := rfl
theorem dd_6_9 : deedE 6 9 = 4 := rfl
theorem nx_6_10 : nextE 6 10 = 0 := rfl
theorem dd_6_10 : deedE 6 10 = 4 := rfl
theorem nx_6_11 : nextE 6 11 = 0 := rfl
theorem dd_6_11 : deedE 6 11 = 4 := rfl
theorem nx_6_12 : nextE 6 12 = 0 := rfl
theorem dd_6_12 : deedE 6 12 = 4 := rfl
theorem nx_6_13 : nextE 6 13 = 6 := rfl
theorem dd_6_13 : deedE 6 13 = 0 := rfl
theorem nx_6_14 : nextE 6 14 = 0 := rfl
theorem dd_6_14 : deedE 6 14 = 1 := rfl
theorem nx_7_0 : nextE 7 0 = 7 := rfl
theorem dd_7_0 : deedE 7 0 = 2 := rfl
theorem nx_7_1 : nextE 7 1 = 7 := rfl
theorem dd_7_1 : deedE 7 1 = 2 := rfl
theorem nx_7_2 : nextE 7 2 = 0 := rfl
theorem dd_7_2 : deedE 7 2 = 0 := rfl
theorem nx_7_3 : nextE 7 3 = 1 := rfl
theorem dd_7_3 : deedE 7 3 = 0 := rfl
theorem nx_7_4 : nextE 7 4 = 8 := rfl
theorem dd_7_4 : deedE 7 4 = 8 := rfl
theorem nx_7_5 : nextE 7 5 = 9 := rfl
theorem dd_7_5 : deedE 7 5 = 0 := rfl
theorem nx_7_6 : nextE 7 6 = 9 := rfl
theorem dd_7_6 : deedE 7 6 = 0 := rfl
theorem nx_7_7 : nextE 7 7 = 9 := rfl
theorem dd_7_7 : deedE 7 7 = 0 := rfl
theorem nx_7_8 : nextE 7 8 = 9 := rfl
theorem dd_7_8 : deedE 7 8 = 0 := rfl
theorem nx_7_9 : nextE 7 9 = 0 := rfl
theorem dd_7_9 : deedE 7 9 = 4 := rfl
theorem nx_7_10 : nextE 7 10 = 0 := rfl
theorem dd_7_10 : deedE 7 10 = 4 := rfl
theorem nx_7_11 : nextE 7 11 = 0 := rfl
theorem dd_7_11 : deedE 7 11 = 4 := rfl
theorem nx_7_12 : nextE 7 12 = 0 := rfl
theorem dd_7_12 : deedE 7 12 = 4 := rfl
theorem nx_7_13 : nextE 7 13 = 7 := rfl
theorem dd_7_13 : deedE 7 13 = 0 := rfl
theorem nx_7_14 : nextE 7 14 = 0 := rfl
theorem dd_7_14 : deedE 7 14 = 1 := rfl
theorem nx_8_0 : nextE 8 0 = 8 := rfl
theorem dd_8_0 : deedE 8 0 = 2 := rfl
theorem nx_8_1 : nextE 8 1 = 8 := rfl
theorem dd_8_1 : deedE 8 1 = 2 := rfl
theorem nx_8_2 : nextE 8 2 = 0 := rfl
theorem dd_8_2 : deedE 8 2 = 0 := rfl
theorem nx_8_3 : nextE 8 3 = 1 := rfl
theorem dd_8_3 : deedE 8 3 = 0 := rfl
theorem nx_8_4 : nextE 8 4 = 9 := rfl
theorem dd_8_4 : deedE 8 4 = 0 := rfl
theorem nx_8_5 : nextE 8 5 = 9 := rfl
theorem dd_8_5 : deedE 8 5 = 0 := rfl
theorem nx_8_6 : nextE 8 6 = 9 := rfl
theorem dd_8_6 : deedE 8 6 = 0 := rfl
theorem nx_8_7 : nextE 8 7 = 9 := rfl
theorem dd_8_7 : deedE 8 7 = 0 := rfl
theorem nx_8_8 : nextE 8 8 = 9 := rfl
theorem dd_8_8 : deedE 8 8 = 0 := rfl
theorem nx_8_9 : nextE 8 9 = 0 := rfl
theorem dd_8_9 : deedE 8 9 = 4 := rfl
theorem nx_8_10 : nextE 8 10 = 0 := rfl
theorem dd_8_10 : deedE 8 10 = 4 := rfl
theorem nx_8_11 : nextE 8 11 = 0 := rfl
theorem dd_8_11 : deedE 8 11 = 4 := rfl
theorem nx_8_12 : nextE 8 12 = 0 := rfl
theorem dd_8_12 : deedE 8 12 = 4 := rfl
theorem nx_8_13 : nextE 8 13 = 8 := rfl
theorem dd_8_13 : deedE 8 13 = 0 := rfl
theorem nx_8_14 : nextE 8 14 = 0 := rfl
theorem dd_8_14 : deedE 8 14 = 1 := rfl
theorem nx_9_0 : nextE 9 0 = 9 := rfl
theorem dd_9_0 : deedE 9 0 = 2 := rfl
theorem nx_9_1 : nextE 9 1 = 9 := rfl
theorem dd_9_1 : deedE 9 1 = 2 := rfl
theorem nx_9_2 : nextE 9 2 = 0 := rfl
theorem dd_9_2 : deedE 9 2 = 0 := rfl
theorem nx_9_3 : nextE 9 3 = 1 := rfl
theorem dd_9_3 : deedE 9 3 = 0 := rfl
theorem nx_9_4 : nextE 9 4 = 9 := rfl
theorem dd_9_4 : deedE 9 4 = 0 := rfl
theorem nx_9_5 : nextE 9 5 = 9 := rfl
theorem dd_9_5 : deedE 9 5 = 0 := rfl
theorem nx_9_6 : nextE 9 6 = 9 := rfl
theorem dd_9_6 : deedE 9 6 = 0 := rfl
theorem nx_9_7 : nextE 9 7 = 9 := rfl
theorem dd_9_7 : deedE 9 7 = 0 := rfl
theorem nx_9_8 : nextE 9 8 = 9 := rfl
theorem dd_9_8 : deedE 9 8 = 0 := rfl
theorem nx_9_9 : nextE 9 9 = 0 := rfl
theorem dd_9_9 : deedE 9 9 = 0 := rfl
theorem nx_9_10 : nextE 9 10 = 0 := rfl
theorem dd_9_10 : deedE 9 10 = 0 := rfl
theorem nx_9_11 : nextE 9 11 = 0 := rfl
theorem dd_9_11 : deedE 9 11 = 0 := rfl
theorem nx_9_12 : nextE 9 12 = 0 := rfl
theorem dd_9_12 : deedE 9 12 = 0 := rfl
theorem nx_9_13 : nextE 9 13 = 9 := rfl
theorem dd_9_13 : deedE 9 13 = 0 := rfl
theorem nx_9_14 : nextE 9 14 = 0 := rfl
theorem dd_9_14 : deedE 9 14 = 1 := rfl
theorem nx_10_0 : nextE 10 0 = 10 := rfl
theorem dd_10_0 : deedE 10 0 = 0 := rfl
theorem nx_10_1 : nextE 10 1 = 0 := rfl
theorem dd_10_1 : deedE 10 1 = 5 := rfl
theorem nx_10_2 : nextE 10 2 = 0 := rfl
theorem dd_10_2 : deedE 10 2 = 0 := rfl
theorem nx_10_3 : nextE 10 3 = 1 := rfl
theorem dd_10_3 : deedE 10 3 = 5 := rfl
theorem nx_10_4 : nextE 10 4 = 10 := rfl
theorem dd_10_4 : deedE 10 4 = 11 := rfl
theorem nx_10_5 : nextE 10 5 = 10 := rfl
theorem dd_10_5 : deedE 10 5 = 11 := rfl
theorem nx_10_6 : nextE 10 6 = 10 := rfl
theorem dd_10_6 : deedE 10 6 = 11 := rfl
theorem nx_10_7 : nextE 10 7 = 10 := rfl
theorem dd_10_7 : deedE 10 7 = 11 := rfl
theorem nx_10_8 : nextE 10 8 = 10 := rfl
theorem dd_10_8 : deedE 10 8 = 11 := rfl
theorem nx_10_9 : nextE 10 9 = 10 := rfl
theorem dd_10_9 : deedE 10 9 = 11 := rfl
theorem nx_10_10 : nextE 10 10 = 10 := rfl
theorem dd_10_10 : deedE 10 10 = 11 := rfl
theorem nx_10_11 : nextE 10 11 = 10 := rfl
theorem dd_10_11 : deedE 10 11 = 11 := rfl
theorem nx_10_12 : nextE 10 12 = 10 := rfl
theorem dd_10_12 : deedE 10 12 = 11 := rfl
theorem nx_10_13 : nextE 10 13 = 10 := rfl
theorem dd_10_13 : deedE 10 13 = 11 := rfl
theorem nx_10_14 : nextE 10 14 = 10 := rfl
theorem dd_10_14 : deedE 10 14 = 11 := rfl
theorem nx_11_0 : nextE 11 0 = 11 := rfl
theorem dd_11_0 : deedE 11 0 = 0 := rfl
theorem nx_11_1 : nextE 11 1 = 11 := rfl
theorem dd_11_1 : deedE 11 1 = 0 := rfl
theorem nx_11_2 : nextE 11 2 = 0 := rfl
theorem dd_11_2 : deedE 11 2 = 0 := rfl
theorem nx_11_3 : nextE 11 3 = 1 := rfl
theorem dd_11_3 : deedE 11 3 = 6 := rfl
theorem nx_11_4 : nextE 11 4 = 11 := rfl
theorem dd_11_4 : deedE 11 4 = 11 := rfl
theorem nx_11_5 : nextE 11 5 = 11 := rfl
theorem dd_11_5 : deedE 11 5 = 11 := rfl
theorem nx_11_6 : nextE 11 6 = 11 := rfl
theorem dd_11_6 : deedE 11 6 = 11 := rfl
theorem nx_11_7 : nextE 11 7 = 11 := rfl
theorem dd_11_7 : deedE 11 7 = 11 := rfl
theorem nx_11_8 : nextE 11 8 = 11 := rfl
theorem dd_11_8 : deedE 11 8 = 11 := rfl
theorem nx_11_9 : nextE 11 9 = 11 := rfl
theorem dd_11_9 : deedE 11 9 = 11 := rfl
theorem nx_11_10 : nextE 11 10 = 11 := rfl
theorem dd_11_10 : deedE 11 10 = 11 := rfl
theorem nx_11_11 : nextE 11 11 = 11 := rfl
theorem dd_11_11 : deedE 11 11 = 11 := rfl
theorem nx_11_12 : nextE 11 12 = 11 := rfl
theorem dd_11_12 : deedE 11 12 = 11 := rfl
theorem nx_11_13 : nextE 11 13 = 11 := rfl
theorem dd_11_13 : deedE 11 13 = 11 := rfl
theorem nx_11_14 : nextE 11 14 = 11 := rfl
theorem dd_11_14 : deedE 11 14 = 11 := rfl

set_option maxHeartbeats 1600000 in
theorem al_ctl (b : BP) (p : PL) (h : AlikeE b p) (c : Nat) (hc : c ≤ 31 ∧ c ≠ 7 ∧ c ≠ 24 ∧ c ≠ 26 ∧ c ≠ 27) : AlikeE (byteE b c).1 (byteP p c).1 ∧ (byteE b c).2 = (byteP p c).2 := by
  have hk := kind_ctl c hc
  have t0 : (c = 24) = False := by simp only [eq_iff_iff, iff_true, iff_false]; omega
  have t1 : (c = 26) = False := by simp only [eq_iff_iff, iff_true, iff_false]; omega
  have t2 : (c = 27) = False := by simp only [eq_iff_iff, iff_true, iff_false]; omega
  have t3 : (c < 32) = True := by simp only [eq_iff_iff, iff_true, iff_false]; omega
  have t4 : (c = 7) = False := by simp only [eq_iff_iff, iff_true, iff_false]; omega
  have t5 : (c = 127) = False := by simp only [eq_iff_iff, iff_true, iff_false]; omega
  have t6 : (c < 128) = True := by simp only [eq_iff_iff, iff_true, iff_false]; omega
  have t7 : (c < 48) = True := by simp only [eq_iff_iff, iff_true, iff_false]; omega
  have t8 : (c = 91) = False := by simp only [eq_iff_iff, iff_true, iff_false]; omega
  have t9 : (c = 93) = False := by simp only [eq_iff_iff, iff_true, iff_false]; omega
  have t10 : (c = 80) = False := by simp only [eq_iff_iff, iff_true, iff_false]; omega
  have t11 : (60 ≤ c) = False := by simp only [eq_iff_iff, iff_true, iff_false]; omega
  have t12 : (c ≤ 63) = True := by simp only [eq_iff_iff, iff_true, iff_false]; omega
  have t13 : (c = 58) = False := by simp only [eq_iff_iff, iff_true, iff_false]; omega
  have t14 : (c ≤ 59) = True := by simp only [eq_iff_iff, iff_true, iff_false]; omega
  have t15 : (c ≤ 57) = True := by simp only [eq_iff_iff, iff_true, iff_false]; omega
  have t16 : (c = 59) = False := by simp only [eq_iff_iff, iff_true, iff_false]; omega
  rcases h with ⟨u, B, h⟩ | _ | ⟨i⟩ | ⟨i, j⟩ | ⟨i, j⟩ | _ | ⟨m, n, d, k, any, h⟩ | ⟨m, n, d, k, any, i, h⟩ | ⟨m, n, d, k, any, i, j, h⟩ | ⟨m, n, d, k, any, l, h, hl, m', k', any', l'⟩ | ⟨t, h⟩ | ⟨t, h⟩
  all_goals simp [byteE, hk, nx_0_0, dd_0_0, nx_1_0, dd_1_0, nx_2_0, dd_2_0, nx_3_0, dd_3_0, nx_4_0, dd_4_0, nx_5_0, dd_5_0, nx_6_0, dd_6_0, nx_7_0, dd_7_0, nx_8_0, dd_8_0, nx_9_0, dd_9_0, nx_10_0, dd_10_0, nx_11_0, dd_11_0, stepE, flushE, doE, keepE, toE, BP.clear, byteP, escP, csiP, PL.text, PL.ends, PL.more, PL.flushed, pAt, badsU, zh, t0, t1, t2, t3, t4, t5, t6, t7, t8, t9, t10, t11, t12, t13, t14, t15, t16]
  all_goals (repeat' (refine And.intro ?_ ?_))
  all_goals first
    | rfl
    | exact flush_same h
    | exact AlikeE.e0
    | exact AlikeE.e1 _
    | exact AlikeE.e2 _ _
    | exact AlikeE.e3 _ _
    | exact AlikeE.c0
    | exact AlikeE.g _ _ alikeU_z
    | exact AlikeE.g _ _ (byte_alike h _).1
    | exact AlikeE.g _ _ (byte_alike alikeU_z _).1
    | exact congrArg _ (byte_alike h _).2
    | exact congrArg _ (byte_alike alikeU_z _).2
    | exact AlikeE.c1 _ _ _ _ _ h
    | exact AlikeE.c2 _ _ _ _ _ _ h
    | exact AlikeE.c3 _ _ _ _ _ _ _ h
    | exact AlikeE.c1 _ _ _ _ _ none_alike
    | exact AlikeE.c2 _ _ _ _ _ _ none_alike
    | exact AlikeE.c1 _ _ _ _ _ (AlikeN.digit h _)
    | exact AlikeE.c1 _ _ _ _ _ (AlikeN.digit none_alike _)
    | exact AlikeE.c1 _ _ _ _ _ (AlikeN.next h)
    | exact AlikeE.c1 _ _ _ _ _ (AlikeN.next none_alike)
    | exact AlikeE.o _ (by simp)
    | exact AlikeE.d _ (by simp)
    | exact AlikeE.o _ h
    | exact AlikeE.d _ h
    | exact AlikeE.c4 _ _ _ _ _ _ h (by simp) _ _ _ _
    | exact AlikeE.c4 _ _ _ _ _ _ h hl _ _ _ _
    | exact AlikeE.c4 _ _ _ _ _ _ none_alike (by simp) _ _ _ _
    | (split <;> first | exact AlikeE.c4 _ _ _ _ _ _ h hl _ _ _ _ | rfl)
    | (by_cases ht : t.length < 60 <;> simp only [ht, if_true, if_false] <;> first | exact AlikeE.o _ (by simp; omega) | exact AlikeE.d _ (by simp; omega) | exact AlikeE.o _ (by omega) | exact AlikeE.d _ (by omega) | rfl)
    | exact congrArg (fun x => eCsi m x _ _) h.take
    | fail

set_option maxHeartbeats 1600000 in
theorem al_bell (b : BP) (p : PL) (h : AlikeE b p) : AlikeE (byteE b 7).1 (byteP p 7).1 ∧ (byteE b 7).2 = (byteP p 7).2 := by
  have hk := kind_bell
  rcases h with ⟨u, B, h⟩ | _ | ⟨i⟩ | ⟨i, j⟩ | ⟨i, j⟩ | _ | ⟨m, n, d, k, any, h⟩ | ⟨m, n, d, k, any, i, h⟩ | ⟨m, n, d, k, any, i, j, h⟩ | ⟨m, n, d, k, any, l, h, hl, m', k', any', l'⟩ | ⟨t, h⟩ | ⟨t, h⟩
  all_goals simp [byteE, hk, nx_0_1, dd_0_1, nx_1_1, dd_1_1, nx_2_1, dd_2_1, nx_3_1, dd_3_1, nx_4_1, dd_4_1, nx_5_1, dd_5_1, nx_6_1, dd_6_1, nx_7_1, dd_7_1, nx_8_1, dd_8_1, nx_9_1, dd_9_1, nx_10_1, dd_10_1, nx_11_1, dd_11_1, stepE, flushE, doE, keepE, toE, BP.clear, byteP, escP, csiP, PL.text, PL.ends, PL.more, PL.flushed, pAt, badsU, zh]
  all_goals (repeat' (refine And.intro ?_ ?_))
  all_goals first
    | rfl
    | exact flush_same h
    | exact AlikeE.e0
    | exact AlikeE.e1 _
    | exact AlikeE.e2 _ _
    | exact AlikeE.e3 _ _
    | exact AlikeE.c0
    | exact AlikeE.g _ _ alikeU_z
    | exact AlikeE.g _ _ (byte_alike h _).1
    | exact AlikeE.g _ _ (byte_alike alikeU_z _).1
    | exact congrArg _ (byte_alike h _).2
    | exact congrArg _ (byte_alike alikeU_z _).2
    | exact AlikeE.c1 _ _ _ _ _ h
    | exact AlikeE.c2 _ _ _ _ _ _ h
    | exact AlikeE.c3 _ _ _ _ _ _ _ h
    | exact AlikeE.c1 _ _ _ _ _ none_alike
    | exact AlikeE.c2 _ _ _ _ _ _ none_alike
    | exact AlikeE.c1 _ _ _ _ _ (AlikeN.digit h _)
    | exact AlikeE.c1 _ _ _ _ _ (AlikeN.digit none_alike _)
    | exact AlikeE.c1 _ _ _ _ _ (AlikeN.next h)
    | exact AlikeE.c1 _ _ _ _ _ (AlikeN.next none_alike)
    | exact AlikeE.o _ (by simp)
    | exact AlikeE.d _ (by simp)
    | exact AlikeE.o _ h
    | exact AlikeE.d _ h
    | exact AlikeE.c4 _ _ _ _ _ _ h (by simp) _ _ _ _
    | exact AlikeE.c4 _ _ _ _ _ _ h hl _ _ _ _
    | exact AlikeE.c4 _ _ _ _ _ _ none_alike (by simp) _ _ _ _
    | (split <;> first | exact AlikeE.c4 _ _ _ _ _ _ h hl _ _ _ _ | rfl)
    | (by_cases ht : t.length < 60 <;> simp only [ht, if_true, if_false] <;> first | exact AlikeE.o _ (by simp; omega) | exact AlikeE.d _ (by simp; omega) | exact AlikeE.o _ (by omega) | exact AlikeE.d _ (by omega) | rfl)
    | exact congrArg (fun x => eCsi m x _ _) h.take
    | fail

set_option maxHeartbeats 1600000 in
theorem al_can (b : BP) (p : PL) (h : AlikeE b p) : AlikeE (byteE b 24).1 (byteP p 24).1 ∧ (byteE b 24).2 = (byteP p 24).2 := by
  have hk := kind_can
  rcases h with ⟨u, B, h⟩ | _ | ⟨i⟩ | ⟨i, j⟩ | ⟨i, j⟩ | _ | ⟨m, n, d, k, any, h⟩ | ⟨m, n, d, k, any, i, h⟩ | ⟨m, n, d, k, any, i, j, h⟩ | ⟨m, n, d, k, any, l, h, hl, m', k', any', l'⟩ | ⟨t, h⟩ | ⟨t, h⟩
  all_goals simp [byteE, hk, nx_0_2, dd_0_2, nx_1_2, dd_1_2, nx_2_2, dd_2_2, nx_3_2, dd_3_2, nx_4_2, dd_4_2, nx_5_2, dd_5_2, nx_6_2, dd_6_2, nx_7_2, dd_7_2, nx_8_2, dd_8_2, nx_9_2, dd_9_2, nx_10_2, dd_10_2, nx_11_2, dd_11_2, stepE, flushE, doE, keepE, toE, BP.clear, byteP, escP, csiP, PL.text, PL.ends, PL.more, PL.flushed, pAt, badsU, zh]
  all_goals (repeat' (refine And.intro ?_ ?_))
  all_goals first
    | rfl
    | exact flush_same h
    | exact AlikeE.e0
    | exact AlikeE.e1 _
    | exact AlikeE.e2 _ _
    | exact AlikeE.e3 _ _
    | exact AlikeE.c0
    | exact AlikeE.g _ _ alikeU_z
    | exact AlikeE.g _ _ (byte_alike h _).1
    | exact AlikeE.g _ _ (byte_alike alikeU_z _).1
    | exact congrArg _ (byte_alike h _).2
    | exact congrArg _ (byte_alike alikeU_z _).2
    | exact AlikeE.c1 _ _ _ _ _ h
    | exact AlikeE.c2 _ _ _ _ _ _ h
    | exact AlikeE.c3 _ _ _ _ _ _ _ h
    | exact AlikeE.c1 _ _ _ _ _ none_alike
    | exact AlikeE.c2 _ _ _ _ _ _ none_alike
    | exact AlikeE.c1 _ _ _ _ _ (AlikeN.digit h _)
    | exact AlikeE.c1 _ _ _ _ _ (AlikeN.digit none_alike _)
    | exact AlikeE.c1 _ _ _ _ _ (AlikeN.next h)
    | exact AlikeE.c1 _ _ _ _ _ (AlikeN.next none_alike)
    | exact AlikeE.o _ (by simp)
    | exact AlikeE.d _ (by simp)
    | exact AlikeE.o _ h
    | exact AlikeE.d _ h
    | exact AlikeE.c4 _ _ _ _ _ _ h (by simp) _ _ _ _
    | exact AlikeE.c4 _ _ _ _ _ _ h hl _ _ _ _
    | exact AlikeE.c4 _ _ _ _ _ _ none_alike (by simp) _ _ _ _
    | (split <;> first | exact AlikeE.c4 _ _ _ _ _ _ h hl _ _ _ _ | rfl)
    | (by_cases ht : t.length < 60 <;> simp only [ht, if_true, if_false] <;> first | exact AlikeE.o _ (by simp; omega) | exact AlikeE.d _ (by simp; omega) | exact AlikeE.o _ (by omega) | exact AlikeE.d _ (by omega) | rfl)
    | exact congrArg (fun x => eCsi m x _ _) h.take
    | fail

set_option maxHeartbeats 1600000 in
theorem al_sub (b : BP) (p : PL) (h : AlikeE b p) : AlikeE (byteE b 26).1 (byteP p 26).1 ∧ (byteE b 26).2 = (byteP p 26).2 := by
  have hk := kind_sub
  rcases h with ⟨u, B, h⟩ | _ | ⟨i⟩ | ⟨i, j⟩ | ⟨i, j⟩ | _ | ⟨m, n, d, k, any, h⟩ | ⟨m, n, d, k, any, i, h⟩ | ⟨m, n, d, k, any, i, j, h⟩ | ⟨m, n, d, k, any, l, h, hl, m', k', any', l'⟩ | ⟨t, h⟩ | ⟨t, h⟩
  all_goals simp [byteE, hk, nx_0_2, dd_0_2, nx_1_2, dd_1_2, nx_2_2, dd_2_2, nx_3_2, dd_3_2, nx_4_2, dd_4_2, nx_5_2, dd_5_2, nx_6_2, dd_6_2, nx_7_2, dd_7_2, nx_8_2, dd_8_2, nx_9_2, dd_9_2, nx_10_2, dd_10_2, nx_11_2, dd_11_2, stepE, flushE, doE, keepE, toE, BP.clear, byteP, escP, csiP, PL.text, PL.ends, PL.more, PL.flushed, pAt, badsU, zh]
  all_goals (repeat' (refine And.intro ?_ ?_))
  all_goals first
    | rfl
    | exact flush_same h
    | exact AlikeE.e0
    | exact AlikeE.e1 _
    | exact AlikeE.e2 _ _
    | exact AlikeE.e3 _ _
    | exact AlikeE.c0
    | exact AlikeE.g _ _ alikeU_z
    | exact AlikeE.g _ _ (byte_alike h _).1
    | exact AlikeE.g _ _ (byte_alike alikeU_z _).1
    | exact congrArg _ (byte_alike h _).2
    | exact congrArg _ (byte_alike alikeU_z _).2
    | exact AlikeE.c1 _ _ _ _ _ h
    | exact AlikeE.c2 _ _ _ _ _ _ h
    | exact AlikeE.c3 _ _ _ _ _ _ _ h
    | exact AlikeE.c1 _ _ _ _ _ none_alike
    | exact AlikeE.c2 _ _ _ _ _ _ none_alike
    | exact AlikeE.c1 _ _ _ _ _ (AlikeN.digit h _)
    | exact AlikeE.c1 _ _ _ _ _ (AlikeN.digit none_alike _)
    | exact AlikeE.c1 _ _ _ _ _ (AlikeN.next h)
    | exact AlikeE.c1 _ _ _ _ _ (AlikeN.next none_alike)
    | exact AlikeE.o _ (by simp)
    | exact AlikeE.d _ (by simp)
    | exact AlikeE.o _ h
    | exact AlikeE.d _ h
    | exact AlikeE.c4 _ _ _ _ _ _ h (by simp) _ _ _ _
    | exact AlikeE.c4 _ _ _ _ _ _ h hl _ _ _ _
    | exact AlikeE.c4 _ _ _ _ _ _ none_alike (by simp) _ _ _ _
    | (split <;> first | exact AlikeE.c4 _ _ _ _ _ _ h hl _ _ _ _ | rfl)
    | (by_cases ht : t.length < 60 <;> simp only [ht, if_true, if_false] <;> first | exact AlikeE.o _ (by simp; omega) | exact AlikeE.d _ (by simp; omega) | exact AlikeE.o _ (by omega) | exact AlikeE.d _ (by omega) | rfl)
    | exact congrArg (fun x => eCsi m x _ _) h.take
    | fail

set_option maxHeartbeats 1600000 in
theorem al_begin (b : BP) (p : PL) (h : AlikeE b p) : AlikeE (byteE b 27).1 (byteP p 27).1 ∧ (byteE b 27).2 = (byteP p 27).2 := by
  have hk := kind_begin
  rcases h with ⟨u, B, h⟩ | _ | ⟨i⟩ | ⟨i, j⟩ | ⟨i, j⟩ | _ | ⟨m, n, d, k, any, h⟩ | ⟨m, n, d, k, any, i, h⟩ | ⟨m, n, d, k, any, i, j, h⟩ | ⟨m, n, d, k, any, l, h, hl, m', k', any', l'⟩ | ⟨t, h⟩ | ⟨t, h⟩
  all_goals simp [byteE, hk, nx_0_3, dd_0_3, nx_1_3, dd_1_3, nx_2_3, dd_2_3, nx_3_3, dd_3_3, nx_4_3, dd_4_3, nx_5_3, dd_5_3, nx_6_3, dd_6_3, nx_7_3, dd_7_3, nx_8_3, dd_8_3, nx_9_3, dd_9_3, nx_10_3, dd_10_3, nx_11_3, dd_11_3, stepE, flushE, doE, keepE, toE, BP.clear, byteP, escP, csiP, PL.text, PL.ends, PL.more, PL.flushed, pAt, badsU, zh]
  all_goals (repeat' (refine And.intro ?_ ?_))
  all_goals first
    | rfl
    | exact flush_same h
    | exact AlikeE.e0
    | exact AlikeE.e1 _
    | exact AlikeE.e2 _ _
    | exact AlikeE.e3 _ _
    | exact AlikeE.c0
    | exact AlikeE.g _ _ alikeU_z
    | exact AlikeE.g _ _ (byte_alike h _).1
    | exact AlikeE.g _ _ (byte_alike alikeU_z _).1
    | exact congrArg _ (byte_alike h _).2
    | exact congrArg _ (byte_alike alikeU_z _).2
    | exact AlikeE.c1 _ _ _ _ _ h
    | exact AlikeE.c2 _ _ _ _ _ _ h
    | exact AlikeE.c3 _ _ _ _ _ _ _ h
    | exact AlikeE.c1 _ _ _ _ _ none_alike
    | exact AlikeE.c2 _ _ _ _ _ _ none_alike
    | exact AlikeE.c1 _ _ _ _ _ (AlikeN.digit h _)
    | exact AlikeE.c1 _ _ _ _ _ (AlikeN.digit none_alike _)
    | exact AlikeE.c1 _ _ _ _ _ (AlikeN.next h)
    | exact AlikeE.c1 _ _ _ _ _ (AlikeN.next none_alike)
    | exact AlikeE.o _ (by simp)
    | exact AlikeE.d _ (by simp)
    | exact AlikeE.o _ h
    | exact AlikeE.d _ h
    | exact AlikeE.c4 _ _ _ _ _ _ h (by simp) _ _ _ _
    | exact AlikeE.c4 _ _ _ _ _ _ h hl _ _ _ _
    | exact AlikeE.c4 _ _ _ _ _ _ none_alike (by simp) _ _ _ _
    | (split <;> first | exact AlikeE.c4 _ _ _ _ _ _ h hl _ _ _ _ | rfl)
    | (by_cases ht : t.length < 60 <;> simp only [ht, if_true, if_false] <;> first | exact AlikeE.o _ (by simp; omega) | exact AlikeE.d _ (by simp; omega) | exact AlikeE.o _ (by omega) | exact AlikeE.d _ (by omega) | rfl)
    | exact congrArg (fun x => eCsi m x _ _) h.take
    | fail

set_option maxHeartbeats 1600000 in
theorem al_inter (b : BP) (p : PL) (h : AlikeE b p) (c : Nat) (hc : 32 ≤ c ∧ c ≤ 47) : AlikeE (byteE b c).1 (byteP p c).1 ∧ (byteE b c).2 = (byteP p c).2 := by
  have hk := kind_inter c hc
  have t0 : (c = 24) = False := by simp only [eq_iff_iff, iff_true, iff_false]; omega
  have t1 : (c = 26) = False := by simp only [eq_iff_iff, iff_true, iff_false]; omega
  have t2 : (c = 27) = False := by simp only [eq_iff_iff, iff_true, iff_false]; omega
  have t3 : (c < 32) = False := by simp only [eq_iff_iff, iff_true, iff_false]; omega
  have t4 : (c = 7) = False := by simp only [eq_iff_iff, iff_true, iff_false]; omega
  have t5 : (c = 127) = False := by simp only [eq_iff_iff, iff_true, iff_false]; omega
  have t6 : (c < 128) = True := by simp only [eq_iff_iff, iff_true, iff_false]; omega
  have t7 : (c < 48) = True := by simp only [eq_iff_iff, iff_true, iff_false]; omega
  have t8 : (c = 91) = False := by simp only [eq_iff_iff, iff_true, iff_false]; omega
  have t9 : (c = 93) = False := by simp only [eq_iff_iff, iff_true, iff_false]; omega
  have t10 : (c = 80) = False := by simp only [eq_iff_iff, iff_true, iff_false]; omega
  have t11 : (60 ≤ c) = False := by simp only [eq_iff_iff, iff_true, iff_false]; omega
  have t12 : (c ≤ 63) = True := by simp only [eq_iff_iff, iff_true, iff_false]; omega
  have t13 : (c = 58) = False := by simp only [eq_iff_iff, iff_true, iff_false]; omega
  have t14 : (c ≤ 59) = True := by simp only [eq_iff_iff, iff_true, iff_false]; omega
  have t15 : (c ≤ 57) = True := by simp only [eq_iff_iff, iff_true, iff_false]; omega
  have t16 : (c = 59) = False := by simp only [eq_iff_iff, iff_true, iff_false]; omega
  rcases h with ⟨u, B, h⟩ | _ | ⟨i⟩ | ⟨i, j⟩ | ⟨i, j⟩ | _ | ⟨m, n, d, k, any, h⟩ | ⟨m, n, d, k, any, i, h⟩ | ⟨m, n, d, k, any, i, j, h⟩ | ⟨m, n, d, k, any, l, h, hl, m', k', any', l'⟩ | ⟨t, h⟩ | ⟨t, h⟩
  all_goals simp [byteE, hk, nx_0_4, dd_0_4, nx_1_4, dd_1_4, nx_2_4, dd_2_4, nx_3_4, dd_3_4, nx_4_4, dd_4_4, nx_5_4, dd_5_4, nx_6_4, dd_6_4, nx_7_4, dd_7_4, nx_8_4, dd_8_4, nx_9_4, dd_9_4, nx_10_4, dd_10_4, nx_11_4, dd_11_4, stepE, flushE, doE, keepE, toE, BP.clear, byteP, escP, csiP, PL.text, PL.ends, PL.more, PL.flushed, pAt, badsU, zh, t0, t1, t2, t3, t4, t5, t6, t7, t8, t9, t10, t11, t12, t13, t14, t15, t16]
  all_goals (repeat' (refine And.intro ?_ ?_))
  all_goals first
    | rfl
    | exact flush_same h
    | exact AlikeE.e0
    | exact AlikeE.e1 _
    | exact AlikeE.e2 _ _
    | exact AlikeE.e3 _ _
    | exact AlikeE.c0
    | exact AlikeE.g _ _ alikeU_z
    | exact AlikeE.g _ _ (byte_alike h _).1
    | exact AlikeE.g _ _ (byte_alike alikeU_z _).1
    | exact congrArg _ (byte_alike h _).2
    | exact congrArg _ (byte_alike alikeU_z _).2
    | exact AlikeE.c1 _ _ _ _ _ h
    | exact AlikeE.c2 _ _ _ _ _ _ h
    | exact AlikeE.c3 _ _ _ _ _ _ _ h
    | exact AlikeE.c1 _ _ _ _ _ none_alike
    | exact AlikeE.c2 _ _ _ _ _ _ none_alike
    | exact AlikeE.c1 _ _ _ _ _ (AlikeN.digit h _)
    | exact AlikeE.c1 _ _ _ _ _ (AlikeN.digit none_alike _)
    | exact AlikeE.c1 _ _ _ _ _ (AlikeN.next h)
    | exact AlikeE.c1 _ _ _ _ _ (AlikeN.next none_alike)
    | exact AlikeE.o _ (by simp)
    | exact AlikeE.d _ (by simp)
    | exact AlikeE.o _ h
    | exact AlikeE.d _ h
    | exact AlikeE.c4 _ _ _ _ _ _ h (by simp) _ _ _ _
    | exact AlikeE.c4 _ _ _ _ _ _ h hl _ _ _ _
    | exact AlikeE.c4 _ _ _ _ _ _ none_alike (by simp) _ _ _ _
    | (split <;> first | exact AlikeE.c4 _ _ _ _ _ _ h hl _ _ _ _ | rfl)
    | (by_cases ht : t.length < 60 <;> simp only [ht, if_true, if_false] <;> first | exact AlikeE.o _ (by simp; omega) | exact AlikeE.d _ (by simp; omega) | exact AlikeE.o _ (by omega) | exact AlikeE.d _ (by omega) | rfl)
    | exact congrArg (fun x => eCsi m x _ _) h.take
    | fail

set_option maxHeartbeats 1600000 in
theorem al_digit (b : BP) (p : PL) (h : AlikeE b p) (c : Nat) (hc : 48 ≤ c ∧ c ≤ 57) : AlikeE (byteE b c).1 (byteP p c).1 ∧ (byteE b c).2 = (byteP p c).2 := by
  have hk := kind_digit c hc
  have t0 : (c = 24) = False := by simp only [eq_iff_iff, iff_true, iff_false]; omega
  have t1 : (c = 26) = False := by simp only [eq_iff_iff, iff_true, iff_false]; omega
  have t2 : (c = 27) = False := by simp only [eq_iff_iff, iff_true, iff_false]; omega
  have t3 : (c < 32) = False := by simp only [eq_iff_iff, iff_true, iff_false]; omega
  have t4 : (c = 7) = False := by simp only [eq_iff_iff, iff_true, iff_false]; omega
  have t5 : (c = 127) = False := by simp only [eq_iff_iff, iff_true, iff_false]; omega
  have t6 : (c < 128) = True := by simp only [eq_iff_iff, iff_true, iff_false]; omega
  have t7 : (c < 48) = False := by simp only [eq_iff_iff, iff_true, iff_false]; omega
  have t8 : (c = 91) = False := by simp only [eq_iff_iff, iff_true, iff_false]; omega
  have t9 : (c = 93) = False := by simp only [eq_iff_iff, iff_true, iff_false]; omega
  have t10 : (c = 80) = False := by simp only [eq_iff_iff, iff_true, iff_false]; omega
  have t11 : (60 ≤ c) = False := by simp only [eq_iff_iff, iff_true, iff_false]; omega
  have t12 : (c ≤ 63) = True := by simp only [eq_iff_iff, iff_true, iff_false]; omega
  have t13 : (c = 58) = False := by simp only [eq_iff_iff, iff_true, iff_false]; omega
  have t14 : (c ≤ 59) = True := by simp only [eq_iff_iff, iff_true, iff_false]; omega
  have t15 : (c ≤ 57) = True := by simp only [eq_iff_iff, iff_true, iff_false]; omega
  have t16 : (c = 59) = False := by simp only [eq_iff_iff, iff_true, iff_false]; omega
  rcases h with ⟨u, B, h⟩ | _ | ⟨i⟩ | ⟨i, j⟩ | ⟨i, j⟩ | _ | ⟨m, n, d, k, any, h⟩ | ⟨m, n, d, k, any, i, h⟩ | ⟨m, n, d, k, any, i, j, h⟩ | ⟨m, n, d, k, any, l, h, hl, m', k', any', l'⟩ | ⟨t, h⟩ | ⟨t, h⟩
  all_goals simp [byteE, hk, nx_0_5, dd_0_5, nx_1_5, dd_1_5, nx_2_5, dd_2_5, nx_3_5, dd_3_5, nx_4_5, dd_4_5, nx_5_5, dd_5_5, nx_6_5, dd_6_5, nx_7_5, dd_7_5, nx_8_5, dd_8_5, nx_9_5, dd_9_5, nx_10_5, dd_10_5, nx_11_5, dd_11_5, stepE, flushE, doE, keepE, toE, BP.clear, byteP, escP, csiP, PL.text, PL.ends, PL.more, PL.flushed, pAt, badsU, zh, t0, t1, t2, t3, t4, t5, t6, t7, t8, t9, t10, t11, t12, t13, t14, t15, t16]
  all_goals (repeat' (refine And.intro ?_ ?_))
  all_goals first
    | rfl
    | exact flush_same h
    | exact AlikeE.e0
    | exact AlikeE.e1 _
    | exact AlikeE.e2 _ _
    | exact AlikeE.e3 _ _
    | exact AlikeE.c0
    | exact AlikeE.g _ _ alikeU_z
    | exact AlikeE.g _ _ (byte_alike h _).1
    | exact AlikeE.g _ _ (byte_alike alikeU_z _).1
    | exact congrArg _ (byte_alike h _).2
    | exact congrArg _ (byte_alike alikeU_z _).2
    | exact AlikeE.c1 _ _ _ _ _ h
    | exact AlikeE.c2 _ _ _ _ _ _ h
    | exact AlikeE.c3 _ _ _ _ _ _ _ h
    | exact AlikeE.c1 _ _ _ _ _ none_alike
    | exact AlikeE.c2 _ _ _ _ _ _ none_alike
    | exact AlikeE.c1 _ _ _ _ _ (AlikeN.digit h _)
    | exact AlikeE.c1 _ _ _ _ _ (AlikeN.digit none_alike _)
    | exact AlikeE.c1 _ _ _ _ _ (AlikeN.next h)
    | exact AlikeE.c1 _ _ _ _ _ (AlikeN.next none_alike)
    | exact AlikeE.o _ (by simp)
    | exact AlikeE.d _ (by simp)
    | exact AlikeE.o _ h
    | exact AlikeE.d _ h
    | exact AlikeE.c4 _ _ _ _ _ _ h (by simp) _ _ _ _
    | exact AlikeE.c4 _ _ _ _ _ _ h hl _ _ _ _
    | exact AlikeE.c4 _ _ _ _ _ _ none_alike (by simp) _ _ _ _
    | (split <;> first | exact AlikeE.c4 _ _ _ _ _ _ h hl _ _ _ _ | rfl)
    | (by_cases ht : t.length < 60 <;> simp only [ht, if_true, if_false] <;> first | exact AlikeE.o _ (by simp; omega) | exact AlikeE.d _ (by simp; omega) | exact AlikeE.o _ (by omega) | exact AlikeE.d _ (by omega) | rfl)
    | exact congrArg (fun x => eCsi m x _ _) h.take
    | fail

set_option maxHeartbeats 1600000 in
theorem al_colon (b : BP) (p : PL) (h : AlikeE b p) : AlikeE (byteE b 58).1 (byteP p 58).1 ∧ (byteE b 58).2 = (byteP p 58).2 := by
  have hk := kind_colon
  rcases h with ⟨u, B, h⟩ | _ | ⟨i⟩ | ⟨i, j⟩ | ⟨i, j⟩ | _ | ⟨m, n, d, k, any, h⟩ | ⟨m, n, d, k, any, i, h⟩ | ⟨m, n, d, k, any, i, j, h⟩ | ⟨m, n, d, k, any, l, h, hl, m', k', any', l'⟩ | ⟨t, h⟩ | ⟨t, h⟩
  all_goals simp [byteE, hk, nx_0_6, dd_0_6, nx_1_6, dd_1_6, nx_2_6, dd_2_6, nx_3_6, dd_3_6, nx_4_6, dd_4_6, nx_5_6, dd_5_6, nx_6_6, dd_6_6, nx_7_6, dd_7_6, nx_8_6, dd_8_6, nx_9_6, dd_9_6, nx_10_6, dd_10_6, nx_11_6, dd_11_6, stepE, flushE, doE, keepE, toE, BP.clear, byteP, escP, csiP, PL.text, PL.ends, PL.more, PL.flushed, pAt, badsU, zh]
  all_goals (repeat' (refine And.intro ?_ ?_))
  all_goals first
    | rfl
    | exact flush_same h
    | exact AlikeE.e0
    | exact AlikeE.e1 _
    | exact AlikeE.e2 _ _
    | exact AlikeE.e3 _ _
    | exact AlikeE.c0
    | exact AlikeE.g _ _ alikeU_z
    | exact AlikeE.g _ _ (byte_alike h _).1
    | exact AlikeE.g _ _ (byte_alike alikeU_z _).1
    | exact congrArg _ (byte_alike h _).2
    | exact congrArg _ (byte_alike alikeU_z _).2
    | exact AlikeE.c1 _ _ _ _ _ h
    | exact AlikeE.c2 _ _ _ _ _ _ h
    | exact AlikeE.c3 _ _ _ _ _ _ _ h
    | exact AlikeE.c1 _ _ _ _ _ none_alike
    | exact AlikeE.c2 _ _ _ _ _ _ none_alike
    | exact AlikeE.c1 _ _ _ _ _ (AlikeN.digit h _)
    | exact AlikeE.c1 _ _ _ _ _ (AlikeN.digit none_alike _)
    | exact AlikeE.c1 _ _ _ _ _ (AlikeN.next h)
    | exact AlikeE.c1 _ _ _ _ _ (AlikeN.next none_alike)
    | exact AlikeE.o _ (by simp)
    | exact AlikeE.d _ (by simp)
    | exact AlikeE.o _ h
    | exact AlikeE.d _ h
    | exact AlikeE.c4 _ _ _ _ _ _ h (by simp) _ _ _ _
    | exact AlikeE.c4 _ _ _ _ _ _ h hl _ _ _ _
    | exact AlikeE.c4 _ _ _ _ _ _ none_alike (by simp) _ _ _ _
    | (split <;> first | exact AlikeE.c4 _ _ _ _ _ _ h hl _ _ _ _ | rfl)
    | (by_cases ht : t.length < 60 <;> simp only [ht, if_true, if_false] <;> first | exact AlikeE.o _ (by simp; omega) | exact AlikeE.d _ (by simp; omega) | exact AlikeE.o _ (by omega) | exact AlikeE.d _ (by omega) | rfl)
    | exact congrArg (fun x => eCsi m x _ _) h.take
    | fail

set_option maxHeartbeats 1600000 in
theorem al_semi (b : BP) (p : PL) (h : AlikeE b p) : AlikeE (byteE b 59).1 (byteP p 59).1 ∧ (byteE b 59).2 = (byteP p 59).2 := by
  have hk := kind_semi
  rcases h with ⟨u, B, h⟩ | _ | ⟨i⟩ | ⟨i, j⟩ | ⟨i, j⟩ | _ | ⟨m, n, d, k, any, h⟩ | ⟨m, n, d, k, any, i, h⟩ | ⟨m, n, d, k, any, i, j, h⟩ | ⟨m, n, d, k, any, l, h, hl, m', k', any', l'⟩ | ⟨t, h⟩ | ⟨t, h⟩
  all_goals simp [byteE, hk, nx_0_7, dd_0_7, nx_1_7, dd_1_7, nx_2_7, dd_2_7, nx_3_7, dd_3_7, nx_4_7, dd_4_7, nx_5_7, dd_5_7, nx_6_7, dd_6_7, nx_7_7, dd_7_7, nx_8_7, dd_8_7, nx_9_7, dd_9_7, nx_10_7, dd_10_7, nx_11_7, dd_11_7, stepE, flushE, doE, keepE, toE, BP.clear, byteP, escP, csiP, PL.text, PL.ends, PL.more, PL.flushed, pAt, badsU, zh]
  all_goals (repeat' (refine And.intro ?_ ?_))
  all_goals first
    | rfl
    | exact flush_same h
    | exact AlikeE.e0
    | exact AlikeE.e1 _
    | exact AlikeE.e2 _ _
    | exact AlikeE.e3 _ _
    | exact AlikeE.c0
    | exact AlikeE.g _ _ alikeU_z
    | exact AlikeE.g _ _ (byte_alike h _).1
    | exact AlikeE.g _ _ (byte_alike alikeU_z _).1
    | exact congrArg _ (byte_alike h _).2
    | exact congrArg _ (byte_alike alikeU_z _).2
    | exact AlikeE.c1 _ _ _ _ _ h
    | exact AlikeE.c2 _ _ _ _ _ _ h
    | exact AlikeE.c3 _ _ _ _ _ _ _ h
    | exact AlikeE.c1 _ _ _ _ _ none_alike
    | exact AlikeE.c2 _ _ _ _ _ _ none_alike
    | exact AlikeE.c1 _ _ _ _ _ (AlikeN.digit h _)
    | exact AlikeE.c1 _ _ _ _ _ (AlikeN.digit none_alike _)
    | exact AlikeE.c1 _ _ _ _ _ (AlikeN.next h)
    | exact AlikeE.c1 _ _ _ _ _ (AlikeN.next none_alike)
    | exact AlikeE.o _ (by simp)
    | exact AlikeE.d _ (by simp)
    | exact AlikeE.o _ h
    | exact AlikeE.d _ h
    | exact AlikeE.c4 _ _ _ _ _ _ h (by simp) _ _ _ _
    | exact AlikeE.c4 _ _ _ _ _ _ h hl _ _ _ _
    | exact AlikeE.c4 _ _ _ _ _ _ none_alike (by simp) _ _ _ _
    | (split <;> first | exact AlikeE.c4 _ _ _ _ _ _ h hl _ _ _ _ | rfl)
    | (by_cases ht : t.length < 60 <;> simp only [ht, if_true, if_false] <;> first | exact AlikeE.o _ (by simp; omega) | exact AlikeE.d _ (by simp; omega) | exact AlikeE.o _ (by omega) | exact AlikeE.d _ (by omega) | rfl)
    | exact congrArg (fun x => eCsi m x _ _) h.take
    | fail

set_option maxHeartbeats 1600000 in
theorem al_mark (b : BP) (p : PL) (h : AlikeE b p) (c : Nat) (hc : 60 ≤ c ∧ c ≤ 63) : AlikeE (byteE b c).1 (byteP p c).1 ∧ (byteE b c).2 = (byteP p c).2 := by
  have hk := kind_mark c hc
  have t0 : (c = 24) = False := by simp only [eq_iff_iff, iff_true, iff_false]; omega
  have t1 : (c = 26) = False := by simp only [eq_iff_iff, iff_true, iff_false]; omega
  have t2 : (c = 27) = False := by simp only [eq_iff_iff, iff_true, iff_false]; omega
  have t3 : (c < 32) = False := by simp only [eq_iff_iff, iff_true, iff_false]; omega
  have t4 : (c = 7) = False := by simp only [eq_iff_iff, iff_true, iff_false]; omega
  have t5 : (c = 127) = False := by simp only [eq_iff_iff, iff_true, iff_false]; omega
  have t6 : (c < 128) = True := by simp only [eq_iff_iff, iff_true, iff_false]; omega
  have t7 : (c < 48) = False := by simp only [eq_iff_iff, iff_true, iff_false]; omega
  have t8 : (c = 91) = False := by simp only [eq_iff_iff, iff_true, iff_false]; omega
  have t9 : (c = 93) = False := by simp only [eq_iff_iff, iff_true, iff_false]; omega
  have t10 : (c = 80) = False := by simp only [eq_iff_iff, iff_true, iff_false]; omega
  have t11 : (60 ≤ c) = True := by simp only [eq_iff_iff, iff_true, iff_false]; omega
  have t12 : (c ≤ 63) = True := by simp only [eq_iff_iff, iff_true, iff_false]; omega
  have t13 : (c = 58) = False := by simp only [eq_iff_iff, iff_true, iff_false]; omega
  have t14 : (c ≤ 59) = False := by simp only [eq_iff_iff, iff_true, iff_false]; omega
  have t15 : (c ≤ 57) = False := by simp only [eq_iff_iff, iff_true, iff_false]; omega
  have t16 : (c = 59) = False := by simp only [eq_iff_iff, iff_true, iff_false]; omega
  rcases h with ⟨u, B, h⟩ | _ | ⟨i⟩ | ⟨i, j⟩ | ⟨i, j⟩ | _ | ⟨m, n, d, k, any, h⟩ | ⟨m, n, d, k, any, i, h⟩ | ⟨m, n, d, k, any, i, j, h⟩ | ⟨m, n, d, k, any, l, h, hl, m', k', any', l'⟩ | ⟨t, h⟩ | ⟨t, h⟩
  all_goals simp [byteE, hk, nx_0_8, dd_0_8, nx_1_8, dd_1_8, nx_2_8, dd_2_8, nx_3_8, dd_3_8, nx_4_8, dd_4_8, nx_5_8, dd_5_8, nx_6_8, dd_6_8, nx_7_8, dd_7_8, nx_8_8, dd_8_8, nx_9_8, dd_9_8, nx_10_8, dd_10_8, nx_11_8, dd_11_8, stepE, flushE, doE, keepE, toE, BP.clear, byteP, escP, csiP, PL.text, PL.ends, PL.more, PL.flushed, pAt, badsU, zh, t0, t1, t2, t3, t4, t5, t6, t7, t8, t9, t10, t11, t12, t13, t14, t15, t16]
  all_goals (repeat' (refine And.intro ?_ ?_))
  all_goals first
    | rfl
    | exact flush_same h
    | exact AlikeE.e0
    | exact AlikeE.e1 _
    | exact AlikeE.e2 _ _
    | exact AlikeE.e3 _ _
    | exact AlikeE.c0
    | exact AlikeE.g _ _ alikeU_z
    | exact AlikeE.g _ _ (byte_alike h _).1
    | exact AlikeE.g _ _ (byte_alike alikeU_z _).1
    | exact congrArg _ (byte_alike h _).2
    | exact congrArg _ (byte_alike alikeU_z _).2
    | exact AlikeE.c1 _ _ _ _ _ h
    | exact AlikeE.c2 _ _ _ _ _ _ h
    | exact AlikeE.c3 _ _ _ _ _ _ _ h
    | exact AlikeE.c1 _ _ _ _ _ none_alike
    | exact AlikeE.c2 _ _ _ _ _ _ none_alike
    | exact AlikeE.c1 _ _ _ _ _ (AlikeN.digit h _)
    | exact AlikeE.c1 _ _ _ _ _ (AlikeN.digit none_alike _)
    | exact AlikeE.c1 _ _ _ _ _ (AlikeN.next h)
    | exact AlikeE.c1 _ _ _ _ _ (AlikeN.next none_alike)
    | exact AlikeE.o _ (by simp)
    | exact AlikeE.d _ (by simp)
    | exact AlikeE.o _ h
    | exact AlikeE.d _ h
    | exact AlikeE.c4 _ _ _ _ _ _ h (by simp) _ _ _ _
    | exact AlikeE.c4 _ _ _ _ _ _ h hl _ _ _ _
    | exact AlikeE.c4 _ _ _ _ _ _ none_alike (by simp) _ _ _ _
    | (split <;> first | exact AlikeE.c4 _ _ _ _ _ _ h hl _ _ _ _ | rfl)
    | (by_cases ht : t.length < 60 <;> simp only [ht, if_true, if_false] <;> first | exact AlikeE.o _ (by simp; omega) | exact AlikeE.d _ (by simp; omega) | exact AlikeE.o _ (by omega) | exact AlikeE.d _ (by omega) | rfl)
    | exact congrArg (fun x => eCsi m x _ _) h.take
    | fail

set_option maxHeartbeats 1600000 in
theorem al_final (b : BP) (p : PL) (h : AlikeE b p) (c : Nat) (hc : 64 ≤ c ∧ c ≤ 126 ∧ c ≠ 80 ∧ c ≠ 91 ∧ c ≠ 93) : AlikeE (byteE b c).1 (byteP p c).1 ∧ (byteE b c).2 = (byteP p c).2 := by
  have hk := kind_final c hc
  have t0 : (c = 24) = False := by simp only [eq_iff_iff, iff_true, iff_false]; omega
  have t1 : (c = 26) = False := by simp only [eq_iff_iff, iff_true, iff_false]; omega
  have t2 : (c = 27) = False := by simp only [eq_iff_iff, iff_true, iff_false]; omega
  have t3 : (c < 32) = False := by simp only [eq_iff_iff, iff_true, iff_false]; omega
  have t4 : (c = 7) = False := by simp only [eq_iff_iff, iff_true, iff_false]; omega
  have t5 : (c = 127) = False := by simp only [eq_iff_iff, iff_true, iff_false]; omega
  have t6 : (c < 128) = True := by simp only [eq_iff_iff, iff_true, iff_false]; omega
  have t7 : (c < 48) = False := by simp only [eq_iff_iff, iff_true, iff_false]; omega
  have t8 : (c = 91) = False := by simp only [eq_iff_iff, iff_true, iff_false]; omega
  have t9 : (c = 93) = False := by simp only [eq_iff_iff, iff_true, iff_false]; omega
  have t10 : (c = 80) = False := by simp only [eq_iff_iff, iff_true, iff_false]; omega
  have t11 : (60 ≤ c) = True := by simp only [eq_iff_iff, iff_true, iff_false]; omega
  have t12 : (c ≤ 63) = False := by simp only [eq_iff_iff, iff_true, iff_false]; omega
  have t13 : (c = 58) = False := by simp only [eq_iff_iff, iff_true, iff_false]; omega
  have t14 : (c ≤ 59) = False := by simp only [eq_iff_iff, iff_true, iff_false]; omega
  have t15 : (c ≤ 57) = False := by simp only [eq_iff_iff, iff_true, iff_false]; omega
  have t16 : (c = 59) = False := by simp only [eq_iff_iff, iff_true, iff_false]; omega
  rcases h with ⟨u, B, h⟩ | _ | ⟨i⟩ | ⟨i, j⟩ | ⟨i, j⟩ | _ | ⟨m, n, d, k, any, h⟩ | ⟨m, n, d, k, any, i, h⟩ | ⟨m, n, d, k, any, i, j, h⟩ | ⟨m, n, d, k, any, l, h, hl, m', k', any', l'⟩ | ⟨t, h⟩ | ⟨t, h⟩
  all_goals simp [byteE, hk, nx_0_9, dd_0_9, nx_1_9, dd_1_9, nx_2_9, dd_2_9, nx_3_9, dd_3_9, nx_4_9, dd_4_9, nx_5_9, dd_5_9, nx_6_9, dd_6_9, nx_7_9, dd_7_9, nx_8_9, dd_8_9, nx_9_9, dd_9_9, nx_10_9, dd_10_9, nx_11_9, dd_11_9, stepE, flushE, doE, keepE, toE, BP.clear, byteP, escP, csiP, PL.text, PL.ends, PL.more, PL.flushed, pAt, badsU, zh, t0, t1, t2, t3, t4, t5, t6, t7, t8, t9, t10, t11, t12, t13, t14, t15, t16]
  all_goals (repeat' (refine And.intro ?_ ?_))
  all_goals first
    | rfl
    | exact flush_same h
    | exact AlikeE.e0
    | exact AlikeE.e1 _
    | exact AlikeE.e2 _ _
    | exact AlikeE.e3 _ _
    | exact AlikeE.c0
    | exact AlikeE.g _ _ alikeU_z
    | exact AlikeE.g _ _ (byte_alike h _).1
    | exact AlikeE.g _ _ (byte_alike alikeU_z _).1
    | exact congrArg _ (byte_alike h _).2
    | exact congrArg _ (byte_alike alikeU_z _).2
    | exact AlikeE.c1 _ _ _ _ _ h
    | exact AlikeE.c2 _ _ _ _ _ _ h
    | exact AlikeE.c3 _ _ _ _ _ _ _ h
    | exact AlikeE.c1 _ _ _ _ _ none_alike
    | exact AlikeE.c2 _ _ _ _ _ _ none_alike
    | exact AlikeE.c1 _ _ _ _ _ (AlikeN.digit h _)
    | exact AlikeE.c1 _ _ _ _ _ (AlikeN.digit none_alike _)
    | exact AlikeE.c1 _ _ _ _ _ (AlikeN.next h)
    | exact AlikeE.c1 _ _ _ _ _ (AlikeN.next none_alike)
    | exact AlikeE.o _ (by simp)
    | exact AlikeE.d _ (by simp)
    | exact AlikeE.o _ h
    | exact AlikeE.d _ h
    | exact AlikeE.c4 _ _ _ _ _ _ h (by simp) _ _ _ _
    | exact AlikeE.c4 _ _ _ _ _ _ h hl _ _ _ _
    | exact AlikeE.c4 _ _ _ _ _ _ none_alike (by simp) _ _ _ _
    | (split <;> first | exact AlikeE.c4 _ _ _ _ _ _ h hl _ _ _ _ | rfl)
    | (by_cases ht : t.length < 60 <;> simp only [ht, if_true, if_false] <;> first | exact AlikeE.o _ (by simp; omega) | exact AlikeE.d _ (by simp; omega) | exact AlikeE.o _ (by omega) | exact AlikeE.d _ (by omega) | rfl)
    | exact congrArg (fun x => eCsi m x _ _) h.take
    | fail

set_option maxHeartbeats 1600000 in
theorem al_dcs (b : BP) (p : PL) (h : AlikeE b p) : AlikeE (byteE b 80).1 (byteP p 80).1 ∧ (byteE b 80).2 = (byteP p 80).2 := by
  have hk := kind_dcs
  rcases h with ⟨u, B, h⟩ | _ | ⟨i⟩ | ⟨i, j⟩ | ⟨i, j⟩ | _ | ⟨m, n, d, k, any, h⟩ | ⟨m, n, d, k, any, i, h⟩ | ⟨m, n, d, k, any, i, j, h⟩ | ⟨m, n, d, k, any, l, h, hl, m', k', any', l'⟩ | ⟨t, h⟩ | ⟨t, h⟩
  all_goals simp [byteE, hk, nx_0_10, dd_0_10, nx_1_10, dd_1_10, nx_2_10, dd_2_10, nx_3_10, dd_3_10, nx_4_10, dd_4_10, nx_5_10, dd_5_10, nx_6_10, dd_6_10, nx_7_10, dd_7_10, nx_8_10, dd_8_10, nx_9_10, dd_9_10, nx_10_10, dd_10_10, nx_11_10, dd_11_10, stepE, flushE, doE, keepE, toE, BP.clear, byteP, escP, csiP, PL.text, PL.ends, PL.more, PL.flushed, pAt, badsU, zh]
  all_goals (repeat' (refine And.intro ?_ ?_))
  all_goals first
    | rfl
    | exact flush_same h
    | exact AlikeE.e0
    | exact AlikeE.e1 _
    | exact AlikeE.e2 _ _
    | exact AlikeE.e3 _ _
    | exact AlikeE.c0
    | exact AlikeE.g _ _ alikeU_z
    | exact AlikeE.g _ _ (byte_alike h _).1
    | exact AlikeE.g _ _ (byte_alike alikeU_z _).1
    | exact congrArg _ (byte_alike h _).2
    | exact congrArg _ (byte_alike alikeU_z _).2
    | exact AlikeE.c1 _ _ _ _ _ h
    | exact AlikeE.c2 _ _ _ _ _ _ h
    | exact AlikeE.c3 _ _ _ _ _ _ _ h
    | exact AlikeE.c1 _ _ _ _ _ none_alike
    | exact AlikeE.c2 _ _ _ _ _ _ none_alike
    | exact AlikeE.c1 _ _ _ _ _ (AlikeN.digit h _)
    | exact AlikeE.c1 _ _ _ _ _ (AlikeN.digit none_alike _)
    | exact AlikeE.c1 _ _ _ _ _ (AlikeN.next h)
    | exact AlikeE.c1 _ _ _ _ _ (AlikeN.next none_alike)
    | exact AlikeE.o _ (by simp)
    | exact AlikeE.d _ (by simp)
    | exact AlikeE.o _ h
    | exact AlikeE.d _ h
    | exact AlikeE.c4 _ _ _ _ _ _ h (by simp) _ _ _ _
    | exact AlikeE.c4 _ _ _ _ _ _ h hl _ _ _ _
    | exact AlikeE.c4 _ _ _ _ _ _ none_alike (by simp) _ _ _ _
    | (split <;> first | exact AlikeE.c4 _ _ _ _ _ _ h hl _ _ _ _ | rfl)
    | (by_cases ht : t.length < 60 <;> simp only [ht, if_true, if_false] <;> first | exact AlikeE.o _ (by simp; omega) | exact AlikeE.d _ (by simp; omega) | exact AlikeE.o _ (by omega) | exact AlikeE.d _ (by omega) | rfl)
    | exact congrArg (fun x => eCsi m x _ _) h.take
    | fail

set_option maxHeartbeats 1600000 in
theorem al_csi (b : BP) (p : PL) (h : AlikeE b p) : AlikeE (byteE b 91).1 (byteP p 91).1 ∧ (byteE b 91).2 = (byteP p 91).2 := by
  have hk := kind_csi
  rcases h with ⟨u, B, h⟩ | _ | ⟨i⟩ | ⟨i, j⟩ | ⟨i, j⟩ | _ | ⟨m, n, d, k, any, h⟩ | ⟨m, n, d, k, any, i, h⟩ | ⟨m, n, d, k, any, i, j, h⟩ | ⟨m, n, d, k, any, l, h, hl, m', k', any', l'⟩ | ⟨t, h⟩ | ⟨t, h⟩
  all_goals simp [byteE, hk, nx_0_11, dd_0_11, nx_1_11, dd_1_11, nx_2_11, dd_2_11, nx_3_11, dd_3_11, nx_4_11, dd_4_11, nx_5_11, dd_5_11, nx_6_11, dd_6_11, nx_7_11, dd_7_11, nx_8_11, dd_8_11, nx_9_11, dd_9_11, nx_10_11, dd_10_11, nx_11_11, dd_11_11, stepE, flushE, doE, keepE, toE, BP.clear, byteP, escP, csiP, PL.text, PL.ends, PL.more, PL.flushed, pAt, badsU, zh]
  all_goals (repeat' (refine And.intro ?_ ?_))
  all_goals first
    | rfl
    | exact flush_same h
    | exact AlikeE.e0
    | exact AlikeE.e1 _
    | exact AlikeE.e2 _ _
    | exact AlikeE.e3 _ _
    | exact AlikeE.c0
    | exact AlikeE.g _ _ alikeU_z
    | exact AlikeE.g _ _ (byte_alike h _).1
    | exact AlikeE.g _ _ (byte_alike alikeU_z _).1
    | exact congrArg _ (byte_alike h _).2
    | exact congrArg _ (byte_alike alikeU_z _).2
    | exact AlikeE.c1 _ _ _ _ _ h
    | exact AlikeE.c2 _ _ _ _ _ _ h
    | exact AlikeE.c3 _ _ _ _ _ _ _ h
    | exact AlikeE.c1 _ _ _ _ _ none_alike
    | exact AlikeE.c2 _ _ _ _ _ _ none_alike
    | exact AlikeE.c1 _ _ _ _ _ (AlikeN.digit h _)
    | exact AlikeE.c1 _ _ _ _ _ (AlikeN.digit none_alike _)
    | exact AlikeE.c1 _ _ _ _ _ (AlikeN.next h)
    | exact AlikeE.c1 _ _ _ _ _ (AlikeN.next none_alike)
    | exact AlikeE.o _ (by simp)
    | exact AlikeE.d _ (by simp)
    | exact AlikeE.o _ h
    | exact AlikeE.d _ h
    | exact AlikeE.c4 _ _ _ _ _ _ h (by simp) _ _ _ _
    | exact AlikeE.c4 _ _ _ _ _ _ h hl _ _ _ _
    | exact AlikeE.c4 _ _ _ _ _ _ none_alike (by simp) _ _ _ _
    | (split <;> first | exact AlikeE.c4 _ _ _ _ _ _ h hl _ _ _ _ | rfl)
    | (by_cases ht : t.length < 60 <;> simp only [ht, if_true, if_false] <;> first | exact AlikeE.o _ (by simp; omega) | exact AlikeE.d _ (by simp; omega) | exact AlikeE.o _ (by omega) | exact AlikeE.d _ (by omega) | rfl)
    | exact congrArg (fun x => eCsi m x _ _) h.take
    | fail

set_option maxHeartbeats 1600000 in
theorem al_osc (b : BP) (p : PL) (h : AlikeE b p) : AlikeE (byteE b 93).1 (byteP p 93).1 ∧ (byteE b 93).2 = (byteP p 93).2 := by
  have hk := kind_osc
  rcases h with ⟨u, B, h⟩ | _ | ⟨i⟩ | ⟨i, j⟩ | ⟨i, j⟩ | _ | ⟨m, n, d, k, any, h⟩ | ⟨m, n, d, k, any, i, h⟩ | ⟨m, n, d, k, any, i, j, h⟩ | ⟨m, n, d, k, any, l, h, hl, m', k', any', l'⟩ | ⟨t, h⟩ | ⟨t, h⟩
  all_goals simp [byteE, hk, nx_0_12, dd_0_12, nx_1_12, dd_1_12, nx_2_12, dd_2_12, nx_3_12, dd_3_12, nx_4_12, dd_4_12, nx_5_12, dd_5_12, nx_6_12, dd_6_12, nx_7_12, dd_7_12, nx_8_12, dd_8_12, nx_9_12, dd_9_12, nx_10_12, dd_10_12, nx_11_12, dd_11_12, stepE, flushE, doE, keepE, toE, BP.clear, byteP, escP, csiP, PL.text, PL.ends, PL.more, PL.flushed, pAt, badsU, zh]
  all_goals (repeat' (refine And.intro ?_ ?_))
  all_goals first
    | rfl
    | exact flush_same h
    | exact AlikeE.e0
    | exact AlikeE.e1 _
    | exact AlikeE.e2 _ _
    | exact AlikeE.e3 _ _
    | exact AlikeE.c0
    | exact AlikeE.g _ _ alikeU_z
    | exact AlikeE.g _ _ (byte_alike h _).1
    | exact AlikeE.g _ _ (byte_alike alikeU_z _).1
    | exact congrArg _ (byte_alike h _).2
    | exact congrArg _ (byte_alike alikeU_z _).2
    | exact AlikeE.c1 _ _ _ _ _ h
    | exact AlikeE.c2 _ _ _ _ _ _ h
    | exact AlikeE.c3 _ _ _ _ _ _ _ h
    | exact AlikeE.c1 _ _ _ _ _ none_alike
    | exact AlikeE.c2 _ _ _ _ _ _ none_alike
    | exact AlikeE.c1 _ _ _ _ _ (AlikeN.digit h _)
    | exact AlikeE.c1 _ _ _ _ _ (AlikeN.digit none_alike _)
    | exact AlikeE.c1 _ _ _ _ _ (AlikeN.next h)
    | exact AlikeE.c1 _ _ _ _ _ (AlikeN.next none_alike)
    | exact AlikeE.o _ (by simp)
    | exact AlikeE.d _ (by simp)
    | exact AlikeE.o _ h
    | exact AlikeE.d _ h
    | exact AlikeE.c4 _ _ _ _ _ _ h (by simp) _ _ _ _
    | exact AlikeE.c4 _ _ _ _ _ _ h hl _ _ _ _
    | exact AlikeE.c4 _ _ _ _ _ _ none_alike (by simp) _ _ _ _
    | (split <;> first | exact AlikeE.c4 _ _ _ _ _ _ h hl _ _ _ _ | rfl)
    | (by_cases ht : t.length < 60 <;> simp only [ht, if_true, if_false] <;> first | exact AlikeE.o _ (by simp; omega) | exact AlikeE.d _ (by simp; omega) | exact AlikeE.o _ (by omega) | exact AlikeE.d _ (by omega) | rfl)
    | exact congrArg (fun x => eCsi m x _ _) h.take
    | fail

set_option maxHeartbeats 1600000 in
theorem al_del (b : BP) (p : PL) (h : AlikeE b p) : AlikeE (byteE b 127).1 (byteP p 127).1 ∧ (byteE b 127).2 = (byteP p 127).2 := by
  have hk := kind_del
  rcases h with ⟨u, B, h⟩ | _ | ⟨i⟩ | ⟨i, j⟩ | ⟨i, j⟩ | _ | ⟨m, n, d, k, any, h⟩ | ⟨m, n, d, k, any, i, h⟩ | ⟨m, n, d, k, any, i, j, h⟩ | ⟨m, n, d, k, any, l, h, hl, m', k', any', l'⟩ | ⟨t, h⟩ | ⟨t, h⟩
  all_goals simp [byteE, hk, nx_0_13, dd_0_13, nx_1_13, dd_1_13, nx_2_13, dd_2_13, nx_3_13, dd_3_13, nx_4_13, dd_4_13, nx_5_13, dd_5_13, nx_6_13, dd_6_13, nx_7_13, dd_7_13, nx_8_13, dd_8_13, nx_9_13, dd_9_13, nx_10_13, dd_10_13, nx_11_13, dd_11_13, stepE, flushE, doE, keepE, toE, BP.clear, byteP, escP, csiP, PL.text, PL.ends, PL.more, PL.flushed, pAt, badsU, zh]
  all_goals (repeat' (refine And.intro ?_ ?_))
  all_goals first
    | rfl
    | exact flush_same h
    | exact AlikeE.e0
    | exact AlikeE.e1 _
    | exact AlikeE.e2 _ _
    | exact AlikeE.e3 _ _
    | exact AlikeE.c0
    | exact AlikeE.g _ _ alikeU_z
    | exact AlikeE.g _ _ (byte_alike h _).1
    | exact AlikeE.g _ _ (byte_alike alikeU_z _).1
    | exact congrArg _ (byte_alike h _).2
    | exact congrArg _ (byte_alike alikeU_z _).2
    | exact AlikeE.c1 _ _ _ _ _ h
    | exact AlikeE.c2 _ _ _ _ _ _ h
    | exact AlikeE.c3 _ _ _ _ _ _ _ h
    | exact AlikeE.c1 _ _ _ _ _ none_alike
    | exact AlikeE.c2 _ _ _ _ _ _ none_alike
    | exact AlikeE.c1 _ _ _ _ _ (AlikeN.digit h _)
    | exact AlikeE.c1 _ _ _ _ _ (AlikeN.digit none_alike _)
    | exact AlikeE.c1 _ _ _ _ _ (AlikeN.next h)
    | exact AlikeE.c1 _ _ _ _ _ (AlikeN.next none_alike)
    | exact AlikeE.o _ (by simp)
    | exact AlikeE.d _ (by simp)
    | exact AlikeE.o _ h
    | exact AlikeE.d _ h
    | exact AlikeE.c4 _ _ _ _ _ _ h (by simp) _ _ _ _
    | exact AlikeE.c4 _ _ _ _ _ _ h hl _ _ _ _
    | exact AlikeE.c4 _ _ _ _ _ _ none_alike (by simp) _ _ _ _
    | (split <;> first | exact AlikeE.c4 _ _ _ _ _ _ h hl _ _ _ _ | rfl)
    | (by_cases ht : t.length < 60 <;> simp only [ht, if_true, if_false] <;> first | exact AlikeE.o _ (by simp; omega) | exact AlikeE.d _ (by simp; omega) | exact AlikeE.o _ (by omega) | exact AlikeE.d _ (by omega) | rfl)
    | exact congrArg (fun x => eCsi m x _ _) h.take
    | fail

set_option maxHeartbeats 1600000 in
theorem al_high (b : BP) (p : PL) (h : AlikeE b p) (c : Nat) (hc : 128 ≤ c) : AlikeE (byteE b c).1 (byteP p c).1 ∧ (byteE b c).2 = (byteP p c).2 := by
  have hk := kind_high c hc
  have t0 : (c = 24) = False := by simp only [eq_iff_iff, iff_true, iff_false]; omega
  have t1 : (c = 26) = False := by simp only [eq_iff_iff, iff_true, iff_false]; omega
  have t2 : (c = 27) = False := by simp only [eq_iff_iff, iff_true, iff_false]; omega
  have t3 : (c < 32) = False := by simp only [eq_iff_iff, iff_true, iff_false]; omega
  have t4 : (c = 7) = False := by simp only [eq_iff_iff, iff_true, iff_false]; omega
  have t5 : (c = 127) = False := by simp only [eq_iff_iff, iff_true, iff_false]; omega
  have t6 : (c < 128) = False := by simp only [eq_iff_iff, iff_true, iff_false]; omega
  have t7 : (c < 48) = False := by simp only [eq_iff_iff, iff_true, iff_false]; omega
  have t8 : (c = 91) = False := by simp only [eq_iff_iff, iff_true, iff_false]; omega
  have t9 : (c = 93) = False := by simp only [eq_iff_iff, iff_true, iff_false]; omega
  have t10 : (c = 80) = False := by simp only [eq_iff_iff, iff_true, iff_false]; omega
  have t11 : (60 ≤ c) = True := by simp only [eq_iff_iff, iff_true, iff_false]; omega
  have t12 : (c ≤ 63) = False := by simp only [eq_iff_iff, iff_true, iff_false]; omega
  have t13 : (c = 58) = False := by simp only [eq_iff_iff, iff_true, iff_false]; omega
  have t14 : (c ≤ 59) = False := by simp only [eq_iff_iff, iff_true, iff_false]; omega
  have t15 : (c ≤ 57) = False := by simp only [eq_iff_iff, iff_true, iff_false]; omega
  have t16 : (c = 59) = False := by simp only [eq_iff_iff, iff_true, iff_false]; omega
  rcases h with ⟨u, B, h⟩ | _ | ⟨i⟩ | ⟨i, j⟩ | ⟨i, j⟩ | _ | ⟨m, n, d, k, any, h⟩ | ⟨m, n, d, k, any, i, h⟩ | ⟨m, n, d, k, any, i, j, h⟩ | ⟨m, n, d, k, any, l, h, hl, m', k', any', l'⟩ | ⟨t, h⟩ | ⟨t, h⟩
  all_goals simp [byteE, hk, nx_0_14, dd_0_14, nx_1_14, dd_1_14, nx_2_14, dd_2_14, nx_3_14, dd_3_14, nx_4_14, dd_4_14, nx_5_14, dd_5_14, nx_6_14, dd_6_14, nx_7_14, dd_7_14, nx_8_14, dd_8_14, nx_9_14, dd_9_14, nx_10_14, dd_10_14, nx_11_14, dd_11_14, stepE, flushE, doE, keepE, toE, BP.clear, byteP, escP, csiP, PL.text, PL.ends, PL.more, PL.flushed, pAt, badsU, zh, t0, t1, t2, t3, t4, t5, t6, t7, t8, t9, t10, t11, t12, t13, t14, t15, t16]
  all_goals (repeat' (refine And.intro ?_ ?_))
  all_goals first
    | rfl
    | exact flush_same h
    | exact AlikeE.e0
    | exact AlikeE.e1 _
    | exact AlikeE.e2 _ _
    | exact AlikeE.e3 _ _
    | exact AlikeE.c0
    | exact AlikeE.g _ _ alikeU_z
    | exact AlikeE.g _ _ (byte_alike h _).1
    | exact AlikeE.g _ _ (byte_alike alikeU_z _).1
    | exact congrArg _ (byte_alike h _).2
    | exact congrArg _ (byte_alike alikeU_z _).2
    | exact AlikeE.c1 _ _ _ _ _ h
    | exact AlikeE.c2 _ _ _ _ _ _ h
    | exact AlikeE.c3 _ _ _ _ _ _ _ h
    | exact AlikeE.c1 _ _ _ _ _ none_alike
    | exact AlikeE.c2 _ _ _ _ _ _ none_alike
    | exact AlikeE.c1 _ _ _ _ _ (AlikeN.digit h _)
    | exact AlikeE.c1 _ _ _ _ _ (AlikeN.digit none_alike _)
    | exact AlikeE.c1 _ _ _ _ _ (AlikeN.next h)
    | exact AlikeE.c1 _ _ _ _ _ (AlikeN.next none_alike)
    | exact AlikeE.o _ (by simp)
    | exact AlikeE.d _ (by simp)
    | exact AlikeE.o _ h
    | exact AlikeE.d _ h
    | exact AlikeE.c4 _ _ _ _ _ _ h (by simp) _ _ _ _
    | exact AlikeE.c4 _ _ _ _ _ _ h hl _ _ _ _
    | exact AlikeE.c4 _ _ _ _ _ _ none_alike (by simp) _ _ _ _
    | (split <;> first | exact AlikeE.c4 _ _ _ _ _ _ h hl _ _ _ _ | rfl)
    | (by_cases ht : t.length < 60 <;> simp only [ht, if_true, if_false] <;> first | exact AlikeE.o _ (by simp; omega) | exact AlikeE.d _ (by simp; omega) | exact AlikeE.o _ (by omega) | exact AlikeE.d _ (by omega) | rfl)
    | exact congrArg (fun x => eCsi m x _ _) h.take
    | fail

/-- One byte: the same acts, and alike again. -/
theorem byte_alikeE {b : BP} {p : PL} (h : AlikeE b p) (c : Nat) : AlikeE (byteE b c).1 (byteP p c).1 ∧ (byteE b c).2 = (byteP p c).2 := by
  by_cases h1 : c ≤ 31
  · by_cases e1 : c = 7
    · subst e1; exact al_bell b p h
    by_cases e2 : c = 24
    · subst e2; exact al_can b p h
    by_cases e3 : c = 26
    · subst e3; exact al_sub b p h
    by_cases e4 : c = 27
    · subst e4; exact al_begin b p h
    exact al_ctl b p h c ⟨h1, e1, e2, e3, e4⟩
  by_cases h2 : c ≤ 47
  · exact al_inter b p h c ⟨by omega, h2⟩
  by_cases h3 : c ≤ 57
  · exact al_digit b p h c ⟨by omega, h3⟩
  by_cases h4 : c = 58
  · subst h4; exact al_colon b p h
  by_cases h5 : c = 59
  · subst h5; exact al_semi b p h
  by_cases h6 : c ≤ 63
  · exact al_mark b p h c ⟨by omega, h6⟩
  by_cases h7 : c ≤ 126
  · by_cases e1 : c = 80
    · subst e1; exact al_dcs b p h
    by_cases e2 : c = 91
    · subst e2; exact al_csi b p h
    by_cases e3 : c = 93
    · subst e3; exact al_osc b p h
    exact al_final b p h c ⟨by omega, h7, e1, e2, e3⟩
  by_cases h8 : c = 127
  · subst h8; exact al_del b p h
  · exact al_high b p h c (by omega)

theorem feed_alikeE (l : List Nat) : ∀ {b : BP} {p : PL}, AlikeE b p → AlikeE (feedE b l).1 (feedP p l).1 ∧ (feedE b l).2 = (feedP p l).2 := by
  induction l with
  | nil => intro b p h; exact ⟨h, rfl⟩
  | cons c r ih =>
    intro b p h
    obtain ⟨h1, h2⟩ := byte_alikeE h c
    obtain ⟨h3, h4⟩ := ih h1
    exact ⟨h3, by simp only [feedE, feedP]; rw [h2, h4]⟩

theorem AlikeE.z : AlikeE .z (pAt 0) := AlikeE.g _ _ alikeU_z

/-- What holds of every parser of ours. -/
structure BP.Ok (b : BP) : Prop where
  s : b.s ≤ 11
  few : b.inter.length ≤ 2
  nm : b.nums.length = min b.came 8
  tx : b.text.length ≤ 60
theorem AlikeE.ok {b : BP} {p : PL} (h : AlikeE b p) : b.Ok := by
  rcases h with ⟨u, B, h⟩ | _ | ⟨i⟩ | ⟨i, j⟩ | ⟨i, j⟩ | _ | ⟨m, n, d, k, any, h⟩ | ⟨m, n, d, k, any, i, h⟩ | ⟨m, n, d, k, any, i, j, h⟩ | ⟨m, n, d, k, any, l, h, hl, m', k', any', l'⟩ | ⟨t, h⟩ | ⟨t, h⟩
  all_goals (refine ⟨by simp, ?_, ?_, ?_⟩ <;> first | (simp; done) | exact h.len | exact hl | exact h)
def BP.kept (b : BP) : Nat := b.inter.length + b.nums.length + b.text.length + b.u.half

end Go.Proofs.YtnminmaklbhakaaGreatDoor
namespace Go.Proofs.YtnminmaklbhakaaGreatDoor
set_option linter.unusedVariables false
set_option linter.unusedSimpArgs false
open Go.RowKit

/-- Blocks but one stay; of that one the cells outside lo .. hi. -/
structure SpanP (p lo hi : Nat) (w w' : World) : Prop where
  keep : Keep (· = p) w w'
  out : ∀ i, i < lo ∨ hi ≤ i → w'.cell? ⟨p, i, none⟩ = w.cell? ⟨p, i, none⟩ ∧ w'.frozen? ⟨p, i, none⟩ = w.frozen? ⟨p, i, none⟩
namespace SpanP
variable {p lo hi lo' hi' : Nat} {w w1 w2 : World}
theorem refl (p lo hi : Nat) (w : World) : SpanP p lo hi w w := ⟨Keep.refl _ _, fun _ _ => ⟨rfl, rfl⟩⟩
theorem trans (h : SpanP p lo hi w w1) (k : SpanP p lo hi w1 w2) : SpanP p lo hi w w2 :=
  ⟨h.keep.trans k.keep (fun _ _ x => x), fun i hi => ⟨(k.out i hi).1.trans (h.out i hi).1, (k.out i hi).2.trans (h.out i hi).2⟩⟩
theorem mono (h : SpanP p lo hi w w1) (h1 : lo' ≤ lo) (h2 : hi ≤ hi') : SpanP p lo' hi' w w1 := ⟨h.keep, fun i x => h.out i (by omega)⟩
theorem set (h : SpanP p lo hi w w1) (i : Nat) (h1 : lo ≤ i) (h2 : i < hi) (u : Value) : SpanP p lo hi w (w1.setCell ⟨p, i, none⟩ u) :=
  ⟨h.keep.own i u, fun j hj => ⟨(World.cell?_setCell_other _ ⟨p, i, none⟩ ⟨p, j, none⟩ _ (by simp <;> omega)).trans (h.out j hj).1, by rw [World.frozen?_setCell]; exact (h.out j hj).2⟩⟩
theorem below (h : SpanP p lo hi w w1) (hp : p < w1.heap.size) (k : Below w1.heap.size w1 w2) : SpanP p lo hi w w2 :=
  ⟨h.keep.trans (Keep.of_below (fun _ => False) k) (fun _ _ x => x.elim), fun i hi => ⟨(k.cell (p := ⟨p, i, none⟩) hp).trans (h.out i hi).1, (k.frozen (p := ⟨p, i, none⟩) hp).trans (h.out i hi).2⟩⟩
theorem drew (h : SpanP p lo hi w w1) : SpanP p lo hi w w1.drew := ⟨h.keep.drew, h.out⟩
theorem cell {i : Nat} {v : Value} (h : SpanP p lo hi w w1) (c : Cell w p i v) (hi' : i < lo ∨ hi ≤ i) : Cell w1 p i v := ⟨(h.out i hi').1.trans c.1, (h.out i hi').2.trans c.2⟩
theorem other {S : Prop} {q i : Nat} {v : Value} (h : SpanP p lo hi w w1) (c : Cell w q i v) (hq : q ≠ p) : Cell w1 q i v := c.keep h.keep hq
end SpanP

/-- Bytes, out of numbers. -/
def bytesN (l : List Nat) : ByteArray := ⟨(l.map UInt8.ofNat).toArray⟩
theorem bytesN_add (a b : List Nat) : bytesN (a ++ b) = bytesN a ++ bytesN b := by
  apply ByteArray.ext
  simp [bytesN]
theorem bytesN_size (a : List Nat) : (bytesN a).size = a.length := by
  show (bytesN a).data.size = _
  simp [bytesN]

/-- Numbers at p, q. -/
structure NumAt (w : World) (p q : Nat) (n : List Int) (c : Nat) : Prop where
  nn : ∀ k, k < 8 → Cell w p (q + k) (.int .i64 (n.getD k 0))
  cm : Cell w p (q + 8) (.int .i64 (c : Int))
  len : n.length = min c 8
  bd : ∀ x ∈ n, -1 ≤ x ∧ x ≤ 9999
theorem NumAt.drew {w : World} {p q : Nat} {n : List Int} {c : Nat} (h : NumAt w p q n c) : NumAt w.drew p q n c := ⟨h.nn, h.cm, h.len, h.bd⟩
theorem NumAt.span {w w1 : World} {p q lo hi : Nat} {n : List Int} {c : Nat} (h : NumAt w p q n c) (k : SpanP p lo hi w w1) (hq : q + 9 ≤ lo ∨ hi ≤ q) : NumAt w1 p q n c :=
  ⟨fun j hj => k.cell (h.nn j hj) (by omega), k.cell h.cm (by omega), h.len, h.bd⟩
theorem NumAt.keep {S : Nat → Prop} {w w1 : World} {p q : Nat} {n : List Int} {c : Nat} (h : NumAt w p q n c) (k : Keep S w w1) (hn : ¬ S p) : NumAt w1 p q n c :=
  ⟨fun j hj => (h.nn j hj).keep k hn, h.cm.keep k hn, h.len, h.bd⟩
theorem getD_snoc (n : List Int) (x : Int) (k : Nat) : (n ++ [x]).getD k 0 = if k = n.length then x else n.getD k 0 := by
  simp only [List.getD_eq_getElem?_getD]
  by_cases h : k = n.length
  · subst h; simp
  · rw [if_neg h]
    by_cases h2 : k < n.length
    · rw [List.getElem?_append_left h2]
    · rw [List.getElem?_eq_none (by simp; omega), List.getElem?_eq_none (by omega)]

set_option maxHeartbeats 800000 in
theorem num_add (p q : Nat) (n : List Int) (c : Nat) (w : World) (h : NumAt w p q n c) (hc : c ≤ 1000000000) :
    Calls Tryz.prog 143 #[.pointer (some ⟨p, q, none⟩)] w fun e w' => e = .returned (.tuple #[]) ∧ NumAt w' p q (addN n c).1 (addN n c).2 ∧ SpanP p q (q + 9) w w' := by
  have cc := h.cm.1
  have fc := h.cm.2
  by_cases h8 : c < 8
  · have hl : n.length = c := by rw [h.len]; omega
    have ck := (h.nn c h8).1
    have fk := (h.nn c h8).2
    have h8' : (c : Int) < 8 := by omega
    have hc0 : (0 : Int) ≤ (c : Int) := by omega
    have fin : Hid (NumAt ((w.setCell ⟨p, q + c, none⟩ (.int .i64 (-1))).setCell ⟨p, q + 8, none⟩ (.int .i64 ((c : Int) + 1))) p q (addN n c).1 (addN n c).2 ∧ SpanP p q (q + 9) w ((w.setCell ⟨p, q + c, none⟩ (.int .i64 (-1))).setCell ⟨p, q + 8, none⟩ (.int .i64 ((c : Int) + 1)))) := Lib.hid (by
      refine ⟨⟨fun k hk => ?_, ?_, ?_, ?_⟩, ((SpanP.refl p q (q + 9) w).set (q + c) (by omega) (by omega) _).set (q + 8) (by omega) (by omega) _⟩
      · refine Cell.far ?_ (by omega) _
        simp only [addN, if_pos h8, getD_snoc, hl]
        by_cases e : k = c
        · subst e; rw [if_pos rfl]; exact (h.nn k hk).set _
        · rw [if_neg e]; exact (h.nn k hk).far (by omega) _
      · simp only [addN, Int.natCast_add, Int.natCast_one]
        exact (h.cm.far (by omega) _).set _
      · simp only [addN, if_pos h8]; simp; omega
      · simp only [addN, if_pos h8]; intro x hx; rcases List.mem_append.1 hx with hx | hx; exact h.bd x hx; simp at hx; omega)
    clear h
    go_enter Tryz.func143, Tryz.ntmps143
    go_wp2_with fail
    go_region_law (first | fail)
    all_goals
      go_wp2_with fail
      go_end0
      exact ⟨rfl, fin.out.1.drew, fin.out.2.drew⟩
  · have h8' : ¬ (c : Int) < 8 := by omega
    have fin : Hid (NumAt (w.setCell ⟨p, q + 8, none⟩ (.int .i64 ((c : Int) + 1))) p q (addN n c).1 (addN n c).2 ∧ SpanP p q (q + 9) w (w.setCell ⟨p, q + 8, none⟩ (.int .i64 ((c : Int) + 1)))) := Lib.hid (by
      refine ⟨⟨fun k hk => ?_, ?_, ?_, ?_⟩, (SpanP.refl p q (q + 9) w).set (q + 8) (by omega) (by omega) _⟩
      · simp only [addN, if_neg h8]; exact (h.nn k hk).far (by omega) _
      · simp only [addN, Int.natCast_add, Int.natCast_one]
        exact h.cm.set _
      · simp only [addN, if_neg h8]; rw [h.len]; omega
      · simp only [addN, if_neg h8]; exact h.bd)
    clear h
    go_enter Tryz.func143, Tryz.ntmps143
    go_wp2_with fail
    go_end0
    exact ⟨rfl, fin.out⟩

set_option maxHeartbeats 800000 in
theorem num_begin (p q : Nat) (n : List Int) (c : Nat) (w : World) (h : NumAt w p q n c) (hc : c ≤ 1000000000) :
    Calls Tryz.prog 142 #[.pointer (some ⟨p, q, none⟩)] w fun e w' => e = .returned (.tuple #[]) ∧ NumAt w' p q (beginN n c).1 (beginN n c).2 ∧ SpanP p q (q + 9) w w' := by
  have cc := h.cm.1
  by_cases h0 : c = 0
  · subst h0
    have H := Lib.hid (num_add p q n 0 w h hc)
    have e : beginN n 0 = addN n 0 := by unfold beginN; rw [if_pos rfl]
    rw [e]
    clear h e
    have cc : w.cell? ⟨p, q + 8, none⟩ = some (.int .i64 0) := cc
    go_enter Tryz.func142, Tryz.ntmps142
    go_wp2_with fail
    refine H.out.mono ?_
    rintro e w1 ⟨rfl, h1, h2⟩
    have H1 := Lib.hid h1
    have H2 := Lib.hid h2
    clear h1 h2
    go_wp2_with fail
    go_end0
    exact ⟨rfl, H1.out, H2.out⟩
  · have e : beginN n c = (n, c) := by unfold beginN; rw [if_neg h0]
    rw [e]
    have h0' : ((c : Int) == 0) = false := by simp; omega
    have H := Lib.hid h
    clear h e
    go_enter Tryz.func142, Tryz.ntmps142
    go_wp2_with fail
    go_end0
    exact ⟨rfl, H.out, SpanP.refl _ _ _ _⟩

theorem beginN_le (n : List Int) (c : Nat) : (beginN n c).2 ≤ c + 1 := by
  unfold beginN addN; split <;> simp
theorem beginN_pos (n : List Int) (c : Nat) : 0 < (beginN n c).2 := by
  unfold beginN addN; split <;> simp <;> omega

set_option maxHeartbeats 800000 in
theorem num_next (p q : Nat) (n : List Int) (c : Nat) (w : World) (h : NumAt w p q n c) (hc : c < 1000000000) :
    Calls Tryz.prog 116 #[.pointer (some ⟨p, q, none⟩)] w fun e w' => e = .returned (.tuple #[]) ∧ NumAt w' p q (nextN n c).1 (nextN n c).2 ∧ SpanP p q (q + 9) w w' := by
  have H := Lib.hid (num_begin p q n c w h (by omega))
  have hb := beginN_le n c
  clear h
  go_enter Tryz.func116, Tryz.ntmps116
  go_wp2_with fail
  refine H.out.mono ?_
  rintro e w1 ⟨rfl, h1, h2⟩
  have H1 := Lib.hid (num_add p q _ _ w1 h1 (by omega))
  have H2 := Lib.hid h2
  clear h1 h2
  go_wp2_with fail
  refine H1.out.mono ?_
  rintro e w2 ⟨rfl, h1, h3⟩
  have H3 := Lib.hid h1
  have H4 := Lib.hid h3
  clear h1 h3
  go_wp2_with fail
  go_end0
  exact ⟨rfl, H3.out, H2.out.trans H4.out⟩

set_option maxHeartbeats 800000 in
theorem num_kept (p q : Nat) (n : List Int) (c : Nat) (w : World) (h : NumAt w p q n c) :
    Calls Tryz.prog 114 #[.pointer (some ⟨p, q, none⟩)] w fun e w' => e = .returned (.int .i64 (n.length : Nat)) ∧ w' = w := by
  have cc := h.cm.1
  have hl : min (c : Int) 8 = (n.length : Int) := by rw [h.len]; omega
  clear h
  go_enter Tryz.func114, Tryz.ntmps114
  go_wp2_with fail
  go_ret
  exact ⟨rfl, rfl⟩

set_option maxHeartbeats 1600000 in
theorem num_digit (p q : Nat) (n : List Int) (c d : Nat) (w : World) (h : NumAt w p q n c) (hc : c ≤ 1000000000) (hd : d ≤ 9) :
    Calls Tryz.prog 115 #[.pointer (some ⟨p, q, none⟩), .int .i64 (d : Int)] w fun e w' => e = .returned (.tuple #[]) ∧ NumAt w' p q (digitN n c d).1 (digitN n c d).2 ∧ SpanP p q (q + 9) w w' := by
  have H := Lib.hid (num_begin p q n c w h hc)
  have hpos := beginN_pos n c
  have hbl := beginN_le n c
  have HD : Hid (digitN n c d = (if (beginN n c).2 ≤ 8 then digitL (beginN n c).1 d else (beginN n c).1, (beginN n c).2)) := rfl
  generalize beginN n c = x at *
  obtain ⟨n1, c1⟩ := x
  simp only at hpos hbl HD H
  rw [HD.out]
  simp only
  clear h HD
  by_cases h8 : c1 ≤ 8
  · rw [if_pos h8]
    go_enter Tryz.func115, Tryz.ntmps115
    go_wp2_with fail
    refine H.out.mono ?_
    rintro e w1 ⟨rfl, h1, h2⟩
    have H2 := Lib.hid h2
    clear h2
    have cc := h1.cm.1
    have hl : n1.length = c1 := by rw [h1.len]; omega
    obtain ⟨k, rfl⟩ : ∃ k, c1 = k + 1 := ⟨c1 - 1, by omega⟩
    obtain ⟨L, hL⟩ : ∃ L, n1.getD k 0 = L := ⟨_, rfl⟩
    have ck := (h1.nn k (by omega)).1
    have fk := (h1.nn k (by omega)).2
    rw [hL] at ck
    have hLb : -1 ≤ L ∧ L ≤ 9999 := by
      rw [← hL, List.getD_eq_getElem?_getD, List.getElem?_eq_getElem (by omega)]
      exact h1.bd _ (List.getElem_mem _)
    have hlast : n1.getLastD (-1) = L := by
      rw [← hL, List.getD_eq_getElem?_getD, List.getLastD_eq_getLast?, List.getLast?_eq_getElem?, hl, show k + 1 - 1 = k by omega, List.getElem?_eq_getElem (by omega)]
      rfl
    have fin : Hid (NumAt (w1.setCell ⟨p, q + k, none⟩ (.int .i64 (min (max L 0 * 10 + (d : Int)) 9999))) p q (digitL n1 d) (k + 1) ∧ SpanP p q (q + 9) w1 (w1.setCell ⟨p, q + k, none⟩ (.int .i64 (min (max L 0 * 10 + (d : Int)) 9999)))) := Lib.hid (by
      have hdl : n1.dropLast.length = k := by rw [List.length_dropLast, hl]; rfl
      refine ⟨⟨fun j hj => ?_, h1.cm.far (by omega) _, by rw [digitL_len _ _ (by omega), h1.len], ?_⟩, (SpanP.refl p q (q + 9) w1).set (q + k) (by omega) (by omega) _⟩
      · unfold digitL
        rw [getD_snoc, hdl, hlast]
        by_cases e : j = k
        · subst e; rw [if_pos rfl]; exact (h1.nn j hj).set _
        · rw [if_neg e]
          have e2 : n1.dropLast.getD j 0 = if j < k then n1.getD j 0 else 0 := by
            rw [List.getD_eq_getElem?_getD, List.dropLast_eq_take, List.getElem?_take, hl]
            simp only [Nat.add_sub_cancel]
            split
            · rw [List.getD_eq_getElem?_getD]
            · rfl
          rw [e2]
          have e3 : (if j < k then n1.getD j 0 else 0) = n1.getD j 0 := by
            split
            · rfl
            · rw [List.getD_eq_getElem?_getD, List.getElem?_eq_none (by omega)]; rfl
          rw [e3]
          exact (h1.nn j hj).far (by omega) _
      · unfold digitL
        rw [hlast]
        intro x hx
        rcases List.mem_append.1 hx with hx | hx
        · rw [List.dropLast_eq_take] at hx; exact h1.bd x (List.mem_of_mem_take hx)
        · simp at hx; omega)
    have h8' : ((k + 1 : Nat) : Int) ≤ 8 := by omega
    have h8'' : (k : Int) + 1 ≤ 8 := by omega
    have hk0 : (0 : Int) ≤ (k : Int) := by omega
    have hk8 : (k : Int) < 8 := by omega
    have hx1 : IntKind.i64.wrap ((k : Int) + 1 - 1) = (k : Int) := by rw [IntWalk.i64_in _ (by omega)]; omega
    have hx2 : IntKind.i64.wrap (k : Int) = (k : Int) := IntWalk.i64_in _ (by omega)
    have cc2 : w1.cell? ⟨p, q + 8, none⟩ = some (.int .i64 ((k : Int) + 1)) := cc
    clear h1 cc hL hlast hl h8
    go_wp2_with fail
    go_region_law (first | fail)
    all_goals
      go_wp2_with fail
      go_end0
      first | exact ⟨rfl, fin.out.1, H2.out.trans fin.out.2⟩ | exact ⟨rfl, fin.out.1.drew, (H2.out.trans fin.out.2).drew⟩
  · rw [if_neg h8]
    go_enter Tryz.func115, Tryz.ntmps115
    go_wp2_with fail
    refine H.out.mono ?_
    rintro e w1 ⟨rfl, h1, h2⟩
    have H2 := Lib.hid h2
    clear h2
    have cc := h1.cm.1
    have h8' : ¬ (c1 : Int) ≤ 8 := by omega
    have H1 := Lib.hid h1
    clear h1
    go_wp2_with fail
    go_end0
    exact ⟨rfl, H1.out, H2.out⟩

end Go.Proofs.YtnminmaklbhakaaGreatDoor
namespace Go.Proofs.YtnminmaklbhakaaGreatDoor
set_option linter.unusedVariables false
set_option linter.unusedSimpArgs false
open Go.RowKit

set_option maxHeartbeats 800000 in
theorem esc_textOf (c : Nat) (w : World) (hc : c < 256) :
    Calls Tryz.prog 84 #[.int .i64 (c : Int)] w fun e w' => e = .returned (.string (bytesN [c])) ∧ Below w.heap.size w w' := by
  have hw : IntKind.u8.wrap (c : Int) = ((UInt8.ofNat c).toNat : Int) := u8_of hc
  have hr := run_own_string (P := Tryz.prog) (w := w.alloc (.cells #[.int .u8 ((UInt8.ofNat c).toNat : Int)] 5)) (base := 0) (e := 5) (t := 83) (u := 9) (c := 1) (A := some ⟨w.heap.size, 0, none⟩) (l := [UInt8.ofNat c])
    ⟨rfl, .inr ⟨w.heap.size, 1, #[.int .u8 ((UInt8.ofNat c).toNat : Int)], rfl, Nat.zero_le _, heap_alloc_new w _, by simp, by unfold maxLen; omega, by simp, by simp [byteCells_one]⟩⟩ Tryz.underlying83 Tryz.underlying5 Tryz.underlying9
  have hs : (⟨[UInt8.ofNat c].toArray⟩ : ByteArray) = bytesN [c] := rfl
  rw [hs] at hr
  obtain ⟨u, hu⟩ : ∃ u : Int, ((UInt8.ofNat c).toNat : Int) = u := ⟨_, rfl⟩
  rw [hu] at hw hr
  obtain ⟨S, hS⟩ : ∃ S, bytesN [c] = S := ⟨_, rfl⟩
  rw [hS] at hr ⊢
  have hr : (convert 83 9 (.slice (some ⟨w.heap.size, 0, none⟩) 1 1)).run Tryz.prog (w.alloc (.cells #[.int .u8 u] 5)) = .ok (.string S) (w.alloc (.cells #[.int .u8 u] 5)) := hr
  clear hu hS hs
  go_enter Tryz.func84, Tryz.ntmps84
  go_wp2_with fail
  go_ret
  exact ⟨rfl, (Below.refl _ w).alloc (Nat.le_refl _) _⟩

set_option maxHeartbeats 800000 in
theorem kindControl_7 (w : World) : Calls Tryz.prog 61 #[.int .u8 7] w fun e w' => e = .returned (.int .u8 1) ∧ w' = w := by
  go_enter Tryz.func61, Tryz.ntmps61
  go_wp2_with fail
  go_ret
  exact ⟨rfl, rfl⟩

set_option maxHeartbeats 800000 in
theorem kindControl_24 (w : World) : Calls Tryz.prog 61 #[.int .u8 24] w fun e w' => e = .returned (.int .u8 2) ∧ w' = w := by
  go_enter Tryz.func61, Tryz.ntmps61
  go_wp2_with fail
  go_ret
  exact ⟨rfl, rfl⟩

set_option maxHeartbeats 800000 in
theorem kindControl_26 (w : World) : Calls Tryz.prog 61 #[.int .u8 26] w fun e w' => e = .returned (.int .u8 2) ∧ w' = w := by
  go_enter Tryz.func61, Tryz.ntmps61
  go_wp2_with fail
  go_ret
  exact ⟨rfl, rfl⟩

set_option maxHeartbeats 800000 in
theorem kindControl_27 (w : World) : Calls Tryz.prog 61 #[.int .u8 27] w fun e w' => e = .returned (.int .u8 3) ∧ w' = w := by
  go_enter Tryz.func61, Tryz.ntmps61
  go_wp2_with fail
  go_ret
  exact ⟨rfl, rfl⟩

set_option maxHeartbeats 800000 in
theorem kindControl_else (c : Nat) (w : World) (h : c ≠ 7 ∧ c ≠ 24 ∧ c ≠ 26 ∧ c ≠ 27) : Calls Tryz.prog 61 #[.int .u8 (c : Int)] w fun e w' => e = .returned (.int .u8 0) ∧ w' = w := by
  have t7 : ((c : Int) == 7) = false := by simp; omega
  have t24 : ((c : Int) == 24) = false := by simp; omega
  have t26 : ((c : Int) == 26) = false := by simp; omega
  have t27 : ((c : Int) == 27) = false := by simp; omega
  clear h
  go_enter Tryz.func61, Tryz.ntmps61
  go_wp2_with fail
  go_ret
  exact ⟨rfl, rfl⟩

set_option maxHeartbeats 800000 in
theorem kindFinal_80 (w : World) : Calls Tryz.prog 62 #[.int .u8 80] w fun e w' => e = .returned (.int .u8 10) ∧ w' = w := by
  go_enter Tryz.func62, Tryz.ntmps62
  go_wp2_with fail
  go_ret
  exact ⟨rfl, rfl⟩

set_option maxHeartbeats 800000 in
theorem kindFinal_91 (w : World) : Calls Tryz.prog 62 #[.int .u8 91] w fun e w' => e = .returned (.int .u8 11) ∧ w' = w := by
  go_enter Tryz.func62, Tryz.ntmps62
  go_wp2_with fail
  go_ret
  exact ⟨rfl, rfl⟩

set_option maxHeartbeats 800000 in
theorem kindFinal_93 (w : World) : Calls Tryz.prog 62 #[.int .u8 93] w fun e w' => e = .returned (.int .u8 12) ∧ w' = w := by
  go_enter Tryz.func62, Tryz.ntmps62
  go_wp2_with fail
  go_ret
  exact ⟨rfl, rfl⟩

set_option maxHeartbeats 800000 in
theorem kindFinal_else (c : Nat) (w : World) (h : c ≠ 80 ∧ c ≠ 91 ∧ c ≠ 93) : Calls Tryz.prog 62 #[.int .u8 (c : Int)] w fun e w' => e = .returned (.int .u8 9) ∧ w' = w := by
  have t80 : ((c : Int) == 80) = false := by simp; omega
  have t91 : ((c : Int) == 91) = false := by simp; omega
  have t93 : ((c : Int) == 93) = false := by simp; omega
  clear h
  go_enter Tryz.func62, Tryz.ntmps62
  go_wp2_with fail
  go_ret
  exact ⟨rfl, rfl⟩

set_option maxHeartbeats 800000 in
theorem kindOf_c7 (w : World) : Calls Tryz.prog 42 #[.int .u8 7] w fun e w' => e = .returned (.int .u8 1) ∧ w' = w := by
  go_enter Tryz.func42, Tryz.ntmps42
  go_wp2_with fail
  refine (kindControl_7 _).mono ?_
  rintro e w1 ⟨rfl, rfl⟩
  go_wp2_with fail
  go_ret
  exact ⟨rfl, rfl⟩

set_option maxHeartbeats 800000 in
theorem kindOf_c24 (w : World) : Calls Tryz.prog 42 #[.int .u8 24] w fun e w' => e = .returned (.int .u8 2) ∧ w' = w := by
  go_enter Tryz.func42, Tryz.ntmps42
  go_wp2_with fail
  refine (kindControl_24 _).mono ?_
  rintro e w1 ⟨rfl, rfl⟩
  go_wp2_with fail
  go_ret
  exact ⟨rfl, rfl⟩

set_option maxHeartbeats 800000 in
theorem kindOf_c26 (w : World) : Calls Tryz.prog 42 #[.int .u8 26] w fun e w' => e = .returned (.int .u8 2) ∧ w' = w := by
  go_enter Tryz.func42, Tryz.ntmps42
  go_wp2_with fail
  refine (kindControl_26 _).mono ?_
  rintro e w1 ⟨rfl, rfl⟩
  go_wp2_with fail
  go_ret
  exact ⟨rfl, rfl⟩

set_option maxHeartbeats 800000 in
theorem kindOf_c27 (w : World) : Calls Tryz.prog 42 #[.int .u8 27] w fun e w' => e = .returned (.int .u8 3) ∧ w' = w := by
  go_enter Tryz.func42, Tryz.ntmps42
  go_wp2_with fail
  refine (kindControl_27 _).mono ?_
  rintro e w1 ⟨rfl, rfl⟩
  go_wp2_with fail
  go_ret
  exact ⟨rfl, rfl⟩

set_option maxHeartbeats 800000 in
theorem kindOf_ctl (c : Nat) (w : World) (h : c ≤ 31 ∧ c ≠ 7 ∧ c ≠ 24 ∧ c ≠ 26 ∧ c ≠ 27) : Calls Tryz.prog 42 #[.int .u8 (c : Int)] w fun e w' => e = .returned (.int .u8 0) ∧ w' = w := by
  have l31 : (c : Int) ≤ 31 := by omega
  go_enter Tryz.func42, Tryz.ntmps42
  go_wp2_with fail
  refine (kindControl_else c _ h.2).mono ?_
  rintro e w1 ⟨rfl, rfl⟩
  go_wp2_with fail
  go_ret
  exact ⟨rfl, rfl⟩

set_option maxHeartbeats 800000 in
theorem kindOf_inter (c : Nat) (w : World) (h : 31 < c ∧ c ≤ 47) : Calls Tryz.prog 42 #[.int .u8 (c : Int)] w fun e w' => e = .returned (.int .u8 4) ∧ w' = w := by
  have l31 : ¬ (c : Int) ≤ 31 := by omega
  have l47 : (c : Int) ≤ 47 := by omega
  go_enter Tryz.func42, Tryz.ntmps42
  go_wp2_with fail
  go_ret
  exact ⟨rfl, rfl⟩

set_option maxHeartbeats 800000 in
theorem kindOf_digit (c : Nat) (w : World) (h : 47 < c ∧ c ≤ 57) : Calls Tryz.prog 42 #[.int .u8 (c : Int)] w fun e w' => e = .returned (.int .u8 5) ∧ w' = w := by
  have l31 : ¬ (c : Int) ≤ 31 := by omega
  have l47 : ¬ (c : Int) ≤ 47 := by omega
  have l57 : (c : Int) ≤ 57 := by omega
  go_enter Tryz.func42, Tryz.ntmps42
  go_wp2_with fail
  go_ret
  exact ⟨rfl, rfl⟩

set_option maxHeartbeats 800000 in
theorem kindOf_c58 (w : World) : Calls Tryz.prog 42 #[.int .u8 58] w fun e w' => e = .returned (.int .u8 6) ∧ w' = w := by
  go_enter Tryz.func42, Tryz.ntmps42
  go_wp2_with fail
  go_ret
  exact ⟨rfl, rfl⟩

set_option maxHeartbeats 800000 in
theorem kindOf_c59 (w : World) : Calls Tryz.prog 42 #[.int .u8 59] w fun e w' => e = .returned (.int .u8 7) ∧ w' = w := by
  go_enter Tryz.func42, Tryz.ntmps42
  go_wp2_with fail
  go_ret
  exact ⟨rfl, rfl⟩

set_option maxHeartbeats 800000 in
theorem kindOf_mark (c : Nat) (w : World) (h : 59 < c ∧ c ≤ 63) : Calls Tryz.prog 42 #[.int .u8 (c : Int)] w fun e w' => e = .returned (.int .u8 8) ∧ w' = w := by
  have l31 : ¬ (c : Int) ≤ 31 := by omega
  have l47 : ¬ (c : Int) ≤ 47 := by omega
  have l57 : ¬ (c : Int) ≤ 57 := by omega
  have e58 : ((c : Int) == 58) = false := by simp; omega
  have e59 : ((c : Int) == 59) = false := by simp; omega
  have l63 : (c : Int) ≤ 63 := by omega
  go_enter Tryz.func42, Tryz.ntmps42
  go_wp2_with fail
  go_ret
  exact ⟨rfl, rfl⟩

set_option maxHeartbeats 800000 in
theorem kindOf_c80 (w : World) : Calls Tryz.prog 42 #[.int .u8 80] w fun e w' => e = .returned (.int .u8 10) ∧ w' = w := by
  go_enter Tryz.func42, Tryz.ntmps42
  go_wp2_with fail
  refine (kindFinal_80 _).mono ?_
  rintro e w1 ⟨rfl, rfl⟩
  go_wp2_with fail
  go_ret
  exact ⟨rfl, rfl⟩

set_option maxHeartbeats 800000 in
theorem kindOf_c91 (w : World) : Calls Tryz.prog 42 #[.int .u8 91] w fun e w' => e = .returned (.int .u8 11) ∧ w' = w := by
  go_enter Tryz.func42, Tryz.ntmps42
  go_wp2_with fail
  refine (kindFinal_91 _).mono ?_
  rintro e w1 ⟨rfl, rfl⟩
  go_wp2_with fail
  go_ret
  exact ⟨rfl, rfl⟩

set_option maxHeartbeats 800000 in
theorem kindOf_c93 (w : World) : Calls Tryz.prog 42 #[.int .u8 93] w fun e w' => e = .returned (.int .u8 12) ∧ w' = w := by
  go_enter Tryz.func42, Tryz.ntmps42
  go_wp2_with fail
  refine (kindFinal_93 _).mono ?_
  rintro e w1 ⟨rfl, rfl⟩
  go_wp2_with fail
  go_ret
  exact ⟨rfl, rfl⟩

set_option maxHeartbeats 800000 in
theorem kindOf_final (c : Nat) (w : World) (h : 63 < c ∧ c ≤ 126 ∧ c ≠ 80 ∧ c ≠ 91 ∧ c ≠ 93) : Calls Tryz.prog 42 #[.int .u8 (c : Int)] w fun e w' => e = .returned (.int .u8 9) ∧ w' = w := by
  have l31 : ¬ (c : Int) ≤ 31 := by omega
  have l47 : ¬ (c : Int) ≤ 47 := by omega
  have l57 : ¬ (c : Int) ≤ 57 := by omega
  have e58 : ((c : Int) == 58) = false := by simp; omega
  have e59 : ((c : Int) == 59) = false := by simp; omega
  have l63 : ¬ (c : Int) ≤ 63 := by omega
  have l126 : (c : Int) ≤ 126 := by omega
  go_enter Tryz.func42, Tryz.ntmps42
  go_wp2_with fail
  refine (kindFinal_else c _ ⟨h.2.2.1, h.2.2.2.1, h.2.2.2.2⟩).mono ?_
  rintro e w1 ⟨rfl, rfl⟩
  go_wp2_with fail
  go_ret
  exact ⟨rfl, rfl⟩

set_option maxHeartbeats 800000 in
theorem kindOf_c127 (w : World) : Calls Tryz.prog 42 #[.int .u8 127] w fun e w' => e = .returned (.int .u8 13) ∧ w' = w := by
  go_enter Tryz.func42, Tryz.ntmps42
  go_wp2_with fail
  go_ret
  exact ⟨rfl, rfl⟩

set_option maxHeartbeats 800000 in
theorem kindOf_high (c : Nat) (w : World) (h : 127 < c) : Calls Tryz.prog 42 #[.int .u8 (c : Int)] w fun e w' => e = .returned (.int .u8 14) ∧ w' = w := by
  have l31 : ¬ (c : Int) ≤ 31 := by omega
  have l47 : ¬ (c : Int) ≤ 47 := by omega
  have l57 : ¬ (c : Int) ≤ 57 := by omega
  have e58 : ((c : Int) == 58) = false := by simp; omega
  have e59 : ((c : Int) == 59) = false := by simp; omega
  have l63 : ¬ (c : Int) ≤ 63 := by omega
  have l126 : ¬ (c : Int) ≤ 126 := by omega
  have e127 : ((c : Int) == 127) = false := by simp; omega
  go_enter Tryz.func42, Tryz.ntmps42
  go_wp2_with fail
  go_ret
  exact ⟨rfl, rfl⟩

theorem esc_kindOf (c : Nat) (w : World) :
    Calls Tryz.prog 42 #[.int .u8 (c : Int)] w fun e w' => e = .returned (.int .u8 (kindL c : Int)) ∧ w' = w := by
  by_cases h1 : c ≤ 31
  · by_cases e1 : c = 7
    · subst e1; exact kindOf_c7 w
    by_cases e2 : c = 24
    · subst e2; exact kindOf_c24 w
    by_cases e3 : c = 26
    · subst e3; exact kindOf_c26 w
    by_cases e4 : c = 27
    · subst e4; exact kindOf_c27 w
    rw [kind_ctl c ⟨h1, e1, e2, e3, e4⟩]; exact kindOf_ctl c w ⟨h1, e1, e2, e3, e4⟩
  by_cases h2 : c ≤ 47
  · rw [kind_inter c ⟨by omega, h2⟩]; exact kindOf_inter c w ⟨by omega, h2⟩
  by_cases h3 : c ≤ 57
  · rw [kind_digit c ⟨by omega, h3⟩]; exact kindOf_digit c w ⟨by omega, h3⟩
  by_cases h4 : c = 58
  · subst h4; exact kindOf_c58 w
  by_cases h5 : c = 59
  · subst h5; exact kindOf_c59 w
  by_cases h6 : c ≤ 63
  · rw [kind_mark c ⟨by omega, h6⟩]; exact kindOf_mark c w ⟨by omega, h6⟩
  by_cases h7 : c ≤ 126
  · by_cases e1 : c = 80
    · subst e1; exact kindOf_c80 w
    by_cases e2 : c = 91
    · subst e2; exact kindOf_c91 w
    by_cases e3 : c = 93
    · subst e3; exact kindOf_c93 w
    rw [kind_final c ⟨by omega, h7, e1, e2, e3⟩]; exact kindOf_final c w ⟨by omega, h7, e1, e2, e3⟩
  by_cases h8 : c = 127
  · subst h8; exact kindOf_c127 w
  · rw [kind_high c (by omega)]; exact kindOf_high c w (by omega)

set_option maxRecDepth 100000 in
set_option maxHeartbeats 1600000 in
theorem num_all (p q : Nat) (n : List Int) (c : Nat) (w : World) (h : NumAt w p q n c) :
    Calls Tryz.prog 85 #[.pointer (some ⟨p, q, none⟩)] w fun e w' => ∃ A d, e = .returned (.slice A n.length d) ∧ w'.ownsRow w.heap.size 3 1 (.slice A n.length d) n.length (n.map (Value.int .i64)) ∧ Below w.heap.size w w' := by
  obtain ⟨i0, hi, hz0, hz1, hz2⟩ := info_parts int_info
  have hlt : p < w.heap.size := h.cm.lt
  have hl8 : n.length ≤ 8 := by rw [h.len]; omega
  have hsrc : ∀ W : World, (∀ k, k < 8 → W.cell? ⟨p, q + k, none⟩ = w.cell? ⟨p, q + k, none⟩) → p < W.heap.size → Src W (some ⟨p, q, none⟩) n.length (n.map (Value.int .i64)) := fun W hW hp => ⟨by simp, fun h0 => ⟨p, q, rfl, hp, fun i v hv => by
    rw [List.getElem?_map] at hv
    obtain ⟨x, hx, rfl⟩ := Option.map_eq_some_iff.1 hv
    have hi' : i < n.length := by
      rcases Nat.lt_or_ge i n.length with e | e
      · exact e
      · rw [List.getElem?_eq_none e] at hx; cases hx
    rw [hW i (by omega), (h.nn i (by omega)).1, List.getD_eq_getElem?_getD, hx]
    rfl⟩⟩
  obtain ⟨v, w1, hr, h1, h2⟩ := run_copy_src (P := Tryz.prog) w.drew 40 40 3 i0 (.int .i64 0) 8 Tryz.underlying40 hi hz0 hz1 hz2 rfl (some ⟨p, q, none⟩) n.length 8 _ (hsrc w.drew (fun _ _ => rfl) hlt) (by intro u hu; obtain ⟨x, _, rfl⟩ := List.mem_map.1 hu; rfl) (by unfold maxLen; omega) (by omega)
  have HR := Lib.hid hr
  have H1 := Lib.hid h1
  have H2 := Lib.hid h2
  have HK := Lib.hid (fun W h => num_kept p q n c W h)
  have HN := Lib.hid h
  have hal : Tryz.prog.arrayLen 61 = 8 := by kernel_rfl
  have hn0 : (0 : Int) ≤ (n.length : Int) := by omega
  have hn8 : (n.length : Int) ≤ 8 := by omega
  have hsl : ∀ W : World, (Instr.sliceAt 61 (.pointer (some ⟨p, q, none⟩)) none (some (.int .i64 (n.length : Int))) none).run Tryz.prog W = .ok (.slice (some ⟨p, q, none⟩) n.length 8) W := fun W => by
    have hsz : (sizeOf (Tryz.prog.elem 61)).run Tryz.prog W = .ok 1 W := by kernel_rfl
    have hul : Tryz.prog.underlying 61 = some (.array (Tryz.prog.arrayLen 61) (Tryz.prog.elem 61)) := by kernel_rfl
    rw [run_sliceAt_array_h W 61 ⟨p, q, none⟩ hul .i64 (n.length : Int) hn0 (by rw [hal]; exact hn8), hsz, hal]
    simp [slicedAt, Result.andThen_ok, add_mk]
  clear hr h1 h2 h hsrc
  go_enter Tryz.func85, Tryz.ntmps85
  go_wp2_with fail
  refine wp_region_noPanic ?_
  refine wp_region_held_drew (S := fun w' => True) (by kernel_rfl) trivial (fun hHeld => ?_)
  refine wpAnyH_take (i := 0) (oi := _) (v := ?va0) rfl (by kernel_rfl) (by kernel_rfl) (by kernel_rfl) (fun _ _ _ h => h) (Or.inl ⟨by rfl, ?hya0⟩) (by assumption) ?resta0
  case hya0 => (intro w hSw; (try dsimp only at hSw); (try simp only [List.getElem_toArray, List.getElem_cons_zero, List.getElem_cons_succ]); go_simp; (try with_reducible rfl))
  (try simp only [Act.put, List.setIfInBounds_toArray, List.set_cons_zero, List.set_cons_succ, List.getElem_toArray, List.getElem_cons_zero, List.getElem_cons_succ])
  refine wpAnyH_take (i := 1) (oi := _) (v := ?va1) rfl (by kernel_rfl) (by kernel_rfl) (by kernel_rfl) (fun _ _ _ h => h) (Or.inl ⟨by rfl, ?hya1⟩) (by assumption) ?resta1
  case hya1 => (intro w hSw; (try dsimp only at hSw); (try simp only [List.getElem_toArray, List.getElem_cons_zero, List.getElem_cons_succ]); go_simp; (try with_reducible rfl))
  (try simp only [Act.put, List.setIfInBounds_toArray, List.set_cons_zero, List.set_cons_succ, List.getElem_toArray, List.getElem_cons_zero, List.getElem_cons_succ])
  refine wpAnyH_take (i := 2) (oi := _) (v := ?va2) rfl (by kernel_rfl) (by kernel_rfl) (by kernel_rfl) (fun _ _ _ h => h) (Or.inl ⟨by rfl, ?hya2⟩) (by assumption) ?resta2
  case hya2 => (intro w hSw; (try dsimp only at hSw); (try simp only [List.getElem_toArray, List.getElem_cons_zero, List.getElem_cons_succ]); go_simp; (try with_reducible rfl))
  (try simp only [Act.put, List.setIfInBounds_toArray, List.set_cons_zero, List.set_cons_succ, List.getElem_toArray, List.getElem_cons_zero, List.getElem_cons_succ])
  refine wpAnyH_take (i := 3) (oi := _) (v := ?va3) rfl (by kernel_rfl) (by kernel_rfl) (by kernel_rfl) (fun _ _ _ h => h) (Or.inl ⟨by rfl, ?hya3⟩) (by assumption) ?resta3
  case hya3 => (intro w hSw; (try dsimp only at hSw); (try simp only [List.getElem_toArray, List.getElem_cons_zero, List.getElem_cons_succ]); go_simp; (try with_reducible rfl))
  (try simp only [Act.put, List.setIfInBounds_toArray, List.set_cons_zero, List.set_cons_succ, List.getElem_toArray, List.getElem_cons_zero, List.getElem_cons_succ])
  refine wpAnyH_ready (rs := [4]) (by kernel_rfl) (by simp) ?_
  refine AllReadyH.cons (o := _) rfl (fun K hK => ?_) AllReadyH.nil
  (try simp only [List.getElem_toArray, List.getElem_cons_zero, List.getElem_cons_succ])
  go_simp
  refine (HK.out _ HN.out.drew).mono ?_; rintro e w2 ⟨rfl, rfl⟩
  refine hK.out _ _ ?_ (fun hHeld => ?_)
  · trivial
  clear hK K
  (try simp only [Act.put, List.setIfInBounds_toArray, List.set_cons_zero, List.set_cons_succ, List.getElem_toArray, List.getElem_cons_zero, List.getElem_cons_succ])
  refine wpAnyH_take (i := 5) (oi := _) (v := ?va5) rfl (by kernel_rfl) (by kernel_rfl) (by kernel_rfl) (fun _ _ _ h => h) (Or.inl ⟨by rfl, ?hya5⟩) (by assumption) ?resta5
  case hya5 => (intro w hSw; (try dsimp only at hSw); (try simp only [List.getElem_toArray, List.getElem_cons_zero, List.getElem_cons_succ]); go_simp; (try with_reducible rfl))
  (try simp only [Act.put, List.setIfInBounds_toArray, List.set_cons_zero, List.set_cons_succ, List.getElem_toArray, List.getElem_cons_zero, List.getElem_cons_succ])
  refine wpAnyH_ready (rs := [6]) (by kernel_rfl) (by simp) ?_
  refine AllReadyH.cons (o := _) rfl (fun K hK => ?_) AllReadyH.nil
  (try simp only [List.getElem_toArray, List.getElem_cons_zero, List.getElem_cons_succ])
  rw [if_pos (by rfl)]; unfold Oper.wp execOp; simp only [resolve, invoke, builtin, Sem.run_bind, Sem.run_pure, Result.andThen_ok, List.map_toArray, List.map_cons, List.map_nil]; rw [show (Builtin.append_ _ _ #[Act.eval _ _, Act.eval _ _]).run _ _ = _ from HR.out]
  refine hK.out _ _ ?_ (fun hHeld => ?_)
  · trivial
  clear hK K
  (try simp only [Act.put, List.setIfInBounds_toArray, List.set_cons_zero, List.set_cons_succ, List.getElem_toArray, List.getElem_cons_zero, List.getElem_cons_succ])
  refine wpAnyH_take (i := 7) (oi := _) (v := ?va7) rfl (by kernel_rfl) (by kernel_rfl) (by kernel_rfl) (fun _ _ _ h => h) (Or.inl ⟨by rfl, ?hya7⟩) (by assumption) ?resta7
  case hya7 => (intro w hSw; (try dsimp only at hSw); (try simp only [List.getElem_toArray, List.getElem_cons_zero, List.getElem_cons_succ]); go_simp; (try with_reducible rfl))
  (try simp only [Act.put, List.setIfInBounds_toArray, List.set_cons_zero, List.set_cons_succ, List.getElem_toArray, List.getElem_cons_zero, List.getElem_cons_succ])
  refine wpAnyH_done (by kernel_rfl) ?_ _
  refine NoPanic.normal ?_
  obtain ⟨A, d, rfl, -⟩ := own_form H1.out
  go_wp2_with fail
  go_ret
  exact ⟨A, d, rfl, H1.out, ⟨H2.out.os, H2.out.tape, H2.out.output, H2.out.size, H2.out.block⟩⟩

end Go.Proofs.YtnminmaklbhakaaGreatDoor
namespace Go.Proofs.YtnminmaklbhakaaGreatDoor
set_option linter.unusedVariables false
set_option linter.unusedSimpArgs false
open Go.RowKit

/-- What is begun, at p, q. -/
structure BegC (w : World) (p q : Nat) (b : BP) : Prop where
  m : Cell w p q (.int .i64 (b.mark : Int))
  i : Cell w p (q + 1) (.string (bytesN b.inter))
  n : NumAt w p (q + 2) b.nums b.came
  t : Cell w p (q + 11) (.string (bytesN b.text))
namespace BegC
variable {w w' : World} {p q : Nat} {b b' : BP}
theorem lt (h : BegC w p q b) : p < w.heap.size := h.m.lt
theorem keep {S : Nat → Prop} (h : BegC w p q b) (k : Keep S w w') (hn : ¬ S p) : BegC w' p q b := ⟨h.m.keep k hn, h.i.keep k hn, h.n.keep k hn, h.t.keep k hn⟩
theorem drew (h : BegC w p q b) : BegC w.drew p q b := ⟨h.m, h.i, h.n.drew, h.t⟩
theorem span {lo hi : Nat} (h : BegC w p q b) (k : SpanP p lo hi w w') (hq : q + 12 ≤ lo ∨ hi ≤ q) : BegC w' p q b :=
  ⟨k.cell h.m (by omega), k.cell h.i (by omega), h.n.span k (by omega), k.cell h.t (by omega)⟩
theorem of_eq (h : BegC w p q b) (h1 : b'.mark = b.mark) (h2 : b'.inter = b.inter) (h3 : b'.nums = b.nums) (h4 : b'.came = b.came) (h5 : b'.text = b.text) : BegC w p q b' :=
  ⟨by rw [h1]; exact h.m, by rw [h2]; exact h.i, by rw [h3, h4]; exact h.n, by rw [h5]; exact h.t⟩
end BegC

theorem span_below {p lo hi : Nat} {w w1 : World} (hp : p < w.heap.size) (k : Below w.heap.size w w1) : SpanP p lo hi w w1 := (SpanP.refl p lo hi w).below hp k

set_option maxHeartbeats 1600000 in
theorem esc_keep (p q : Nat) (b : BP) (d c : Nat) (w : World) (h : BegC w p q b) (hi : b.inter.length ≤ 100) (ht : b.text.length ≤ 100) (hc : c < 256) (hn : b.came < 1000000000) (hd : d = 9 → 48 ≤ c ∧ c ≤ 57) :
    Calls Tryz.prog 86 #[.pointer (some ⟨p, q, none⟩), .int .u8 (d : Int), .int .i64 (c : Int)] w fun e w' => e = .returned (.tuple #[]) ∧ BegC w' p q (keepE b d c) ∧ SpanP p q (q + 12) w w' := by
  by_cases h7 : d = 7
  · subst h7
    have f0 := h.m.2
    have c0 := h.m.1
    have fin : Hid (BegC (w.setCell ⟨p, q, none⟩ (.int .i64 (c : Int))) p q { b with mark := c } ∧ SpanP p q (q + 12) w (w.setCell ⟨p, q, none⟩ (.int .i64 (c : Int)))) := Lib.hid (by
      have k := (SpanP.refl p q (q + 1) w).set q (by omega) (by omega) (.int .i64 (c : Int))
      exact ⟨⟨h.m.set _, k.cell h.i (by omega), h.n.span k (by omega), k.cell h.t (by omega)⟩, k.mono (by omega) (by omega)⟩)
    clear h
    go_enter Tryz.func86, Tryz.ntmps86
    go_wp2_with fail
    go_end0
    exact ⟨rfl, fin.out⟩
  by_cases h8 : d = 8
  · subst h8
    have f0 := h.i.2
    have c0 := h.i.1
    have hpl := h.lt
    obtain ⟨I, hI⟩ : ∃ I, bytesN b.inter = I := ⟨_, rfl⟩
    obtain ⟨S, hS⟩ : ∃ S, bytesN [c] = S := ⟨_, rfl⟩
    have hIs : I.size ≤ 100 := by rw [← hI, bytesN_size]; exact hi
    have hSs : S.size = 1 := by rw [← hS, bytesN_size]; rfl
    have hIS : I.size + S.size ≤ 9223372036854775807 := by omega
    have hcat : ∀ W : World, (Op.stringOp .add I S).run Tryz.prog W = .ok (.string (I ++ S)) W := fun W => run_string_add_sum W I S hIS
    have hIS1 : I.size + 1 ≤ 9223372036854775807 := by omega
    clear hSs
    have HT := Lib.hid (fun W => hS ▸ esc_textOf c W hc)
    have HE : Hid (bytesN (b.inter ++ [c]) = I ++ S) := Lib.hid (by rw [bytesN_add, hI, hS])
    have H := Lib.hid h
    rw [hI] at c0
    have e : keepE b 8 c = { b with inter := b.inter ++ [c] } := rfl
    rw [e]
    clear h hI hS e hi
    go_enter Tryz.func86, Tryz.ntmps86
    go_wp2_with fail
    go_region_law (first | (go_simp; go_at_call 84; refine (HT.out _).mono ?_; rintro e w1 ⟨rfl, hb⟩; have B1 : Hid (Below w.heap.size w w1) := Lib.hid ⟨hb.os, hb.tape, hb.output, hb.size, hb.block⟩; have g0 := (B1.out.cell (p := ⟨p, q + 1, none⟩) hpl).trans c0; have gf := (B1.out.frozen (p := ⟨p, q + 1, none⟩) hpl).trans f0; clear hb) | fail)
    all_goals
      have fin : Hid (BegC (w1.setCell ⟨p, q + 1, none⟩ (.string (I ++ S))) p q { b with inter := b.inter ++ [c] } ∧ SpanP p q (q + 12) w (w1.setCell ⟨p, q + 1, none⟩ (.string (I ++ S)))) := Lib.hid (by
        have k1 := span_below (lo := q + 1) (hi := q + 2) hpl B1.out
        have k := k1.set (q + 1) (by omega) (by omega) (.string (I ++ S))
        refine ⟨⟨k.cell H.out.m (by omega), ?_, H.out.n.span k (by omega), k.cell H.out.t (by omega)⟩, k.mono (by omega) (by omega)⟩
        show Cell _ _ _ (.string (bytesN (b.inter ++ [c])))
        rw [HE.out]
        exact (H.out.i.keep (Keep.of_below (fun _ => False) B1.out) (fun x => x)).set _)
      go_wp2_with fail
      go_end0
      first | exact ⟨rfl, fin.out⟩ | exact ⟨rfl, fin.out.1.drew, fin.out.2.drew⟩
  by_cases h9 : d = 9
  · subst h9
    obtain ⟨x, hx⟩ : ∃ x : Nat, c = 48 + x := ⟨c - 48, by have := hd rfl; omega⟩
    have hx9 : x ≤ 9 := by have := hd rfl; omega
    subst hx
    have H := Lib.hid h
    have HN := Lib.hid (num_digit p (q + 2) b.nums b.came x w h.n (by omega) hx9)
    have hs : IntKind.i64.wrap (((48 + x : Nat) : Int) - 48) = (x : Int) := by rw [IntWalk.i64_in _ (by omega)]; omega
    have hs2 : ((48 + x : Nat) : Int) - 48 = (x : Int) := by omega
    have e : keepE b 9 (48 + x) = { b with nums := (digitN b.nums b.came x).1, came := (digitN b.nums b.came x).2 } := by
      unfold keepE
      rw [if_neg (by decide), if_neg (by decide), if_pos rfl, show 48 + x - 48 = x by omega]
    rw [e]
    obtain ⟨y, hy⟩ : ∃ y : Int, ((48 + x : Nat) : Int) = y := ⟨_, rfl⟩
    rw [hy] at hs hs2 ⊢
    clear h e hy
    go_enter Tryz.func86, Tryz.ntmps86
    go_wp2_with fail
    refine HN.out.mono ?_
    rintro e w1 ⟨rfl, h1, h2⟩
    have H1 := Lib.hid h1
    have H2 := Lib.hid h2
    clear h1 h2
    go_wp2_with fail
    go_end0
    exact ⟨rfl, ⟨H2.out.cell H.out.m (by omega), H2.out.cell H.out.i (by omega), H1.out, H2.out.cell H.out.t (by omega)⟩, H2.out.mono (by omega) (by omega)⟩
  by_cases h10 : d = 10
  · subst h10
    have H := Lib.hid h
    have HN := Lib.hid (num_next p (q + 2) b.nums b.came w h.n hn)
    have e : keepE b 10 c = { b with nums := (nextN b.nums b.came).1, came := (nextN b.nums b.came).2 } := rfl
    rw [e]
    clear h e
    go_enter Tryz.func86, Tryz.ntmps86
    go_wp2_with fail
    refine HN.out.mono ?_
    rintro e w1 ⟨rfl, h1, h2⟩
    have H1 := Lib.hid h1
    have H2 := Lib.hid h2
    clear h1 h2
    go_wp2_with fail
    go_end0
    exact ⟨rfl, ⟨H2.out.cell H.out.m (by omega), H2.out.cell H.out.i (by omega), H1.out, H2.out.cell H.out.t (by omega)⟩, H2.out.mono (by omega) (by omega)⟩
  by_cases h11 : d = 11
  · subst h11
    have f0 := h.t.2
    have c0 := h.t.1
    have hpl := h.lt
    obtain ⟨I, hI⟩ : ∃ I, bytesN b.text = I := ⟨_, rfl⟩
    have hIs : I.size = b.text.length := by rw [← hI, bytesN_size]
    by_cases hl : b.text.length < 60
    · obtain ⟨S, hS⟩ : ∃ S, bytesN [c] = S := ⟨_, rfl⟩
      have hSs : S.size = 1 := by rw [← hS, bytesN_size]; rfl
      have hIS : I.size + S.size ≤ 9223372036854775807 := by omega
      have hcat : ∀ W : World, (Op.stringOp .add I S).run Tryz.prog W = .ok (.string (I ++ S)) W := fun W => run_string_add_sum W I S hIS
      have hIS1 : I.size + 1 ≤ 9223372036854775807 := by omega
      clear hSs
      have hI60 : (I.size : Int) < 60 := by omega
      clear hIs
      have HT := Lib.hid (fun W => hS ▸ esc_textOf c W hc)
      have HE : Hid (bytesN (b.text ++ [c]) = I ++ S) := Lib.hid (by rw [bytesN_add, hI, hS])
      have H := Lib.hid h
      rw [hI] at c0
      have e : keepE b 11 c = { b with text := b.text ++ [c] } := by unfold keepE; simp [hl]
      rw [e]
      clear h hI hS e hl ht
      go_enter Tryz.func86, Tryz.ntmps86
      go_wp2_with fail
      go_region_law (first | (go_simp; go_at_call 84; refine (HT.out _).mono ?_; rintro e w1 ⟨rfl, hb⟩; have B1 : Hid (Below w.heap.size w w1) := Lib.hid ⟨hb.os, hb.tape, hb.output, hb.size, hb.block⟩; have g0 := (B1.out.cell (p := ⟨p, q + 11, none⟩) hpl).trans c0; have gf := (B1.out.frozen (p := ⟨p, q + 11, none⟩) hpl).trans f0; clear hb) | fail)
      all_goals
        have fin : Hid (BegC (w1.setCell ⟨p, q + 11, none⟩ (.string (I ++ S))) p q { b with text := b.text ++ [c] } ∧ SpanP p q (q + 12) w (w1.setCell ⟨p, q + 11, none⟩ (.string (I ++ S)))) := Lib.hid (by
          have k1 := span_below (lo := q + 11) (hi := q + 12) hpl B1.out
          have k := k1.set (q + 11) (by omega) (by omega) (.string (I ++ S))
          refine ⟨⟨k.cell H.out.m (by omega), k.cell H.out.i (by omega), H.out.n.span k (by omega), ?_⟩, k.mono (by omega) (by omega)⟩
          show Cell _ _ _ (.string (bytesN (b.text ++ [c])))
          rw [HE.out]
          exact (H.out.t.keep (Keep.of_below (fun _ => False) B1.out) (fun x => x)).set _)
        go_wp2_with fail
        go_end0
        first | exact ⟨rfl, fin.out⟩ | exact ⟨rfl, fin.out.1.drew, fin.out.2.drew⟩
    · have hI60 : ¬ (I.size : Int) < 60 := by omega
      have H := Lib.hid h
      rw [hI] at c0
      have e : keepE b 11 c = b := by unfold keepE; simp [hl]
      rw [e]
      clear h hI e hl ht
      go_enter Tryz.func86, Tryz.ntmps86
      go_wp2_with fail
      go_end0
      exact ⟨rfl, H.out, SpanP.refl _ _ _ _⟩
  · have t7 : ((d : Int) == 7) = false := by simp; omega
    have t8 : ((d : Int) == 8) = false := by simp; omega
    have t9 : ((d : Int) == 9) = false := by simp; omega
    have t10 : ((d : Int) == 10) = false := by simp; omega
    have t11 : ((d : Int) == 11) = false := by simp; omega
    have H := Lib.hid h
    have e : keepE b d c = b := by unfold keepE; simp [h7, h8, h9, h10, h11]
    rw [e]
    clear h e h7 h8 h9 h10 h11 hd
    go_enter Tryz.func86, Tryz.ntmps86
    go_wp2_with fail
    go_end0
    exact ⟨rfl, H.out, SpanP.refl _ _ _ _⟩

end Go.Proofs.YtnminmaklbhakaaGreatDoor
namespace Go.Proofs.YtnminmaklbhakaaGreatDoor
set_option linter.unusedVariables false
set_option linter.unusedSimpArgs false
open Go.RowKit

/-- An act's cells; s: where its numbers lie, and their room. -/
def actCs (r : EAct) (s : Option Addr × Nat) : List Value := [.int .i64 (r.kind : Int), .int .i32 (r.rune : Int), .int .i64 (r.byte : Int), .int .i64 (r.mark : Int), .slice s.1 r.nums.length s.2, .string (bytesN r.inter), .string (bytesN r.text)]
def actsCs (rs : List EAct) (ss : List (Option Addr × Nat)) : List Value := (rs.zip ss).flatMap fun x => actCs x.1 x.2
def NumsRow (w : World) (B : Nat) (r : EAct) (s : Option Addr × Nat) : Prop := w.ownsRow B 3 1 (.slice s.1 r.nums.length s.2) r.nums.length (r.nums.map (Value.int .i64))

/-- Acts that lie in a row of the call's own. -/
structure ActsS (w : World) (B : Nat) (A : Option Addr) (n c : Nat) (rs : List EAct) (ss : List (Option Addr × Nat)) : Prop where
  l : ss.length = rs.length
  cnt : n = rs.length
  row : w.ownsRow B 52 7 (.slice A n c) n (actsCs rs ss)
  nums : ∀ x ∈ rs.zip ss, NumsRow w B x.1 x.2
  nd : (ss.filterMap fun s => blk s.1).Nodup
def ActsV (w : World) (B : Nat) (A : Option Addr) (n c : Nat) (rs : List EAct) : Prop := ∃ ss, ActsS w B A n c rs ss

theorem actCs_one (r : EAct) (s : Option Addr × Nat) : ∀ u ∈ actCs r s, u.oneCell' = true := by
  intro u hu
  simp only [actCs, List.mem_cons, List.not_mem_nil, or_false] at hu
  rcases hu with rfl | rfl | rfl | rfl | rfl | rfl | rfl <;> rfl
theorem actsCs_snoc (rs : List EAct) (ss : List (Option Addr × Nat)) (r : EAct) (s : Option Addr × Nat) (h : ss.length = rs.length) : actsCs (rs ++ [r]) (ss ++ [s]) = actsCs rs ss ++ actCs r s := by
  unfold actsCs
  rw [List.zip_append h.symm]
  simp
theorem own_apart {w : World} {B1 B2 e1 e2 s1 s2 n1 n2 : Nat} {v1 v2 : Value} {x1 x2 : List Value} (h1 : w.ownsRow B1 e1 s1 v1 n1 x1) (h2 : w.ownsRow B2 e2 s2 v2 n2 x2) (hne : e1 ≠ e2) {k : Nat} (k1 : v1.ownBlock = some k) : v2.ownBlock ≠ some k := by
  rcases h1.2 with ⟨rfl, _⟩ | ⟨g, cap, cur, rfl, _, hg, _⟩
  · simp [Value.ownBlock] at k1
  · have : g = k := by simpa [Value.ownBlock] using k1
    subst this
    exact own_ne h2 hg (Ne.symm hne)
theorem numsRow_nil (w : World) (B : Nat) (r : EAct) (h : r.nums = []) : NumsRow w B r (none, 0) := by
  unfold NumsRow; rw [h]; exact World.ownsRow_nil _ _ _ _
theorem int_ne_act : 3 ≠ 52 := by decide

theorem ActsS.keep {w w' : World} {B : Nat} {A : Option Addr} {n c : Nat} {rs : List EAct} {ss : List (Option Addr × Nat)} {S : Nat → Prop} (h : ActsS w B A n c rs ss) (k : Keep S w w') (hs : ∀ i, B ≤ i → ¬ S i) : ActsS w' B A n c rs ss :=
  ⟨h.l, h.cnt, own_keep h.row k (fun i hi => hs i (h.row.lt i hi).1), fun x hx => own_keep (h.nums x hx) k (fun i hi => hs i ((h.nums x hx).lt i hi).1), h.nd⟩
namespace ActsV
variable {w w' : World} {B : Nat} {A : Option Addr} {n c : Nat} {rs : List EAct}
theorem nil (w : World) (B : Nat) : ActsV w B none 0 0 [] := ⟨[], rfl, rfl, World.ownsRow_nil _ _ _ _, by simp, by simp⟩
theorem len (h : ActsV w B A n c rs) : n = rs.length := by obtain ⟨ss, h⟩ := h; exact h.cnt
theorem keep {S : Nat → Prop} (h : ActsV w B A n c rs) (k : Keep S w w') (hs : ∀ i, B ≤ i → ¬ S i) : ActsV w' B A n c rs := by
  obtain ⟨ss, h⟩ := h
  exact ⟨ss, h.l, h.cnt, own_keep h.row k (fun i hi => hs i (h.row.lt i hi).1), fun x hx => own_keep (h.nums x hx) k (fun i hi => hs i ((h.nums x hx).lt i hi).1), h.nd⟩
theorem below (h : ActsV w B A n c rs) (k : Below w.heap.size w w') : ActsV w' B A n c rs := h.keep (Keep.of_below (fun _ => False) k) (fun _ _ x => x)
theorem alloc (h : ActsV w B A n c rs) (o : Obj) : ActsV (w.alloc o) B A n c rs := h.keep (S := fun _ => False) ((Keep.refl _ w).alloc o) (fun _ _ x => x)
theorem blk_ge (h : ActsV w B A n c rs) {k : Nat} (hk : blk A = some k) : B ≤ k ∧ k < w.heap.size := by
  obtain ⟨ss, h⟩ := h
  exact h.row.lt k (by rw [ownBlock_slice]; exact hk)
end ActsV

theorem info_act : (Tryz.prog.info? 52).map (fun i => (i.zero, i.size, i.bytes)) = some (some (.agg #[.int .i64 0, .int .i32 0, .int .i64 0, .int .i64 0, .slice none 0 0, .string .empty, .string .empty]), 7, 88) := by kernel_rfl

/-- append of an act that was just laid at g. -/
theorem acts_append (w1 w2 : World) (B : Nat) (A : Option Addr) (n c : Nat) (rs : List EAct) (r : EAct) (s : Option Addr × Nat) (g : Nat) (h : ActsV w1 B A n c rs) (k12 : Below w1.heap.size w1 w2) (hB : B ≤ w1.heap.size)
    (hr : NumsRow w2 w1.heap.size r s) (hg : ∀ j u, (actCs r s)[j]? = some u → w2.cell? ((⟨g, 0, none⟩ : Addr).add j) = some u) (hn : n ≤ 1000000000) :
    ∃ A' c' w3, (Builtin.append_ #[27, 27] 27 #[.slice A n c, .slice (some ⟨g, 0, none⟩) 1 1]).run Tryz.prog w2 = .ok (.slice A' (n + 1) c') w3 ∧ ActsV w3 B A' (n + 1) c' (rs ++ [r]) ∧ Keep (fun k => blk A = some k) w2 w3 ∧ ∀ k, blk A' = some k → blk A = some k ∨ w2.heap.size ≤ k := by
  obtain ⟨i0, hi0, hz0, hz1, hz2⟩ := info_parts info_act
  obtain ⟨ss, h1⟩ := h
  have h2 := h1.keep (Keep.of_below (fun _ => False) k12) (fun _ _ x => x)
  have hsz := k12.size
  obtain ⟨v', w3, hrun, hown, hkp, hat⟩ := own_at (P := Tryz.prog) w2 B 27 27 52 i0 _ 7 88 Tryz.underlying27 hi0 hz0 hz1 hz2 rfl (by decide) _ n _ h2.row ⟨g, 0, none⟩ 1 1 (actCs r s) rfl hg (actCs_one r s)
    (by unfold maxLen; omega) (by omega) (by omega)
  obtain ⟨A', c', rfl, -⟩ := own_form hown
  have hkp' : Keep (fun k => blk A = some k) w2 w3 := hkp.mono (fun k _ e => by rw [ownBlock_slice] at e; exact e)
  have hnums : ∀ x ∈ rs.zip ss, NumsRow w3 B x.1 x.2 := fun x hx => own_keep (h2.nums x hx) hkp (fun i hi => own_apart (h2.nums x hx) h2.row int_ne_act hi)
  have hr3 : NumsRow w3 w1.heap.size r s := own_keep hr hkp (fun i hi => own_apart hr h2.row int_ne_act hi)
  refine ⟨A', c', w3, hrun, ⟨ss ++ [s], by simp [h2.l], by simp [h2.cnt], ?_, ?_, ?_⟩, hkp', fun k hk => by have := hat k (by rw [ownBlock_slice]; exact hk); rwa [ownBlock_slice] at this⟩
  · rw [actsCs_snoc _ _ _ _ h2.l]
    exact hown
  · intro x hx
    rw [List.zip_append h2.l.symm] at hx
    rcases List.mem_append.1 hx with hx | hx
    · exact hnums x hx
    · simp at hx
      subst hx
      exact own_base hr3 hB
  · rw [List.filterMap_append]
    refine List.nodup_append.2 ⟨h2.nd, ?_, ?_⟩
    · cases hs : blk s.1 <;> simp [hs]
    · intro a ha b hb hab
      subst hab
      have hb' : blk s.1 = some a := by
        simp only [List.filterMap_cons, List.filterMap_nil] at hb
        cases hs : blk s.1 with
        | none => rw [hs] at hb; simp at hb
        | some k => rw [hs] at hb; simp at hb; rw [hb]
      have h3 := (hr.lt a (by rw [ownBlock_slice]; exact hb')).1
      obtain ⟨t, ht, hta⟩ := List.mem_filterMap.1 ha
      obtain ⟨i, hi, e⟩ := List.getElem_of_mem ht
      have hir : i < rs.length := by rw [← h2.l]; exact hi
      have hz : (rs[i], t) ∈ rs.zip ss := by
        rw [← e]
        have : (rs.zip ss)[i]'(by rw [List.length_zip, h2.l]; omega) = (rs[i], ss[i]) := List.getElem_zip
        rw [← this]
        exact List.getElem_mem _
      have := ((h1.nums _ hz).lt a (by rw [ownBlock_slice]; exact hta)).2
      omega

/-- A row of another type than acts, behind an append of acts. -/
theorem ActsV.row_keep {w w' : World} {B : Nat} {A : Option Addr} {n c : Nat} {rs : List EAct} (h : ActsV w B A n c rs) (k : Keep (fun k => blk A = some k) w w') {B2 e2 n2 s2 : Nat} {v2 : Value} {x2 : List Value} (h2 : w.ownsRow B2 e2 s2 v2 n2 x2) (hne : e2 ≠ 52) : w'.ownsRow B2 e2 s2 v2 n2 x2 := by
  obtain ⟨ss, h⟩ := h
  exact own_keep h2 k (fun i hi e => own_apart h2 h.row hne hi (by rw [ownBlock_slice]; exact e))

theorem act_cells_new (w : World) (r : EAct) (s : Option Addr × Nat) (cs : Array Value) (h : cs = (actCs r s).toArray) (g : Nat) (hg : g = w.heap.size) :
    ∀ j u, (actCs r s)[j]? = some u → (w.alloc (.cells cs 52)).cell? ((⟨g, 0, none⟩ : Addr).add j) = some u := by
  subst h
  exact cells_new w (actCs r s) _ g hg
theorem rune_ne_act : 21 ≠ 52 := by decide

set_option maxRecDepth 100000 in
set_option maxHeartbeats 1600000 in
theorem esc_prints (B : Nat) (A : Option Addr) (n c : Nat) (rs0 : List EAct) (v : Value) (m : Nat) (xs : List Nat) (w : World) (h : ActsV w B A n c rs0) (hB : B ≤ w.heap.size) (B2 : Nat) (hv : w.ownsRow B2 21 1 v m ((rs xs).map (Value.int .i32))) (hn : n + m ≤ 1000000000) :
    Calls Tryz.prog 58 #[.slice A n c, v] w fun e w' => ∃ A' c', e = .returned (.slice A' (n + m) c') ∧ ActsV w' B A' (n + m) c' (rs0 ++ xs.map ePrint) ∧ Keep (fun k => blk A = some k) w w' ∧ ∀ k, blk A' = some k → blk A = some k ∨ w.heap.size ≤ k := by
  have hlx := Lib.hid (show xs.length = m from by have := hv.1; simpa [rs] using this)
  obtain ⟨R, d, rfl, -⟩ := own_form hv
  have HV := Lib.hid hv
  have HA := Lib.hid h
  clear hv h
  go_enter Tryz.func58, Tryz.ntmps58
  go_wp2_with fail
  go_loopw [0, 9] (fun l i wr => ∃ (k : Nat) (A1 : Option Addr) (c1 : Nat), l = .slice A1 (n + k : Nat) c1 ∧ i = .int .i64 k ∧ k ≤ m ∧ Hid (ActsV wr B A1 (n + k) c1 (rs0 ++ (xs.take k).map ePrint)) ∧ Hid (Keep (fun k => blk A = some k) w wr ∧ ∀ k, blk A1 = some k → blk A = some k ∨ w.heap.size ≤ k) ∧ Hid (wr.ownsRow B2 21 1 (.slice R m d) m ((rs xs).map (Value.int .i32)))) (fun _ i _ => m - (intOf i).toNat)
  case atStart => exact ⟨0, A, c, rfl, rfl, Nat.zero_le _, by show ActsV _ _ _ _ _ _; simpa using HA.out, Lib.hid ⟨Keep.refl _ _, fun _ x => .inl x⟩, HV⟩
  case round =>
    obtain ⟨k, A1, c1, rfl, rfl, hk, H1, HK, HR⟩ := hrel
    by_cases hlt : k < m
    · obtain ⟨x, hx⟩ : ∃ x, xs[k]? = some x := ⟨xs[k]'(by rw [hlx.out]; exact hlt), List.getElem?_eq_getElem _⟩
      obtain ⟨b, off, rfl, hbl, hcs⟩ := (Buf.of_own HR.out).src.2 (by omega)
      have hcx : wr.cell? ⟨b, off + k, none⟩ = some (.int .i32 (x : Int)) := hcs k _ (by simp [rs, hx])
      have hki : ((k : Int) < (m : Int)) := by omega
      have hk0 : (0 : Int) ≤ (k : Int) := by omega
      have hT := Lib.hid (take_next hx)
      have hw := HK.out.1.size
      obtain ⟨A2, c2, w3, hr, h3, k3, a3⟩ := acts_append wr (wr.alloc (.cells #[.int .i64 1, .int .i32 (x : Int), .int .i64 0, .int .i64 0, .slice none 0 0, .string ⟨#[]⟩, .string ⟨#[]⟩] 52)) B A1 (n + k) c1 _ (ePrint x) (none, 0) wr.heap.size H1.out ((Below.refl _ wr).alloc (Nat.le_refl _) _) (by omega) (numsRow_nil _ _ _ rfl)
        (act_cells_new wr (ePrint x) (none, 0) _ rfl _ rfl) (by omega)
      have HRU := Lib.hid hr
      have H3 := Lib.hid h3
      have K3 : Hid (Keep (fun k => blk A = some k) w w3 ∧ ∀ k, blk A2 = some k → blk A = some k ∨ w.heap.size ≤ k) := Lib.hid ⟨(HK.out.1.alloc _).trans k3 (fun i hi e => (HK.out.2 i e).elim id (fun x => by omega)), fun k hk => (a3 k hk).elim (fun x => HK.out.2 k x) (fun x => .inr (by simp at x; omega))⟩
      have R3 := Lib.hid ((H1.out.alloc _).row_keep k3 (HR.out.alloc _) rune_ne_act)
      clear hr h3 k3 a3 hcs hx
      go_wp2_with (at_builtin; refine wpList_plain rfl fun K hK => ?_; unfold Oper.wp execOp; simp only [resolve, invoke, builtin, Sem.run_bind, Sem.run_pure, Result.andThen_ok, List.map_toArray, List.map_cons, List.map_nil]; rw [show (Builtin.append_ _ _ #[Act.eval _ _, Act.eval _ _]).run _ _ = _ from HRU.out]; refine hK _ _ ?_)
      go_roundw
      case rel => exact ⟨k + 1, A2, c2, rfl, by go_num, by omega, by show ActsV _ _ _ _ _ _; rw [hT.out, List.map_append, ← List.append_assoc]; exact H3.out, K3, R3⟩
      case measure => simp [intOf]; omega
    · obtain rfl : k = m := by omega
      have hfin := H1.out
      rw [List.take_of_length_le (by rw [hlx.out]; omega)] at hfin
      have HF := Lib.hid hfin
      clear hfin
      go_wp2_with fail
      go_ret
      exact ⟨A1, c1, rfl, HF.out, HK.out.1, HK.out.2⟩

end Go.Proofs.YtnminmaklbhakaaGreatDoor
namespace Go.Proofs.YtnminmaklbhakaaGreatDoor
set_option linter.unusedVariables false
set_option linter.unusedSimpArgs false
open Go.RowKit

/-- A Parser at p, o, but for its rules. -/
structure EscC (w : World) (p o : Nat) (b : BP) : Prop where
  s : Cell w p (o + 1) (.int .u8 (b.s : Int))
  u : RdU w p (o + 2) b.u
  g : BegC w p (o + 7) b
/-- What a call turns: of block p the cells of the Parser, but for its rules; the acts' row, which is then the old one, or new. -/
structure PStep (p o : Nat) (A : Option Addr) (w : World) (A' : Option Addr) (w' : World) : Prop where
  keep : Keep (fun k => k = p ∨ blk A = some k) w w'
  at' : ∀ k, blk A' = some k → blk A = some k ∨ w.heap.size ≤ k
  out : ∀ i, i ≤ o ∨ o + 19 ≤ i → w'.cell? ⟨p, i, none⟩ = w.cell? ⟨p, i, none⟩ ∧ w'.frozen? ⟨p, i, none⟩ = w.frozen? ⟨p, i, none⟩
namespace PStep
variable {p o : Nat} {A A1 A2 : Option Addr} {w w1 w2 : World}
theorem refl (p o : Nat) (A : Option Addr) (w : World) : PStep p o A w A w := ⟨Keep.refl _ _, fun _ x => .inl x, fun _ _ => ⟨rfl, rfl⟩⟩
theorem trans (h : PStep p o A w A1 w1) (k : PStep p o A1 w1 A2 w2) : PStep p o A w A2 w2 :=
  ⟨h.keep.trans k.keep (fun i hi x => x.elim .inl (fun x => (h.at' i x).elim .inr (fun y => by omega))), fun i hi => (k.at' i hi).elim (fun x => h.at' i x) (fun x => .inr (Nat.le_trans h.keep.size x)),
    fun i hi => ⟨(k.out i hi).1.trans (h.out i hi).1, (k.out i hi).2.trans (h.out i hi).2⟩⟩
theorem of_span {lo hi : Nat} (h : SpanP p lo hi w w1) (h1 : o < lo) (h2 : hi ≤ o + 19) : PStep p o A w A w1 := ⟨h.keep.mono (fun _ _ x => .inl x), fun _ x => .inl x, fun i hi => h.out i (by omega)⟩
theorem of_kf (h : KF p (o + 2) (· = p) w w1) (hp : p < w.heap.size) : PStep p o A w A w1 := ⟨h.k.mono (fun _ _ x => .inl x), fun _ x => .inl x, fun i hi => h.f hp i (by omega)⟩
theorem of_acts (h : Keep (fun k => blk A = some k) w w1) (ha : ∀ k, blk A1 = some k → blk A = some k ∨ w.heap.size ≤ k) (hp : p < w.heap.size) (hA : blk A ≠ some p) : PStep p o A w A1 w1 :=
  ⟨h.mono (fun _ _ x => .inr x), ha, fun i _ => ⟨h.cell (p := ⟨p, i, none⟩) hp hA, h.frozen (p := ⟨p, i, none⟩) hp hA⟩⟩
theorem of_below (h : Below w.heap.size w w1) (hp : p < w.heap.size) : PStep p o A w A w1 :=
  ⟨Keep.of_below _ h, fun _ x => .inl x, fun i _ => ⟨h.cell (p := ⟨p, i, none⟩) hp, h.frozen (p := ⟨p, i, none⟩) hp⟩⟩
end PStep
namespace EscC
variable {w w' : World} {p o : Nat} {b b' : BP}
theorem lt (h : EscC w p o b) : p < w.heap.size := h.s.lt
theorem keep {S : Nat → Prop} (h : EscC w p o b) (k : Keep S w w') (hn : ¬ S p) : EscC w' p o b := ⟨h.s.keep k hn, h.u.keep k hn, h.g.keep k hn⟩
theorem below (h : EscC w p o b) (k : Below w.heap.size w w') : EscC w' p o b := h.keep (Keep.of_below (fun _ => False) k) (fun x => x)
end EscC
theorem RdU.span {w w' : World} {p o lo hi : Nat} {s : St} (h : RdU w p o s) (k : SpanP p lo hi w w') (hq : o + 5 ≤ lo ∨ hi ≤ o) : RdU w' p o s :=
  ⟨k.cell h.c0 (by omega), k.cell h.c1 (by omega), k.cell h.c2 (by omega), k.cell h.c3 (by omega), k.cell h.c4 (by omega), h.ok⟩
theorem KF.cell {p o : Nat} {S : Nat → Prop} {w w' : World} (h : KF p o S w w') {i : Nat} {v : Value} (c : Cell w p i v) (hi : i < o ∨ o + 5 ≤ i) : Cell w' p i v :=
  ⟨(h.f c.lt i hi).1.trans c.1, (h.f c.lt i hi).2.trans c.2⟩
theorem BegC.kf {w w' : World} {p q o : Nat} {S : Nat → Prop} {b : BP} (h : BegC w p q b) (k : KF p o S w w') (hq : o + 5 ≤ q) : BegC w' p q b :=
  ⟨k.cell h.m (by omega), k.cell h.i (by omega), ⟨fun j hj => k.cell (h.n.nn j hj) (by omega), k.cell h.n.cm (by omega), h.n.len, h.n.bd⟩, k.cell h.t (by omega)⟩
theorem EscC.kf {w w' : World} {p o : Nat} {b : BP} {u : St} (h : EscC w p o b) (k : KF p (o + 2) (· = p) w w') (hu : RdU w' p (o + 2) u) : EscC w' p o { b with u := u } :=
  ⟨k.cell h.s (by omega), hu, (h.g.kf k (by omega)).of_eq rfl rfl rfl rfl rfl⟩
theorem natsOf_one (c : Nat) (h : c < 256) : natsOf (bytesN [c]) = [c] := by
  simp [natsOf, bytesN]; omega
theorem feedU_one (s : St) (c : Nat) : feedU s [c] = byteU s c := by simp [feedU]

/-- What `do` answers. -/
def DoTo (p o B : Nat) (A : Option Addr) (n : Nat) (rs0 : List EAct) (x : BP × List EAct) (w : World) (e : Ending) (w' : World) : Prop :=
  ∃ A' c', e = .returned (.slice A' (n + x.2.length : Nat) c') ∧ ActsV w' B A' (n + x.2.length) c' (rs0 ++ x.2) ∧ EscC w' p o x.1 ∧ PStep p o A w A' w'

set_option maxRecDepth 100000 in
set_option maxHeartbeats 1600000 in
theorem do_print (p o B : Nat) (b : BP) (A : Option Addr) (n cc : Nat) (rs0 : List EAct) (c : Nat) (w : World) (h : EscC w p o b) (hA : ActsV w B A n cc rs0) (hpB : p < B) (hB : B ≤ w.heap.size) (hc : c < 256) (hn : n ≤ 900000000) :
    Calls Tryz.prog 60 #[.pointer (some ⟨p, o, none⟩), .slice A n cc, .int .u8 1, .int .i64 (c : Int)] w (DoTo p o B A n rs0 ({ b with u := (byteU b.u c).1 }, (byteU b.u c).2.map ePrint) w) := by
  have H := Lib.hid h
  have HA := Lib.hid hA
  have hpl := h.lt
  have HT := Lib.hid (fun W => esc_textOf c W hc)
  have hbl : (byteU b.u c).2.length ≤ 2 := by have := byteU_len h.u.ok c; have := St.some_le b.u; omega
  have HBL := Lib.hid hbl
  clear h hA hbl
  go_enter Tryz.func60, Tryz.ntmps60
  go_wp2_with fail
  refine wp_region_noPanic ?_
  refine wp_region_held_drew (S := fun w' => True) (by kernel_rfl) trivial (fun hHeld => ?_)
  refine wpAnyH_take (i := 0) (oi := _) (v := ?va0) rfl (by kernel_rfl) (by kernel_rfl) (by kernel_rfl) (fun _ _ _ h => h) (Or.inl ⟨by rfl, ?hya0⟩) (by assumption) ?resta0
  case hya0 => (intro w hSw; (try dsimp only at hSw); (try simp only [List.getElem_toArray, List.getElem_cons_zero, List.getElem_cons_succ]); go_simp; (try with_reducible rfl))
  (try simp only [Act.put, List.setIfInBounds_toArray, List.set_cons_zero, List.set_cons_succ, List.getElem_toArray, List.getElem_cons_zero, List.getElem_cons_succ])
  refine wpAnyH_take (i := 1) (oi := _) (v := ?va1) rfl (by kernel_rfl) (by kernel_rfl) (by kernel_rfl) (fun _ _ _ h => h) (Or.inl ⟨by rfl, ?hya1⟩) (by assumption) ?resta1
  case hya1 => (intro w hSw; (try dsimp only at hSw); (try simp only [List.getElem_toArray, List.getElem_cons_zero, List.getElem_cons_succ]); go_simp; (try with_reducible rfl))
  (try simp only [Act.put, List.setIfInBounds_toArray, List.set_cons_zero, List.set_cons_succ, List.getElem_toArray, List.getElem_cons_zero, List.getElem_cons_succ])
  refine wpAnyH_take (i := 2) (oi := _) (v := ?va2) rfl (by kernel_rfl) (by kernel_rfl) (by kernel_rfl) (fun _ _ _ h => h) (Or.inl ⟨by rfl, ?hya2⟩) (by assumption) ?resta2
  case hya2 => (intro w hSw; (try dsimp only at hSw); (try simp only [List.getElem_toArray, List.getElem_cons_zero, List.getElem_cons_succ]); go_simp; (try with_reducible rfl))
  (try simp only [Act.put, List.setIfInBounds_toArray, List.set_cons_zero, List.set_cons_succ, List.getElem_toArray, List.getElem_cons_zero, List.getElem_cons_succ])
  refine wpAnyH_take (i := 3) (oi := _) (v := ?va3) rfl (by kernel_rfl) (by kernel_rfl) (by kernel_rfl) (fun _ _ _ h => h) (Or.inl ⟨by rfl, ?hya3⟩) (by assumption) ?resta3
  case hya3 => (intro w hSw; (try dsimp only at hSw); (try simp only [List.getElem_toArray, List.getElem_cons_zero, List.getElem_cons_succ]); go_simp; (try with_reducible rfl))
  (try simp only [Act.put, List.setIfInBounds_toArray, List.set_cons_zero, List.set_cons_succ, List.getElem_toArray, List.getElem_cons_zero, List.getElem_cons_succ])
  refine wpAnyH_take (i := 4) (oi := _) (v := ?va4) rfl (by kernel_rfl) (by kernel_rfl) (by kernel_rfl) (fun _ _ _ h => h) (Or.inl ⟨by rfl, ?hya4⟩) (by assumption) ?resta4
  case hya4 => (intro w hSw; (try dsimp only at hSw); (try simp only [List.getElem_toArray, List.getElem_cons_zero, List.getElem_cons_succ]); go_simp; (try with_reducible rfl))
  (try simp only [Act.put, List.setIfInBounds_toArray, List.set_cons_zero, List.set_cons_succ, List.getElem_toArray, List.getElem_cons_zero, List.getElem_cons_succ])
  refine wpAnyH_ready (rs := [5]) (by kernel_rfl) (by simp) ?_
  refine AllReadyH.cons (o := _) rfl (fun K hK => ?_) AllReadyH.nil
  (try simp only [List.getElem_toArray, List.getElem_cons_zero, List.getElem_cons_succ])
  go_simp
  refine (HT.out _).mono ?_; rintro e w1 ⟨rfl, hb⟩; have B1 : Hid (Below w.heap.size w w1) := Lib.hid ⟨hb.os, hb.tape, hb.output, hb.size, hb.block⟩; clear hb; have hs1 := B1.out.size
  refine hK.out _ _ ?_ (fun hHeld => ?_)
  · trivial
  clear hK K
  (try simp only [Act.put, List.setIfInBounds_toArray, List.set_cons_zero, List.set_cons_succ, List.getElem_toArray, List.getElem_cons_zero, List.getElem_cons_succ])
  refine wpAnyH_ready (rs := [6]) (by kernel_rfl) (by simp) ?_
  refine AllReadyH.cons (o := _) rfl (fun K hK => ?_) AllReadyH.nil
  (try simp only [List.getElem_toArray, List.getElem_cons_zero, List.getElem_cons_succ])
  go_simp
  refine hK.out _ _ ?_ (fun hHeld => ?_)
  · trivial
  clear hK K
  (try simp only [Act.put, List.setIfInBounds_toArray, List.set_cons_zero, List.set_cons_succ, List.getElem_toArray, List.getElem_cons_zero, List.getElem_cons_succ])
  refine wpAnyH_ready (rs := [7]) (by kernel_rfl) (by simp) ?_
  refine AllReadyH.cons (o := _) rfl (fun K hK => ?_) AllReadyH.nil
  (try simp only [List.getElem_toArray, List.getElem_cons_zero, List.getElem_cons_succ])
  go_simp
  refine (utf_feed_one p (o + 2) b.u w1.heap.size (bytesN [c]) 1 _ (((H.out.below B1.out).u).alloc _) (by simp [go_sem, Array.size_push]) (by omega) (by rw [bytesN_size]; simp)).mono ?_; rintro e w2 ⟨v, rfl, ho, hu, hk⟩; rw [natsOf_one c hc, feedU_one] at ho hu; have K2 := Lib.hid ((KF.of_below p (o + 2) (· = p) B1.out).trans (((KF.refl p (o + 2) (· = p) w1).alloc _).trans hk (fun _ _ x => x)) (fun _ _ x => x)); have U2 := Lib.hid hu; have O2 := Lib.hid ho; have hs2 := K2.out.size; clear hk hu ho
  refine hK.out _ _ ?_ (fun hHeld => ?_)
  · trivial
  clear hK K
  (try simp only [Act.put, List.setIfInBounds_toArray, List.set_cons_zero, List.set_cons_succ, List.getElem_toArray, List.getElem_cons_zero, List.getElem_cons_succ])
  refine wpAnyH_ready (rs := [8]) (by kernel_rfl) (by simp) ?_
  refine AllReadyH.cons (o := _) rfl (fun K hK => ?_) AllReadyH.nil
  (try simp only [List.getElem_toArray, List.getElem_cons_zero, List.getElem_cons_succ])
  go_simp
  refine (esc_prints B A n cc rs0 v _ (byteU b.u c).2 w2 (HA.out.keep K2.out.k (fun i hi e => by omega)) (by omega) _ O2.out (by have := HBL.out; omega)).mono ?_; rintro e w3 ⟨A3, c3, rfl, h3, k3, a3⟩; have H3 := Lib.hid h3; have K3 := Lib.hid k3; have A3' := Lib.hid a3; clear h3 k3 a3
  refine hK.out _ _ ?_ (fun hHeld => ?_)
  · trivial
  clear hK K
  (try simp only [Act.put, List.setIfInBounds_toArray, List.set_cons_zero, List.set_cons_succ, List.getElem_toArray, List.getElem_cons_zero, List.getElem_cons_succ])
  refine wpAnyH_take (i := 9) (oi := _) (v := ?va9) rfl (by kernel_rfl) (by kernel_rfl) (by kernel_rfl) (fun _ _ _ h => h) (Or.inl ⟨by rfl, ?hya9⟩) (by assumption) ?resta9
  case hya9 => (intro w hSw; (try dsimp only at hSw); (try simp only [List.getElem_toArray, List.getElem_cons_zero, List.getElem_cons_succ]); go_simp; (try with_reducible rfl))
  (try simp only [Act.put, List.setIfInBounds_toArray, List.set_cons_zero, List.set_cons_succ, List.getElem_toArray, List.getElem_cons_zero, List.getElem_cons_succ])
  refine wpAnyH_done (by kernel_rfl) ?_ _
  refine NoPanic.normal ?_
  clear hHeld
  go_wp2_with fail
  go_ret
  refine ⟨A3, c3, by simp, by simpa using H3.out, ?_, ?_⟩
  · exact (H.out.kf K2.out U2.out).keep K3.out (fun e => by have := (HA.out.blk_ge e).1; omega)
  · exact (PStep.of_kf K2.out hpl).trans (PStep.of_acts K3.out A3'.out (by omega) (fun e => by have := (HA.out.blk_ge e).1; omega))

set_option maxRecDepth 100000 in
set_option maxHeartbeats 1600000 in
theorem do_control (p o B : Nat) (b : BP) (A : Option Addr) (n cc : Nat) (rs0 : List EAct) (c : Nat) (w : World) (h : EscC w p o b) (hA : ActsV w B A n cc rs0) (hpB : p < B) (hB : B ≤ w.heap.size) (hn : n ≤ 900000000) :
    Calls Tryz.prog 60 #[.pointer (some ⟨p, o, none⟩), .slice A n cc, .int .u8 2, .int .i64 (c : Int)] w (DoTo p o B A n rs0 (b, [eControl c]) w) := by
  have H := Lib.hid h
  have HA := Lib.hid hA
  have hpl := h.lt
  obtain ⟨A2, c2, w3, hr, h3, k3, a3⟩ := acts_append w (w.alloc (.cells #[.int .i64 2, .int .i32 0, .int .i64 (c : Int), .int .i64 0, .slice none 0 0, .string ⟨#[]⟩, .string ⟨#[]⟩] 52)) B A n cc rs0 (eControl c) (none, 0) w.heap.size hA ((Below.refl _ w).alloc (Nat.le_refl _) _) hB (numsRow_nil _ _ _ rfl)
    (act_cells_new w (eControl c) (none, 0) _ rfl _ rfl) (by omega)
  have HRU := Lib.hid hr
  have H3 := Lib.hid h3
  have K3 := Lib.hid k3
  have A3' := Lib.hid a3
  clear hr h3 k3 a3 h hA
  go_enter Tryz.func60, Tryz.ntmps60
  go_wp2_with (at_builtin; refine wpList_plain rfl fun K hK => ?_; unfold Oper.wp execOp; simp only [resolve, invoke, builtin, Sem.run_bind, Sem.run_pure, Result.andThen_ok, List.map_toArray, List.map_cons, List.map_nil]; rw [show (Builtin.append_ _ _ #[Act.eval _ _, Act.eval _ _]).run _ _ = _ from HRU.out]; refine hK _ _ ?_)
  go_wp2_with fail
  go_ret
  exact ⟨A2, c2, rfl, H3.out, (H.out.keep ((Keep.refl (fun _ => False) w).alloc _) (fun x => x)).keep K3.out (fun e => by have := (HA.out.blk_ge e).1; omega), (PStep.of_below ((Below.refl _ w).alloc (Nat.le_refl _) _) hpl).trans (PStep.of_acts K3.out A3'.out (by simp; omega) (fun e => by have := (HA.out.blk_ge e).1; omega))⟩

set_option maxRecDepth 100000 in
set_option maxHeartbeats 1600000 in
theorem do_escape (p o B : Nat) (b : BP) (A : Option Addr) (n cc : Nat) (rs0 : List EAct) (c : Nat) (w : World) (h : EscC w p o b) (hA : ActsV w B A n cc rs0) (hpB : p < B) (hB : B ≤ w.heap.size) (hn : n ≤ 900000000) :
    Calls Tryz.prog 60 #[.pointer (some ⟨p, o, none⟩), .slice A n cc, .int .u8 3, .int .i64 (c : Int)] w (DoTo p o B A n rs0 (b, [eEscape b.inter c]) w) := by
  have H := Lib.hid h
  have HA := Lib.hid hA
  have hpl := h.lt
  have c8 : w.cell? ⟨p, o + 7 + 1, none⟩ = some (.string (bytesN b.inter)) := h.g.i.1
  have c8' : w.cell? ⟨p, o + 8, none⟩ = some (.string (bytesN b.inter)) := h.g.i.1
  obtain ⟨A2, c2, w3, hr, h3, k3, a3⟩ := acts_append w (w.alloc (.cells #[.int .i64 3, .int .i32 0, .int .i64 (c : Int), .int .i64 0, .slice none 0 0, .string (bytesN b.inter), .string ⟨#[]⟩] 52)) B A n cc rs0 (eEscape b.inter c) (none, 0) w.heap.size hA ((Below.refl _ w).alloc (Nat.le_refl _) _) hB (numsRow_nil _ _ _ rfl)
    (act_cells_new w (eEscape b.inter c) (none, 0) _ rfl _ rfl) (by omega)
  have HRU := Lib.hid hr
  have H3 := Lib.hid h3
  have K3 := Lib.hid k3
  have A3' := Lib.hid a3
  clear hr h3 k3 a3 h hA
  go_enter Tryz.func60, Tryz.ntmps60
  go_wp2_with (at_builtin; refine wpList_plain rfl fun K hK => ?_; unfold Oper.wp execOp; simp only [resolve, invoke, builtin, Sem.run_bind, Sem.run_pure, Result.andThen_ok, List.map_toArray, List.map_cons, List.map_nil]; rw [show (Builtin.append_ _ _ #[Act.eval _ _, Act.eval _ _]).run _ _ = _ from HRU.out]; refine hK _ _ ?_)
  go_wp2_with fail
  go_ret
  exact ⟨A2, c2, rfl, H3.out, (H.out.keep ((Keep.refl (fun _ => False) w).alloc _) (fun x => x)).keep K3.out (fun e => by have := (HA.out.blk_ge e).1; omega), (PStep.of_below ((Below.refl _ w).alloc (Nat.le_refl _) _) hpl).trans (PStep.of_acts K3.out A3'.out (by simp; omega) (fun e => by have := (HA.out.blk_ge e).1; omega))⟩

set_option maxRecDepth 100000 in
set_option maxHeartbeats 1600000 in
theorem do_osc (p o B : Nat) (b : BP) (A : Option Addr) (n cc : Nat) (rs0 : List EAct) (c : Nat) (w : World) (h : EscC w p o b) (hA : ActsV w B A n cc rs0) (hpB : p < B) (hB : B ≤ w.heap.size) (hn : n ≤ 900000000) :
    Calls Tryz.prog 60 #[.pointer (some ⟨p, o, none⟩), .slice A n cc, .int .u8 5, .int .i64 (c : Int)] w (DoTo p o B A n rs0 (b, [eText 5 b.text]) w) := by
  have H := Lib.hid h
  have HA := Lib.hid hA
  have hpl := h.lt
  have c8 : w.cell? ⟨p, o + 7 + 11, none⟩ = some (.string (bytesN b.text)) := h.g.t.1
  have c8' : w.cell? ⟨p, o + 18, none⟩ = some (.string (bytesN b.text)) := h.g.t.1
  obtain ⟨A2, c2, w3, hr, h3, k3, a3⟩ := acts_append w (w.alloc (.cells #[.int .i64 5, .int .i32 0, .int .i64 0, .int .i64 0, .slice none 0 0, .string ⟨#[]⟩, .string (bytesN b.text)] 52)) B A n cc rs0 (eText 5 b.text) (none, 0) w.heap.size hA ((Below.refl _ w).alloc (Nat.le_refl _) _) hB (numsRow_nil _ _ _ rfl)
    (act_cells_new w (eText 5 b.text) (none, 0) _ rfl _ rfl) (by omega)
  have HRU := Lib.hid hr
  have H3 := Lib.hid h3
  have K3 := Lib.hid k3
  have A3' := Lib.hid a3
  clear hr h3 k3 a3 h hA
  go_enter Tryz.func60, Tryz.ntmps60
  go_wp2_with (at_builtin; refine wpList_plain rfl fun K hK => ?_; unfold Oper.wp execOp; simp only [resolve, invoke, builtin, Sem.run_bind, Sem.run_pure, Result.andThen_ok, List.map_toArray, List.map_cons, List.map_nil]; rw [show (Builtin.append_ _ _ #[Act.eval _ _, Act.eval _ _]).run _ _ = _ from HRU.out]; refine hK _ _ ?_)
  go_wp2_with fail
  go_ret
  exact ⟨A2, c2, rfl, H3.out, (H.out.keep ((Keep.refl (fun _ => False) w).alloc _) (fun x => x)).keep K3.out (fun e => by have := (HA.out.blk_ge e).1; omega), (PStep.of_below ((Below.refl _ w).alloc (Nat.le_refl _) _) hpl).trans (PStep.of_acts K3.out A3'.out (by simp; omega) (fun e => by have := (HA.out.blk_ge e).1; omega))⟩

set_option maxRecDepth 100000 in
set_option maxHeartbeats 1600000 in
theorem do_dcs (p o B : Nat) (b : BP) (A : Option Addr) (n cc : Nat) (rs0 : List EAct) (c : Nat) (w : World) (h : EscC w p o b) (hA : ActsV w B A n cc rs0) (hpB : p < B) (hB : B ≤ w.heap.size) (hn : n ≤ 900000000) :
    Calls Tryz.prog 60 #[.pointer (some ⟨p, o, none⟩), .slice A n cc, .int .u8 6, .int .i64 (c : Int)] w (DoTo p o B A n rs0 (b, [eText 6 b.text]) w) := by
  have H := Lib.hid h
  have HA := Lib.hid hA
  have hpl := h.lt
  have c8 : w.cell? ⟨p, o + 7 + 11, none⟩ = some (.string (bytesN b.text)) := h.g.t.1
  have c8' : w.cell? ⟨p, o + 18, none⟩ = some (.string (bytesN b.text)) := h.g.t.1
  obtain ⟨A2, c2, w3, hr, h3, k3, a3⟩ := acts_append w (w.alloc (.cells #[.int .i64 6, .int .i32 0, .int .i64 0, .int .i64 0, .slice none 0 0, .string ⟨#[]⟩, .string (bytesN b.text)] 52)) B A n cc rs0 (eText 6 b.text) (none, 0) w.heap.size hA ((Below.refl _ w).alloc (Nat.le_refl _) _) hB (numsRow_nil _ _ _ rfl)
    (act_cells_new w (eText 6 b.text) (none, 0) _ rfl _ rfl) (by omega)
  have HRU := Lib.hid hr
  have H3 := Lib.hid h3
  have K3 := Lib.hid k3
  have A3' := Lib.hid a3
  clear hr h3 k3 a3 h hA
  go_enter Tryz.func60, Tryz.ntmps60
  go_wp2_with (at_builtin; refine wpList_plain rfl fun K hK => ?_; unfold Oper.wp execOp; simp only [resolve, invoke, builtin, Sem.run_bind, Sem.run_pure, Result.andThen_ok, List.map_toArray, List.map_cons, List.map_nil]; rw [show (Builtin.append_ _ _ #[Act.eval _ _, Act.eval _ _]).run _ _ = _ from HRU.out]; refine hK _ _ ?_)
  go_wp2_with fail
  go_ret
  exact ⟨A2, c2, rfl, H3.out, (H.out.keep ((Keep.refl (fun _ => False) w).alloc _) (fun x => x)).keep K3.out (fun e => by have := (HA.out.blk_ge e).1; omega), (PStep.of_below ((Below.refl _ w).alloc (Nat.le_refl _) _) hpl).trans (PStep.of_acts K3.out A3'.out (by simp; omega) (fun e => by have := (HA.out.blk_ge e).1; omega))⟩

set_option maxRecDepth 100000 in
set_option maxHeartbeats 1600000 in
theorem do_csi (p o B : Nat) (b : BP) (A : Option Addr) (n cc : Nat) (rs0 : List EAct) (c : Nat) (w : World) (h : EscC w p o b) (hA : ActsV w B A n cc rs0) (hpB : p < B) (hB : B ≤ w.heap.size) (hn : n ≤ 900000000) :
    Calls Tryz.prog 60 #[.pointer (some ⟨p, o, none⟩), .slice A n cc, .int .u8 4, .int .i64 (c : Int)] w (DoTo p o B A n rs0 (b, [eCsi b.mark b.nums b.inter c]) w) := by
  have H := Lib.hid h
  have HA := Lib.hid hA
  have hpl := h.lt
  have cm : w.cell? ⟨p, o + 7, none⟩ = some (.int .i64 (b.mark : Int)) := h.g.m.1
  have ci : w.cell? ⟨p, o + 7 + 1, none⟩ = some (.string (bytesN b.inter)) := h.g.i.1
  have ci' : w.cell? ⟨p, o + 8, none⟩ = some (.string (bytesN b.inter)) := h.g.i.1
  have HN := Lib.hid (fun W hN => num_all p (o + 7 + 2) b.nums b.came W hN)
  clear h hA
  go_enter Tryz.func60, Tryz.ntmps60
  go_wp2_with fail
  refine wp_region_noPanic ?_
  refine wp_region_held_drew (S := fun w' => w'.cell? ⟨p, o + 7, none⟩ = some (.int .i64 (b.mark : Int)) ∧ w'.cell? ⟨p, o + 7 + 1, none⟩ = some (.string (bytesN b.inter)) ∧ w'.cell? ⟨p, o + 8, none⟩ = some (.string (bytesN b.inter))) (by kernel_rfl) ⟨cm, ci, ci'⟩ (fun hHeld => ?_)
  refine wpAnyH_take (i := 0) (oi := _) (v := ?va0) rfl (by kernel_rfl) (by kernel_rfl) (by kernel_rfl) (fun _ _ _ h => h) (Or.inl ⟨by rfl, ?hya0⟩) (by assumption) ?resta0
  case hya0 => (intro w hSw; (try dsimp only at hSw); (try simp only [List.getElem_toArray, List.getElem_cons_zero, List.getElem_cons_succ]); go_simp; (try with_reducible rfl))
  (try simp only [Act.put, List.setIfInBounds_toArray, List.set_cons_zero, List.set_cons_succ, List.getElem_toArray, List.getElem_cons_zero, List.getElem_cons_succ])
  refine wpAnyH_take (i := 1) (oi := _) (v := ?va1) rfl (by kernel_rfl) (by kernel_rfl) (by kernel_rfl) (fun _ _ _ h => h) (Or.inl ⟨by rfl, ?hya1⟩) (by assumption) ?resta1
  case hya1 => (intro w hSw; (try dsimp only at hSw); (try simp only [List.getElem_toArray, List.getElem_cons_zero, List.getElem_cons_succ]); go_simp; (try with_reducible rfl))
  (try simp only [Act.put, List.setIfInBounds_toArray, List.set_cons_zero, List.set_cons_succ, List.getElem_toArray, List.getElem_cons_zero, List.getElem_cons_succ])
  refine wpAnyH_take (i := 2) (oi := _) (v := ?va2) rfl (by kernel_rfl) (by kernel_rfl) (by kernel_rfl) (fun _ _ _ h => h) (Or.inl ⟨by rfl, ?hya2⟩) (by assumption) ?resta2
  case hya2 => (intro w hSw; (try dsimp only at hSw); (try simp only [List.getElem_toArray, List.getElem_cons_zero, List.getElem_cons_succ]); go_simp; (try with_reducible rfl))
  (try simp only [Act.put, List.setIfInBounds_toArray, List.set_cons_zero, List.set_cons_succ, List.getElem_toArray, List.getElem_cons_zero, List.getElem_cons_succ])
  refine wpAnyH_take (i := 3) (oi := _) (v := ?va3) rfl (by kernel_rfl) (by kernel_rfl) (by kernel_rfl) (fun _ _ _ h => h) (Or.inl ⟨by rfl, ?hya3⟩) (by assumption) ?resta3
  case hya3 => (intro w hSw; (try dsimp only at hSw); (try simp only [List.getElem_toArray, List.getElem_cons_zero, List.getElem_cons_succ]); go_simp; (try with_reducible rfl))
  (try simp only [Act.put, List.setIfInBounds_toArray, List.set_cons_zero, List.set_cons_succ, List.getElem_toArray, List.getElem_cons_zero, List.getElem_cons_succ])
  refine wpAnyH_take (i := 4) (oi := _) (v := ?va4) rfl (by kernel_rfl) (by kernel_rfl) (by kernel_rfl) (fun _ _ _ h => h) (Or.inl ⟨by rfl, ?hya4⟩) (by assumption) ?resta4
  case hya4 => (intro w hSw; (try dsimp only at hSw); (try simp only [List.getElem_toArray, List.getElem_cons_zero, List.getElem_cons_succ]); go_simp; (try with_reducible rfl))
  (try simp only [Act.put, List.setIfInBounds_toArray, List.set_cons_zero, List.set_cons_succ, List.getElem_toArray, List.getElem_cons_zero, List.getElem_cons_succ])
  refine wpAnyH_take (i := 5) (oi := _) (v := ?va5) rfl (by kernel_rfl) (by kernel_rfl) (by kernel_rfl) (fun _ _ _ h => h) (Or.inl ⟨by rfl, ?hya5⟩) (by assumption) ?resta5
  case hya5 => (intro w hSw; (try dsimp only at hSw); (try simp only [List.getElem_toArray, List.getElem_cons_zero, List.getElem_cons_succ]); go_simp; (try with_reducible rfl))
  (try simp only [Act.put, List.setIfInBounds_toArray, List.set_cons_zero, List.set_cons_succ, List.getElem_toArray, List.getElem_cons_zero, List.getElem_cons_succ])
  refine wpAnyH_take (i := 6) (oi := _) (v := ?va6) rfl (by kernel_rfl) (by kernel_rfl) (by kernel_rfl) (fun _ _ _ h => h) (Or.inl ⟨by rfl, ?hya6⟩) (by assumption) ?resta6
  case hya6 => (intro w hSw; (try dsimp only at hSw); (try simp only [List.getElem_toArray, List.getElem_cons_zero, List.getElem_cons_succ]); go_simp; (try with_reducible rfl))
  (try simp only [Act.put, List.setIfInBounds_toArray, List.set_cons_zero, List.set_cons_succ, List.getElem_toArray, List.getElem_cons_zero, List.getElem_cons_succ])
  refine wpAnyH_take (i := 7) (oi := _) (v := ?va7) rfl (by kernel_rfl) (by kernel_rfl) (by kernel_rfl) (fun _ _ _ h => h) (Or.inl ⟨by rfl, ?hya7⟩) (by assumption) ?resta7
  case hya7 => (intro w hSw; (try dsimp only at hSw); (try simp only [List.getElem_toArray, List.getElem_cons_zero, List.getElem_cons_succ]); go_simp; (try with_reducible rfl))
  (try simp only [Act.put, List.setIfInBounds_toArray, List.set_cons_zero, List.set_cons_succ, List.getElem_toArray, List.getElem_cons_zero, List.getElem_cons_succ])
  refine wpAnyH_take (i := 9) (oi := _) (v := ?va9) rfl (by kernel_rfl) (by kernel_rfl) (by kernel_rfl) (fun _ _ _ h => h) (Or.inl ⟨by rfl, ?hya9⟩) (by assumption) ?resta9
  case hya9 => (intro w hSw; (try dsimp only at hSw); (try simp only [List.getElem_toArray, List.getElem_cons_zero, List.getElem_cons_succ]); go_simp; (try with_reducible rfl))
  (try simp only [Act.put, List.setIfInBounds_toArray, List.set_cons_zero, List.set_cons_succ, List.getElem_toArray, List.getElem_cons_zero, List.getElem_cons_succ])
  refine wpAnyH_take (i := 10) (oi := _) (v := ?va10) rfl (by kernel_rfl) (by kernel_rfl) (by kernel_rfl) (fun _ _ _ h => h) (Or.inl ⟨by rfl, ?hya10⟩) (by assumption) ?resta10
  case hya10 => (intro w hSw; (try dsimp only at hSw); (try simp only [List.getElem_toArray, List.getElem_cons_zero, List.getElem_cons_succ]); go_simp; (try with_reducible rfl))
  (try simp only [Act.put, List.setIfInBounds_toArray, List.set_cons_zero, List.set_cons_succ, List.getElem_toArray, List.getElem_cons_zero, List.getElem_cons_succ])
  refine wpAnyH_take (i := 11) (oi := _) (v := ?va11) rfl (by kernel_rfl) (by kernel_rfl) (by kernel_rfl) (fun _ _ _ h => h) (Or.inl ⟨by rfl, ?hya11⟩) (by assumption) ?resta11
  case hya11 => (intro w hSw; (try dsimp only at hSw); (try simp only [List.getElem_toArray, List.getElem_cons_zero, List.getElem_cons_succ]); go_simp; (try with_reducible rfl))
  (try simp only [Act.put, List.setIfInBounds_toArray, List.set_cons_zero, List.set_cons_succ, List.getElem_toArray, List.getElem_cons_zero, List.getElem_cons_succ])
  refine wpAnyH_take (i := 12) (oi := _) (v := ?va12) rfl (by kernel_rfl) (by kernel_rfl) (by kernel_rfl) (fun _ _ _ h => h) (Or.inl ⟨by rfl, ?hya12⟩) (by assumption) ?resta12
  case hya12 => (intro w hSw; (try dsimp only at hSw); (try simp only [List.getElem_toArray, List.getElem_cons_zero, List.getElem_cons_succ]); go_simp; (try with_reducible rfl))
  (try simp only [Act.put, List.setIfInBounds_toArray, List.set_cons_zero, List.set_cons_succ, List.getElem_toArray, List.getElem_cons_zero, List.getElem_cons_succ])
  refine wpAnyH_take (i := 13) (oi := _) (v := ?va13) rfl (by kernel_rfl) (by kernel_rfl) (by kernel_rfl) (fun _ _ _ h => h) (Or.inl ⟨by rfl, ?hya13⟩) (by assumption) ?resta13
  case hya13 => (intro w hSw; (try dsimp only at hSw); (try simp only [List.getElem_toArray, List.getElem_cons_zero, List.getElem_cons_succ]); go_simp; (try with_reducible rfl))
  (try simp only [Act.put, List.setIfInBounds_toArray, List.set_cons_zero, List.set_cons_succ, List.getElem_toArray, List.getElem_cons_zero, List.getElem_cons_succ])
  refine wpAnyH_ready (rs := [8]) (by kernel_rfl) (by simp) ?_
  refine AllReadyH.cons (o := _) rfl (fun K hK => ?_) AllReadyH.nil
  (try simp only [List.getElem_toArray, List.getElem_cons_zero, List.getElem_cons_succ])
  go_simp
  refine (HN.out _ H.out.g.n.drew).mono ?_; rintro e w1 ⟨NA, nd, rfl, hno, hb⟩; have B1 : Hid (Below w.heap.size w w1) := Lib.hid ⟨hb.os, hb.tape, hb.output, hb.size, hb.block⟩; have NO : Hid (w1.ownsRow w.heap.size 3 1 (.slice NA b.nums.length nd) b.nums.length (b.nums.map (Value.int .i64))) := Lib.hid hno; have hs1 := B1.out.size; clear hb hno; obtain ⟨A2, c2, w3, hr, h3, k3, a3⟩ := acts_append w (w1.alloc (.cells #[.int .i64 4, .int .i32 0, .int .i64 (c : Int), .int .i64 (b.mark : Int), .slice NA b.nums.length nd, .string (bytesN b.inter), .string ⟨#[]⟩] 52)) B A n cc rs0 (eCsi b.mark b.nums b.inter c) (NA, nd) w1.heap.size HA.out (B1.out.alloc hs1 _) hB (NO.out.alloc _) (act_cells_new w1 (eCsi b.mark b.nums b.inter c) (NA, nd) _ rfl _ rfl) (by omega); have HRU := Lib.hid hr; have H3 := Lib.hid h3; have K3 := Lib.hid k3; have A3' := Lib.hid a3; have HC1 := Lib.hid (H.out.below B1.out); clear hr h3 k3 a3
  refine hK.out _ _ ?_ (fun hHeld => ?_)
  · exact ⟨HC1.out.g.m.1, HC1.out.g.i.1, HC1.out.g.i.1⟩
  clear hK K
  (try simp only [Act.put, List.setIfInBounds_toArray, List.set_cons_zero, List.set_cons_succ, List.getElem_toArray, List.getElem_cons_zero, List.getElem_cons_succ])
  refine wpAnyH_take (i := 14) (oi := _) (v := ?va14) rfl (by kernel_rfl) (by kernel_rfl) (by kernel_rfl) (fun _ _ _ h => h) (Or.inl ⟨by rfl, ?hya14⟩) (by assumption) ?resta14
  case hya14 => (intro w hSw; (try dsimp only at hSw); (try simp only [List.getElem_toArray, List.getElem_cons_zero, List.getElem_cons_succ]); go_simp; (try with_reducible rfl))
  (try simp only [Act.put, List.setIfInBounds_toArray, List.set_cons_zero, List.set_cons_succ, List.getElem_toArray, List.getElem_cons_zero, List.getElem_cons_succ])
  refine wpAnyH_ready (rs := [15]) (by kernel_rfl) (by simp) ?_
  refine AllReadyH.cons (o := _) rfl (fun K hK => ?_) AllReadyH.nil
  (try simp only [List.getElem_toArray, List.getElem_cons_zero, List.getElem_cons_succ])
  go_simp
  refine hK.out _ _ ?_ (fun hHeld => ?_)
  · exact ⟨(HC1.out.g.m.alloc _).1, (HC1.out.g.i.alloc _).1, (HC1.out.g.i.alloc _).1⟩
  clear hK K
  (try simp only [Act.put, List.setIfInBounds_toArray, List.set_cons_zero, List.set_cons_succ, List.getElem_toArray, List.getElem_cons_zero, List.getElem_cons_succ])
  refine wpAnyH_ready (rs := [16]) (by kernel_rfl) (by simp) ?_
  refine AllReadyH.cons (o := _) rfl (fun K hK => ?_) AllReadyH.nil
  (try simp only [List.getElem_toArray, List.getElem_cons_zero, List.getElem_cons_succ])
  rw [if_pos (by rfl)]; unfold Oper.wp execOp; simp only [resolve, invoke, builtin, Sem.run_bind, Sem.run_pure, Result.andThen_ok, List.map_toArray, List.map_cons, List.map_nil]; rw [show (Builtin.append_ _ _ #[Act.eval _ _, Act.eval _ _]).run _ _ = _ from HRU.out]; have HC3 := Lib.hid ((HC1.out.keep ((Keep.refl (fun _ => False) w1).alloc _) (fun x => x)).keep K3.out (fun e => by have := (HA.out.blk_ge e).1; omega))
  refine hK.out _ _ ?_ (fun hHeld => ?_)
  · exact ⟨HC3.out.g.m.1, HC3.out.g.i.1, HC3.out.g.i.1⟩
  clear hK K
  (try simp only [Act.put, List.setIfInBounds_toArray, List.set_cons_zero, List.set_cons_succ, List.getElem_toArray, List.getElem_cons_zero, List.getElem_cons_succ])
  refine wpAnyH_take (i := 17) (oi := _) (v := ?va17) rfl (by kernel_rfl) (by kernel_rfl) (by kernel_rfl) (fun _ _ _ h => h) (Or.inl ⟨by rfl, ?hya17⟩) (by assumption) ?resta17
  case hya17 => (intro w hSw; (try dsimp only at hSw); (try simp only [List.getElem_toArray, List.getElem_cons_zero, List.getElem_cons_succ]); go_simp; (try with_reducible rfl))
  (try simp only [Act.put, List.setIfInBounds_toArray, List.set_cons_zero, List.set_cons_succ, List.getElem_toArray, List.getElem_cons_zero, List.getElem_cons_succ])
  refine wpAnyH_done (by kernel_rfl) ?_ _
  refine NoPanic.normal ?_
  clear hHeld
  go_wp2_with fail
  go_ret
  exact ⟨A2, c2, rfl, H3.out, HC3.out, (PStep.of_below (B1.out.alloc hs1 _) hpl).trans (PStep.of_acts K3.out A3'.out (by simp; omega) (fun e => by have := (HA.out.blk_ge e).1; omega))⟩

set_option maxRecDepth 100000 in
set_option maxHeartbeats 1600000 in
theorem do_keep (p o B : Nat) (b : BP) (A : Option Addr) (n cc : Nat) (rs0 : List EAct) (d c : Nat) (w : World) (h : EscC w p o b) (hA : ActsV w B A n cc rs0) (hpB : p < B) (hb : b.Ok) (hc : c < 256) (hn : b.came < 1000000000) (hd9 : d = 9 → 48 ≤ c ∧ c ≤ 57) (hd : d = 0 ∨ 6 < d) :
    Calls Tryz.prog 60 #[.pointer (some ⟨p, o, none⟩), .slice A n cc, .int .u8 (d : Int), .int .i64 (c : Int)] w (DoTo p o B A n rs0 (keepE b d c, []) w) := by
  have H := Lib.hid h
  have HA := Lib.hid hA
  have hpl := h.lt
  have HK := Lib.hid (esc_keep p (o + 7) b d c w h.g (by have := hb.few; omega) (by have := hb.tx; omega) hc hn hd9)
  have t1 : ((d : Int) == 1) = false := by simp; omega
  have t2 : ((d : Int) == 2) = false := by simp; omega
  have t3 : ((d : Int) == 3) = false := by simp; omega
  have t4 : ((d : Int) == 4) = false := by simp; omega
  have t5 : ((d : Int) == 5) = false := by simp; omega
  have t6 : ((d : Int) == 6) = false := by simp; omega
  have hs : (keepE b d c).s = b.s ∧ (keepE b d c).u = b.u := by
    unfold keepE
    repeat' split
    all_goals exact ⟨rfl, rfl⟩
  have HS := Lib.hid hs
  clear h hA hb hc hn hd9 hd hs
  go_enter Tryz.func60, Tryz.ntmps60
  go_wp2_with fail
  refine HK.out.mono ?_
  rintro e w1 ⟨rfl, h1, h2⟩
  have H1 := Lib.hid h1
  have H2 := Lib.hid h2
  clear h1 h2
  go_wp2_with fail
  go_ret
  refine ⟨A, cc, rfl, by simpa using HA.out.keep H2.out.keep (fun i hi e => by omega), ⟨?_, ?_, H1.out⟩, PStep.of_span H2.out (by omega) (by omega)⟩
  · rw [HS.out.1]; exact H2.out.cell H.out.s (by omega)
  · rw [HS.out.2]; exact H.out.u.span H2.out (by omega)

/-- do. -/
theorem esc_do (p o B : Nat) (b : BP) (A : Option Addr) (n cc : Nat) (rs0 : List EAct) (d c : Nat) (w : World) (h : EscC w p o b) (hA : ActsV w B A n cc rs0) (hpB : p < B) (hB : B ≤ w.heap.size) (hb : b.Ok) (hc : c < 256) (hn : b.came < 1000000000) (hd9 : d = 9 → 48 ≤ c ∧ c ≤ 57) (hnn : n ≤ 900000000) :
    Calls Tryz.prog 60 #[.pointer (some ⟨p, o, none⟩), .slice A n cc, .int .u8 (d : Int), .int .i64 (c : Int)] w (DoTo p o B A n rs0 (doE b d c) w) := by
  by_cases h1 : d = 1
  · subst h1; exact do_print p o B b A n cc rs0 c w h hA hpB hB hc hnn
  by_cases h2 : d = 2
  · subst h2; exact do_control p o B b A n cc rs0 c w h hA hpB hB hnn
  by_cases h3 : d = 3
  · subst h3; exact do_escape p o B b A n cc rs0 c w h hA hpB hB hnn
  by_cases h4 : d = 4
  · subst h4; exact do_csi p o B b A n cc rs0 c w h hA hpB hB hnn
  by_cases h5 : d = 5
  · subst h5; exact do_osc p o B b A n cc rs0 c w h hA hpB hB hnn
  by_cases h6 : d = 6
  · subst h6; exact do_dcs p o B b A n cc rs0 c w h hA hpB hB hnn
  have e : doE b d c = (keepE b d c, []) := by unfold doE; simp [h1, h2, h3, h4, h5, h6]
  rw [e]
  exact do_keep p o B b A n cc rs0 d c w h hA hpB hb hc hn hd9 (by omega)

end Go.Proofs.YtnminmaklbhakaaGreatDoor
