/- esc over lists: the document's parser, byte by byte; what its statements ask of it. It speaks of no program. Own work. -/
import Derived.Test.YthphnjilbpidgaaUtfs
namespace Go.Proofs.Ythphnjilbpidgaa
set_option linter.unusedVariables false
set_option linter.unusedSimpArgs false

/-- An act, over lists (kind 1 Print, 2 Control, 3 Escape, 4 Csi, 5 Osc, 6 Dcs). -/
structure EAct where
  kind : Nat
  rune : Nat
  byte : Nat
  mark : Nat
  nums : List Int
  inter : List Nat
  text : List Nat

def ePrint (r : Nat) : EAct := ⟨1, r, 0, 0, [], [], []⟩
def eControl (c : Nat) : EAct := ⟨2, 0, c, 0, [], [], []⟩
def eEscape (i : List Nat) (c : Nat) : EAct := ⟨3, 0, c, 0, [], i, []⟩
def eCsi (m : Nat) (n : List Int) (i : List Nat) (c : Nat) : EAct := ⟨4, 0, c, m, n, i, []⟩
def eText (k : Nat) (t : List Nat) : EAct := ⟨k, 0, 0, 0, [], [], t⟩

/-- A parser: st 0 ground, 1 escape, 2 csi, 3 osc, 4 dcs; u: the bytes of a rune that is half read. -/
structure PL where
  st : Nat
  u : List Nat
  inter : List Nat
  mark : Nat
  nums : List Int
  any : Bool
  first : Bool
  wrong : Bool
  body : List Nat

/-- A state's beginning. -/
def pAt (s : Nat) : PL := ⟨s, [], [], 0, [], false, decide (s = 2), false, []⟩
def PL.text (p : PL) : Prop := p.st = 3 ∨ p.st = 4
instance (p : PL) : Decidable p.text := by unfold PL.text; infer_instance
def PL.ends (p : PL) : EAct := eText (if p.st = 4 then 6 else 5) p.body
def PL.more (p : PL) (c : Nat) : PL := if 2 ≤ p.inter.length then { p with wrong := true } else { p with inter := p.inter ++ [c] }
def PL.flushed (p : PL) : List EAct := if p.u = [] then [] else [ePrint 65533]

def escP (p : PL) (c : Nat) : PL × List EAct :=
  if c < 48 then (p.more c, [])
  else if c = 91 ∧ p.inter = [] then (pAt 2, [])
  else if c = 93 ∧ p.inter = [] then (pAt 3, [])
  else if c = 80 ∧ p.inter = [] then (pAt 4, [])
  else (pAt 0, if p.wrong = true then [] else [eEscape p.inter c])

/-- The last of the numbers, with one more digit. -/
def digitL (l : List Int) (d : Nat) : List Int := l.dropLast ++ [min (max (l.getLastD (-1)) 0 * 10 + (d : Int)) 9999]

def csiP (p : PL) (c : Nat) : PL × List EAct :=
  if c < 48 then ({ p with first := false }.more c, [])
  else if 60 ≤ c ∧ c ≤ 63 ∧ p.first = true then ({ p with first := false, mark := c }, [])
  else if (60 ≤ c ∧ c ≤ 63) ∨ c = 58 ∨ (c ≤ 59 ∧ p.inter ≠ []) then ({ p with first := false, wrong := true }, [])
  else if c ≤ 57 then ({ p with first := false, any := true, nums := digitL (if p.any = true then p.nums else [-1]) (c - 48) }, [])
  else if c = 59 then ({ p with first := false, any := true, nums := (if p.any = true then p.nums else [-1]) ++ (if (if p.any = true then p.nums else [-1]).length ≤ 8 then [-1] else []) }, [])
  else (pAt 0, if p.wrong = true then [] else [eCsi p.mark (p.nums.take 8) p.inter c])

/-- One byte. -/
def byteP (p : PL) (c : Nat) : PL × List EAct :=
  if c = 24 ∨ c = 26 then (pAt 0, if p.st = 0 then p.flushed else [])
  else if c = 27 then (pAt 1, if p.st = 0 then p.flushed else if p.text then [p.ends] else [])
  else if c < 32 then
    if p.text then (if c = 7 ∧ p.st = 3 then (pAt 0, [p.ends]) else (p, []))
    else if p.st = 0 then ({ p with u := [] }, p.flushed ++ [eControl c]) else (p, [eControl c])
  else if c = 127 ∧ ¬ p.text then (if p.st = 0 then ({ p with u := [] }, p.flushed) else (p, []))
  else if p.text then (if p.body.length < 60 then { p with body := p.body ++ [c] } else p, [])
  else if p.st = 1 ∧ c < 128 then escP p c
  else if p.st = 2 ∧ c < 128 then csiP p c
  else if p.st = 0 then ({ p with u := (byteB p.u c).1 }, (byteB p.u c).2.map ePrint)
  else ({ (pAt 0) with u := (byteB [] c).1 }, (byteB [] c).2.map ePrint)

def feedP : PL → List Nat → PL × List EAct
  | p, [] => (p, [])
  | p, c :: r => ((feedP (byteP p c).1 r).1, (byteP p c).2 ++ (feedP (byteP p c).1 r).2)

theorem feedP_add (p : PL) (a b : List Nat) : feedP p (a ++ b) = ((feedP (feedP p a).1 b).1, (feedP p a).2 ++ (feedP (feedP p a).1 b).2) := by
  induction a generalizing p with
  | nil => simp [feedP]
  | cons x r ih => simp [feedP, ih, List.append_assoc]
theorem feedP_one (p : PL) (c : Nat) : feedP p [c] = byteP p c := by simp [feedP]
theorem feedP_cons (p : PL) (c : Nat) (r : List Nat) : feedP p (c :: r) = ((feedP (byteP p c).1 r).1, (byteP p c).2 ++ (feedP (byteP p c).1 r).2) := rfl

/-- What holds of every parser: a rune is half read in ground alone. -/
structure PL.Ok (p : PL) : Prop where
  st : p.st ≤ 4
  u : p.st ≠ 0 → p.u = []
  g : p.st = 0 → p = { (pAt 0) with u := p.u }
  few : p.inter.length ≤ 2
  nm : p.nums.length ≤ 9
  bd : p.body.length ≤ 60
  tx : p.text → p.inter = [] ∧ p.nums = []
  tx' : ¬ p.text → p.body = []
  es : p.st ≠ 2 → p.nums = []

theorem PL.Ok.at' (s : Nat) (hs : s ≤ 4) : (pAt s).Ok :=
  ⟨hs, fun _ => rfl, fun h => by have : s = 0 := h; subst this; rfl, by simp [pAt], by simp [pAt], by simp [pAt], fun _ => ⟨rfl, rfl⟩, fun _ => rfl, fun _ => rfl⟩

/-- Whatever came, 24 gives it up. -/
theorem byteP_24 (p : PL) : (byteP p 24).1 = pAt 0 := by unfold byteP; rw [if_pos (.inl rfl)]
theorem byteP_26 (p : PL) : (byteP p 26).1 = pAt 0 := by unfold byteP; rw [if_pos (.inr rfl)]

/-- Plain text. -/
theorem byteB_low (c : Nat) (h : c < 128) : byteB [] c = ([], [c]) := by
  simp [byteB, mayB, h]
theorem byteP_plain (c : Nat) (h1 : 32 ≤ c) (h2 : c ≤ 126) : byteP (pAt 0) c = (pAt 0, [ePrint c]) := by
  unfold byteP
  rw [if_neg (by omega), if_neg (by omega), if_neg (by omega), if_neg (by simp only [not_and]; intro e; omega), if_neg (by simp [PL.text, pAt]), if_neg (by simp [pAt]), if_neg (by simp [pAt]), if_pos (show (pAt 0).st = 0 from rfl)]
  show ({ (pAt 0) with u := (byteB [] c).1 }, (byteB [] c).2.map ePrint) = _
  rw [byteB_low c (by omega)]
  rfl
theorem feedP_plain (l : List Nat) (h : ∀ c ∈ l, 32 ≤ c ∧ c ≤ 126) : feedP (pAt 0) l = (pAt 0, l.map ePrint) := by
  induction l with
  | nil => rfl
  | cons c r ih =>
    obtain ⟨h1, h2⟩ := h c (by simp)
    rw [feedP_cons, byteP_plain c h1 h2, ih (fun x hx => h x (by simp [hx]))]
    rfl

/-- The bytes of an osc, a dcs. -/
theorem byteP_body (p : PL) (ht : p.text) (c : Nat) (h : 32 ≤ c) : byteP p c = (if p.body.length < 60 then { p with body := p.body ++ [c] } else p, []) := by
  unfold byteP
  rw [if_neg (by omega), if_neg (by omega), if_neg (by omega), if_neg (by intro e; exact e.2 ht), if_pos ht]
theorem feedP_body (l : List Nat) (h : ∀ c ∈ l, 32 ≤ c) : ∀ (p : PL), p.text → p.body.length ≤ 60 → feedP p l = ({ p with body := (p.body ++ l).take 60 }, []) := by
  induction l with
  | nil =>
    intro p ht hp
    rw [List.append_nil, List.take_of_length_le hp]; rfl
  | cons c r ih =>
    intro p ht hp
    rw [feedP_cons, byteP_body p ht c (h c (by simp))]
    have hr := ih (fun x hx => h x (by simp [hx]))
    by_cases hl : p.body.length < 60
    · rw [if_pos hl]
      have := hr { p with body := p.body ++ [c] } ht (by simp; omega)
      rw [this]
      simp
    · rw [if_neg hl]
      have e : p.body.length = 60 := by omega
      rw [hr p ht hp, List.take_append_of_le_length (by omega), List.take_append_of_le_length (by omega)]
      rfl

theorem PL.Ok.more {p : PL} (h : p.Ok) (hs : p.st ≠ 0) (ht : ¬ p.text) (c : Nat) : (p.more c).Ok := by
  unfold PL.more
  split
  · exact ⟨h.st, fun e => h.u e, fun e => absurd e hs, h.few, h.nm, h.bd, fun e => absurd e ht, h.tx', h.es⟩
  · exact ⟨h.st, fun e => h.u e, fun e => absurd e hs, by simp; omega, h.nm, h.bd, fun e => absurd e ht, h.tx', h.es⟩

theorem escP_ok {p : PL} (h : p.Ok) (hs : p.st = 1) (c : Nat) : (escP p c).1.Ok := by
  have ht : ¬ p.text := by unfold PL.text; omega
  unfold escP
  split
  · exact h.more (by omega) ht c
  split
  · exact PL.Ok.at' 2 (by omega)
  split
  · exact PL.Ok.at' 3 (by omega)
  split
  · exact PL.Ok.at' 4 (by omega)
  · exact PL.Ok.at' 0 (by omega)

theorem PL.Ok.nofirst {p : PL} (h : p.Ok) (hs : p.st = 2) : ({ p with first := false } : PL).Ok :=
  ⟨h.st, h.u, fun e => by have : p.st = 0 := e; omega, h.few, h.nm, h.bd, h.tx, h.tx', h.es⟩

theorem csiP_ok {p : PL} (h : p.Ok) (hs : p.st = 2) (c : Nat) : (csiP p c).1.Ok := by
  have ht : ¬ p.text := by unfold PL.text; omega
  have hf := h.nofirst hs
  have hb := h.tx' ht
  unfold csiP
  split
  · exact hf.more (by show p.st ≠ 0; omega) ht c
  split
  · exact ⟨h.st, h.u, fun e => by have : p.st = 0 := e; omega, h.few, h.nm, h.bd, fun e => absurd e ht, h.tx', fun e => absurd hs e⟩
  split
  · exact ⟨h.st, h.u, fun e => by have : p.st = 0 := e; omega, h.few, h.nm, h.bd, fun e => absurd e ht, h.tx', fun e => absurd hs e⟩
  split
  · refine ⟨h.st, h.u, fun e => by have : p.st = 0 := e; omega, h.few, ?_, h.bd, fun e => absurd e ht, h.tx', fun e => absurd hs e⟩
    have := h.nm
    simp only [digitL, List.length_append, List.length_dropLast, List.length_cons, List.length_nil]
    split
    · omega
    · simp
  split
  · refine ⟨h.st, h.u, fun e => by have : p.st = 0 := e; omega, h.few, ?_, h.bd, fun e => absurd e ht, h.tx', fun e => absurd hs e⟩
    have := h.nm
    simp only [List.length_append]
    split
    · split
      · simp; omega
      · simp; omega
    · simp
  · exact PL.Ok.at' 0 (by omega)

theorem PL.Ok.ground {u : List Nat} : ({ (pAt 0) with u := u } : PL).Ok :=
  ⟨by simp [pAt], fun e => absurd rfl e, fun _ => rfl, by simp [pAt], by simp [pAt], by simp [pAt], fun e => by simp [PL.text, pAt] at e, fun _ => rfl, fun _ => rfl⟩

theorem PL.Ok.byte {p : PL} (h : p.Ok) (c : Nat) : (byteP p c).1.Ok := by
  have hg : ∀ u, p.st = 0 → ({ p with u := u } : PL).Ok := fun u e => by
    have := h.g e
    rw [this]; exact PL.Ok.ground
  unfold byteP
  split
  · exact PL.Ok.at' 0 (by omega)
  split
  · exact PL.Ok.at' 1 (by omega)
  split
  · split
    · split
      · exact PL.Ok.at' 0 (by omega)
      · exact h
    · split
      · rename_i e; exact hg _ e
      · exact h
  split
  · split
    · rename_i e; exact hg _ e
    · exact h
  split
  · rename_i ht
    simp only
    split
    · rename_i hl
      refine ⟨h.st, h.u, fun e => ?_, h.few, h.nm, by simp; omega, h.tx, fun e => absurd ht e, h.es⟩
      have : p.st = 0 := e
      unfold PL.text at ht; omega
    · exact h
  split
  · rename_i e; exact escP_ok h e.1 c
  split
  · rename_i e; exact csiP_ok h e.1 c
  split
  · rename_i e; exact hg _ e
  · exact PL.Ok.ground

theorem PL.Ok.feed {p : PL} (h : p.Ok) (l : List Nat) : (feedP p l).1.Ok := by
  induction l generalizing p with
  | nil => exact h
  | cons c r ih => exact ih (h.byte c)

/-- Controls within a sequence are told, and it goes on; 127 is nothing. -/
theorem byteP_control (p : PL) (hs : p.st = 1 ∨ p.st = 2) (c : Nat) (h1 : c < 32) (h2 : c ≠ 24) (h3 : c ≠ 26) (h4 : c ≠ 27) : byteP p c = (p, [eControl c]) := by
  have ht : ¬ p.text := by unfold PL.text; omega
  unfold byteP
  rw [if_neg (by omega), if_neg h4, if_pos h1, if_neg ht, if_neg (by omega)]
theorem byteP_127 (p : PL) (hs : p.st = 1 ∨ p.st = 2) : byteP p 127 = (p, []) := by
  have ht : ¬ p.text := by unfold PL.text; omega
  unfold byteP
  rw [if_neg (by omega), if_neg (by omega), if_neg (by omega), if_pos ⟨rfl, ht⟩, if_neg (by omega)]
theorem byteP_27 (p : PL) : (byteP p 27).1 = pAt 1 := by
  unfold byteP; rw [if_neg (by omega), if_pos rfl]

/-- Digits, in csi. -/
theorem byteP_csi (p : PL) (hs : p.st = 2) (c : Nat) (h1 : 32 ≤ c) (h2 : c ≤ 126) : byteP p c = csiP p c := by
  have ht : ¬ p.text := by unfold PL.text; omega
  unfold byteP
  rw [if_neg (by omega), if_neg (by omega), if_neg (by omega), if_neg (by intro e; omega), if_neg ht, if_neg (by omega), if_pos ⟨hs, by omega⟩]
theorem byteP_esc (p : PL) (hs : p.st = 1) (c : Nat) (h1 : 32 ≤ c) (h2 : c ≤ 126) : byteP p c = escP p c := by
  have ht : ¬ p.text := by unfold PL.text; omega
  unfold byteP
  rw [if_neg (by omega), if_neg (by omega), if_neg (by omega), if_neg (by intro e; omega), if_neg ht, if_pos ⟨hs, by omega⟩]

/-- A number's digits, the greatest first. -/
def decN (n : Nat) : List Nat := if n < 10 then [48 + n] else decN (n / 10) ++ [48 + n % 10]
termination_by n
decreasing_by omega

theorem decN_mem (n : Nat) : ∀ c ∈ decN n, 48 ≤ c ∧ c ≤ 57 := by
  induction n using Nat.strongRecOn with
  | _ n ih =>
    unfold decN
    split
    · intro c hc; simp at hc; omega
    · intro c hc
      rcases List.mem_append.1 hc with e | e
      · exact ih _ (by omega) c e
      · simp at e; omega

/-- The csi that has read a number behind a list of others. -/
theorem csi_number (p : PL) (hs : p.st = 2) (hi : p.inter = []) (l : List Int) (hl : (if p.any = true then p.nums else [-1]) = l ++ [-1]) (n : Nat) :
    feedP p (decN n) = ({ p with first := false, any := true, nums := l ++ [min (n : Int) 9999] }, []) := by
  induction n using Nat.strongRecOn with
  | _ n ih =>
    unfold decN
    split
    · rename_i hn
      rw [feedP_one, byteP_csi p hs _ (by omega) (by omega)]
      unfold csiP
      rw [if_neg (by omega), if_neg (by omega), if_neg (by simp only [hi, ne_eq, not_true_eq_false, and_false, or_false]; omega), if_pos (by omega), hl]
      have e : digitL (l ++ [-1]) (48 + n - 48) = l ++ [min (n : Int) 9999] := by
        unfold digitL
        rw [List.dropLast_concat]
        congr 2
        rw [List.getLastD_eq_getLast?, List.getLast?_append]
        simp
        omega
      rw [e]
    · rename_i hn
      rw [feedP_add, ih (n / 10) (by omega), feedP_one]
      simp only
      rw [byteP_csi { p with first := false, any := true, nums := l ++ [min ((n / 10 : Nat) : Int) 9999] } hs (48 + n % 10) (by omega) (by omega)]
      unfold csiP
      rw [if_neg (by omega), if_neg (by simp), if_neg (by simp only [hi, ne_eq, not_true_eq_false, and_false, or_false]; omega), if_pos (by omega)]
      have e : digitL (l ++ [min ((n / 10 : Nat) : Int) 9999]) (48 + n % 10 - 48) = l ++ [min (n : Int) 9999] := by
        unfold digitL
        rw [List.dropLast_concat]
        congr 2
        rw [List.getLastD_eq_getLast?, List.getLast?_append]
        simp
        omega
      simp only [if_true]
      rw [e]
      rfl

end Go.Proofs.Ythphnjilbpidgaa
