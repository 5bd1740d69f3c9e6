/- The document's own Reader, over lists; it tells what nvt's does. Own work. -/
import Derived.Test.YtopgejjencoelaaNvtLawM
set_option linter.unusedVariables false
set_option linter.unusedSimpArgs false
namespace Go.Proofs.Ytopgejjencoelaa
set_option linter.unusedVariables false
open Go.RowKit

/-- What the document's Reader has. -/
structure Rf where
  cr : Bool
  cmd : List UInt8
  inn : Bool
  opt : Int
  body : List UInt8
  long : Bool
  iac : Bool
deriving DecidableEq

def Rf.new : Rf := ⟨false, [], false, 0, [], false, false⟩

def dataR (c : UInt8) : List Tok := [⟨0, 0, 0, [c]⟩]
/-- A byte behind IAC. -/
def commandR (f : Rf) (c : UInt8) : Rf × List Tok :=
  if c = 255 then (⟨f.cr, [], f.inn, f.opt, f.body, f.long, f.iac⟩, dataR c)
  else if 250 ≤ c then (⟨f.cr, [255, c], f.inn, f.opt, f.body, f.long, f.iac⟩, [])
  else (⟨f.cr, [], f.inn, f.opt, f.body, f.long, f.iac⟩, [⟨1, c.toNat, 0, []⟩])
/-- A byte within a Sub. -/
def subR (f : Rf) (c : UInt8) : Rf × List Tok :=
  if f.iac = false ∧ c = 255 then (⟨f.cr, f.cmd, f.inn, f.opt, f.body, f.long, true⟩, [])
  else if f.iac = true ∧ c ≠ 255 then
    (if c ≠ 240 then commandR ⟨f.cr, f.cmd, false, f.opt, [], false, false⟩ c
     else (⟨f.cr, f.cmd, false, f.opt, [], false, false⟩, if f.long = true then [] else [⟨3, 0, f.opt, f.body⟩]))
  else if 40 ≤ f.body.length then (⟨f.cr, f.cmd, f.inn, f.opt, f.body, true, false⟩, [])
  else (⟨f.cr, f.cmd, f.inn, f.opt, f.body ++ [c], f.long, false⟩, [])
/-- A byte. -/
def feedR (bin : Bool) (f : Rf) (c : UInt8) : Rf × List Tok :=
  if f.inn = true then subR f c
  else if f.cmd = [] then
    (if c = 255 then (⟨false, [c], f.inn, f.opt, f.body, f.long, f.iac⟩, [])
     else if f.cr = true ∧ c = 0 ∧ bin = false then (⟨false, f.cmd, f.inn, f.opt, f.body, f.long, f.iac⟩, [])
     else (⟨decide (c = 13), f.cmd, f.inn, f.opt, f.body, f.long, f.iac⟩, dataR c))
  else if f.cmd.length = 2 then
    (if f.cmd.getD 1 0 = 250 then (⟨f.cr, [], true, c.toNat, [], false, false⟩, [])
     else (⟨f.cr, [], f.inn, f.opt, f.body, f.long, f.iac⟩, [⟨2, (f.cmd.getD 1 0).toNat, c.toNat, []⟩]))
  else commandR f c

/-- The tokens of bytes, Data together. -/
def allR (bin : Bool) : Rf × List Tok → List UInt8 → Rf × List Tok
  | x, [] => x
  | x, b :: s => allR bin ((feedR bin x.1 b).1, joinsT x.2 (feedR bin x.1 b).2) s
theorem allR_add (bin : Bool) (s t : List UInt8) : ∀ x, allR bin x (s ++ t) = allR bin (allR bin x s) t := by
  induction s with
  | nil => intro x; rfl
  | cons b s ih => intro x; exact ih _
theorem allR_one (bin : Bool) (x : Rf × List Tok) (b : UInt8) : allR bin x [b] = ((feedR bin x.1 b).1, joinsT x.2 (feedR bin x.1 b).2) := rfl

/-- The two Readers stand alike. -/
def Alike (r : Rd) (f : Rf) : Prop :=
  (r.at' = 0 ∧ f.inn = false ∧ f.cmd = [] ∧ f.cr = false) ∨ (r.at' = 1 ∧ f.inn = false ∧ f.cmd = [] ∧ f.cr = true) ∨ (r.at' = 2 ∧ f.inn = false ∧ f.cmd = [255] ∧ f.cr = false) ∨
  (∃ c : UInt8, r.at' = 3 ∧ f.inn = false ∧ f.cmd = [255, c] ∧ f.cr = false ∧ 251 ≤ c ∧ c ≤ 254 ∧ r.cmd = c.toNat) ∨ (r.at' = 4 ∧ f.inn = false ∧ f.cmd = [255, 250] ∧ f.cr = false ∧ r.cmd = 0 ∧ r.opt = 0 ∧ r.text = [] ∧ r.long = false) ∨
  (r.at' = 5 ∧ f.inn = true ∧ f.cmd = [] ∧ f.cr = false ∧ f.iac = false ∧ f.opt = r.opt ∧ f.body = r.text ∧ f.long = r.long ∧ r.text.length ≤ 40) ∨
  (r.at' = 6 ∧ f.inn = true ∧ f.cmd = [] ∧ f.cr = false ∧ f.iac = true ∧ f.opt = r.opt ∧ f.body = r.text ∧ f.long = r.long ∧ r.text.length ≤ 40)

theorem alike_new : Alike Rd.new Rf.new := .inl ⟨rfl, rfl, rfl, rfl⟩

/-- Two Readers and what they told stand alike. -/
def Both (x : Rd × An) (y : Rf × List Tok) (acc : List Tok) : Prop := Alike x.1 y.1 ∧ flatFrom acc x.2 = y.2

/-- What a byte's kind says. -/
theorem kind_cases (bin : Bool) (b : UInt8) :
    (b = 255 ∧ kindL bin b = 6) ∨ (b = 13 ∧ kindL bin b = 2) ∨ (b = 240 ∧ kindL bin b = 3) ∨ (b = 250 ∧ kindL bin b = 4) ∨ (251 ≤ b ∧ b ≤ 254 ∧ kindL bin b = 5) ∨ (b = 0 ∧ bin = false ∧ kindL bin b = 1) ∨
      (b ≠ 255 ∧ b ≠ 13 ∧ b ≠ 240 ∧ ¬ 250 ≤ b ∧ (b = 0 → bin = true) ∧ kindL bin b = 0) := by
  by_cases h0 : b = 255
  · subst h0; exact .inl ⟨rfl, by cases bin <;> rfl⟩
  by_cases h1 : b = 13
  · subst h1; exact .inr (.inl ⟨rfl, by cases bin <;> rfl⟩)
  by_cases h2 : b = 240
  · subst h2; exact .inr (.inr (.inl ⟨rfl, by cases bin <;> rfl⟩))
  by_cases h3 : b = 250
  · subst h3; exact .inr (.inr (.inr (.inl ⟨rfl, by cases bin <;> rfl⟩)))
  by_cases h4 : 251 ≤ b ∧ b ≤ 254
  · refine .inr (.inr (.inr (.inr (.inl ⟨h4.1, h4.2, ?_⟩))))
    unfold kindL
    rw [if_neg (fun z => by have := z.1; subst this; exact absurd h4.1 (by decide)), if_neg h1, if_neg h2, if_neg h3, if_pos h4]
  by_cases h5 : b = 0 ∧ bin = false
  · exact .inr (.inr (.inr (.inr (.inr (.inl ⟨h5.1, h5.2, by unfold kindL; rw [if_pos h5]⟩)))))
  · refine .inr (.inr (.inr (.inr (.inr (.inr ⟨h0, h1, h2, ?_, ?_, ?_⟩)))))
    · intro h6
      rw [UInt8.le_iff_toNat_le] at h6
      have e0 : b.toNat ≠ 255 := fun z => h0 (UInt8.toNat_inj.1 z)
      have e3 : b.toNat ≠ 250 := fun z => h3 (UInt8.toNat_inj.1 z)
      have e5 : (250 : UInt8).toNat = 250 := rfl
      have e6 := b.toNat_lt
      refine h4 ⟨?_, ?_⟩
      · rw [UInt8.le_iff_toNat_le]; show 251 ≤ b.toNat; omega
      · rw [UInt8.le_iff_toNat_le]; show b.toNat ≤ 254; omega
    · intro z
      cases bin
      · exact absurd ⟨z, rfl⟩ h5
      · rfl
    · unfold kindL
      rw [if_neg h5, if_neg h1, if_neg h2, if_neg h3, if_neg h4, if_neg h0]

end Go.Proofs.Ytopgejjencoelaa
