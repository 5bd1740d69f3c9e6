/- Tokens, Data of several together: lists. Own work. -/
import Derived.Test.YtopgejjencoelaaNvtM
set_option linter.unusedVariables false
set_option linter.unusedSimpArgs false
namespace Go.Proofs.Ytopgejjencoelaa
set_option linter.unusedVariables false
open Go.RowKit

/-- One more token: Data is put to Data. -/
def joinT (acc : List Tok) (t : Tok) : List Tok :=
  match acc.getLast? with
  | some y => if t.kind = 0 ∧ y.kind = 0 then acc.dropLast ++ [⟨y.kind, y.cmd, y.opt, y.text ++ t.text⟩] else acc ++ [t]
  | none => acc ++ [t]
def joinsT (acc : List Tok) (l : List Tok) : List Tok := l.foldl joinT acc
def plainL (l : List Tok) : List Tok := joinsT [] l

theorem joinT_nil (t : Tok) : joinT [] t = [t] := rfl
theorem joinT_snoc (i : List Tok) (y t : Tok) : joinT (i ++ [y]) t = if t.kind = 0 ∧ y.kind = 0 then i ++ [⟨y.kind, y.cmd, y.opt, y.text ++ t.text⟩] else i ++ [y] ++ [t] := by
  unfold joinT
  rw [List.getLast?_concat]
  simp only [List.dropLast_concat]
theorem joinT_app (acc : List Tok) (t : Tok) (h : ¬ t.kind = 0) : joinT acc t = acc ++ [t] := by
  unfold joinT
  split
  · rw [if_neg (fun x => h x.1)]
  · rfl
theorem joinsT_add (acc l m : List Tok) : joinsT acc (l ++ m) = joinsT (joinsT acc l) m := by simp [joinsT]

/-- How many bytes the texts have. -/
def tsum (l : List Tok) : Nat := (l.map (·.text.length)).foldr (· + ·) 0
theorem tsum_add (a b : List Tok) : tsum (a ++ b) = tsum a + tsum b := by
  induction a with
  | nil => simp [tsum]
  | cons x r ih => simp only [tsum, List.cons_append, List.map_cons, List.foldr_cons] at ih ⊢; omega
theorem tsum_one (t : Tok) : tsum [t] = t.text.length := by simp [tsum]
theorem tsum_joinT (acc : List Tok) (t : Tok) : tsum (joinT acc t) = tsum acc + t.text.length := by
  rcases List.eq_nil_or_concat acc with rfl | ⟨i, y, rfl⟩
  · rw [joinT_nil, tsum_one]; simp [tsum]
  · rw [List.concat_eq_append, joinT_snoc]
    split
    · rw [tsum_add, tsum_add, tsum_one, tsum_one]; simp; omega
    · rw [tsum_add, tsum_one]
theorem tsum_joinsT (l : List Tok) : ∀ acc, tsum (joinsT acc l) = tsum acc + tsum l := by
  induction l with
  | nil => intro acc; rfl
  | cons t r ih => intro acc; show tsum (joinsT (joinT acc t) r) = _; rw [ih, tsum_joinT]; simp [tsum]; omega
theorem tsum_plain (l : List Tok) : tsum (plainL l) = tsum l := by unfold plainL; rw [tsum_joinsT]; simp [tsum]
theorem tsum_take (l : List Tok) (k : Nat) : tsum (l.take k) ≤ tsum l := by
  have h := tsum_add (l.take k) (l.drop k)
  rw [List.take_append_drop] at h
  omega
theorem tsum_mem {l : List Tok} {t : Tok} (h : t ∈ l) : t.text.length ≤ tsum l := by
  obtain ⟨a, b, rfl⟩ := List.append_of_mem h
  rw [tsum_add, show t :: b = [t] ++ b from rfl, tsum_add, tsum_one]
  omega
theorem joinT_len (acc : List Tok) (t : Tok) : (joinT acc t).length ≤ acc.length + 1 := by
  rcases List.eq_nil_or_concat acc with rfl | ⟨i, y, rfl⟩
  · rw [joinT_nil]; simp
  · rw [List.concat_eq_append, joinT_snoc]
    split <;> simp
theorem joinsT_len (l : List Tok) : ∀ acc, (joinsT acc l).length ≤ acc.length + l.length := by
  induction l with
  | nil => intro acc; exact Nat.le_refl _
  | cons t r ih =>
    intro acc
    have h1 := ih (joinT acc t)
    have h2 := joinT_len acc t
    show (joinsT (joinT acc t) r).length ≤ _
    simp only [List.length_cons]
    omega
theorem plain_len (l : List Tok) : (plainL l).length ≤ l.length := by have := joinsT_len l []; rw [List.length_nil, Nat.zero_add] at this; exact this
theorem plain_next {l : List Tok} {k : Nat} {t : Tok} (h : l[k]? = some t) : plainL (l.take (k + 1)) = joinT (plainL (l.take k)) t := by
  rw [take_next h]
  unfold plainL
  rw [joinsT_add]
  rfl

theorem toks_set (i : List Tok) (y : Tok) (s : List UInt8) : (toks (i ++ [y])).set (i.length * 4 + 3) (.string ⟨s.toArray⟩) = toks (i ++ [⟨y.kind, y.cmd, y.opt, s⟩]) := by
  rw [toks_add, toks_add, toks_one, toks_one, List.set_append_right _ _ (by rw [toks_len]; omega)]
  rw [show i.length * 4 + 3 - (toks i).length = 3 from by rw [toks_len]; omega]
  rfl

end Go.Proofs.Ytopgejjencoelaa
