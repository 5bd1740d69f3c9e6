/- Counts by names: plain lists. Own work. -/
import Derived.Test.YtkhhmnmemdadmaaGreatMapS
import Derived.Test.YtkhhmnmemdadmaaGreatTallyTop
namespace Go.Proofs.YtkhhmnmemdadmaaGreat
set_option linter.unusedVariables false
open Go.RowKit Go.Maps

/-- The names, and their numbers, behind so many pairs. -/
def keysL (l : List (List UInt8 × Int)) : List (List UInt8) := l.foldl (fun ks p => insKey p.1 ks) []
def cnt (l : List (List UInt8 × Int)) : List UInt8 → Int := l.foldl (fun g p => setAt g p.1 (wrap64 (g p.1 + p.2))) (fun _ => 0)

theorem keysL_snoc (l : List (List UInt8 × Int)) (p : List UInt8 × Int) : keysL (l ++ [p]) = insKey p.1 (keysL l) := by simp [keysL]
theorem cnt_snoc (l : List (List UInt8 × Int)) (p : List UInt8 × Int) : cnt (l ++ [p]) = setAt (cnt l) p.1 (wrap64 (cnt l p.1 + p.2)) := by simp [cnt]

theorem length_insKey (s : List UInt8) (ks : List (List UInt8)) : (insKey s ks).length ≤ ks.length + 1 := by
  unfold insKey
  split <;> simp

theorem rev_ind {α : Type} {P : List α → Prop} (h0 : P []) (h1 : ∀ l x, P l → P (l ++ [x])) (l : List α) : P l := by
  have : ∀ r : List α, P r.reverse := fun r => by
    induction r with
    | nil => exact h0
    | cons x r ih => rw [List.reverse_cons]; exact h1 _ _ ih
  simpa using this l.reverse

theorem keysL_length (l : List (List UInt8 × Int)) : (keysL l).length ≤ l.length := by
  induction l using rev_ind with
  | h0 => simp [keysL]
  | h1 l p ih =>
    rw [keysL_snoc]
    have := length_insKey p.1 (keysL l)
    simp
    omega

theorem mem_keysL (l : List (List UInt8 × Int)) (x : List UInt8) : x ∈ keysL l ↔ ∃ p ∈ l, p.1 = x := by
  induction l using rev_ind with
  | h0 => simp [keysL]
  | h1 l p ih =>
    rw [keysL_snoc, mem_insKey, ih]
    constructor
    · rintro (rfl | ⟨q, hq, e⟩)
      · exact ⟨p, by simp, rfl⟩
      · exact ⟨q, by simp [hq], e⟩
    · rintro ⟨q, hq, e⟩
      rcases List.mem_append.1 hq with h | h
      · exact .inr ⟨q, h, e⟩
      · rw [List.mem_singleton.1 h] at e; exact .inl e.symm

theorem nodup_keysL (l : List (List UInt8 × Int)) : (keysL l).Nodup := by
  induction l using rev_ind with
  | h0 => exact List.nodup_nil
  | h1 l p ih => rw [keysL_snoc]; exact nodup_insKey ih

/-- All that was added to a name. -/
def amount (l : List (List UInt8 × Int)) (x : List UInt8) : Int := (l.map fun p => if p.1 = x then p.2 else 0).sum

theorem cnt_eq (l : List (List UInt8 × Int)) (x : List UInt8) : cnt l x = wrap64 (amount l x) := by
  induction l using rev_ind with
  | h0 => simp [cnt, amount, wrap64]
  | h1 l p ih =>
    rw [cnt_snoc]
    have ha : amount (l ++ [p]) x = amount l x + (if p.1 = x then p.2 else 0) := by simp [amount]
    by_cases e : x = p.1
    · subst e
      rw [setAt_same, ih, wrap64_add, ha, if_pos rfl]
    · rw [setAt_other _ _ e, ih, ha, if_neg (fun q => e q.symm), Int.add_zero]

theorem cnt_bd (l : List (List UInt8 × Int)) (x : List UInt8) : -9223372036854775808 ≤ cnt l x ∧ cnt l x ≤ 9223372036854775807 := by rw [cnt_eq]; exact wrap64_bd _

theorem cnt_rev (l : List (List UInt8 × Int)) : cnt l.reverse = cnt l := by
  funext x
  rw [cnt_eq, cnt_eq]
  congr 1
  unfold amount
  rw [List.map_reverse, List.sum_reverse]

theorem keysL_rev (l : List (List UInt8 × Int)) : (keysL l.reverse).Perm (keysL l) :=
  (List.perm_ext_iff_of_nodup (nodup_keysL _) (nodup_keysL _)).2 fun x => by rw [mem_keysL, mem_keysL]; simp

/-- A board's names, rising. -/
def rising (ks : List (List UInt8)) : List (List UInt8) := ks.mergeSort leB

theorem rising_perm {a b : List (List UInt8)} (h : a.Perm b) : rising a = rising b := mergeSort_of_perm h
theorem rising_length (a : List (List UInt8)) : (rising a).length = a.length := (List.mergeSort_perm a leB).length_eq
theorem mem_rising {a : List (List UInt8)} {x : List UInt8} : x ∈ rising a ↔ x ∈ a := (List.mergeSort_perm a leB).mem_iff

theorem rising_sorted (a : List (List UInt8)) : (rising a).Pairwise (fun x y => x ≤ y) := by
  have tr : ∀ a b c : List UInt8, leB a b = true → leB b c = true → leB a c = true := fun a b c h1 h2 => by simp only [leB, decide_eq_true_eq] at *; exact List.le_trans h1 h2
  have to : ∀ a b : List UInt8, (leB a b || leB b a) = true := fun a b => by simp only [leB, Bool.or_eq_true, decide_eq_true_eq]; exact List.le_total a b
  exact (List.pairwise_mergeSort tr to a).imp (fun h => by simpa [leB] using h)

theorem rising_strict {a : List (List UInt8)} (h : a.Nodup) : (rising a).Pairwise (fun x y => x < y) := by
  have hn : (rising a).Nodup := (List.mergeSort_perm a leB).nodup_iff.2 h
  refine ((rising_sorted a).and hn).imp (fun {x y} ⟨h1, h2⟩ => ?_)
  rcases List.le_iff_lt_or_eq.1 h1 with q | q
  · exact q
  · exact absurd q h2

end Go.Proofs.YtkhhmnmemdadmaaGreat
