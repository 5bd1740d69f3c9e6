/- chart: tab stops over lists. Own work. -/
import Derived.Test.YthmogbldfecckaaBase
namespace Go.Proofs.Ythmogbldfecckaa
set_option linter.unusedVariables false
set_option linter.unusedSimpArgs false
open Go.RowKit

/-- The least stop above x, from column k on; n: how many columns there are. -/
def nextR (x n : Int) : Nat → List Bool → Int
  | _, [] => max (n - 1) 0
  | k, b :: r => if b = true ∧ (k : Int) > x then k else nextR x n (k + 1) r
def nextL (l : List Bool) (x : Int) : Int := nextR x l.length 0 l
theorem nextR_at {x n : Int} {l : List Bool} {k : Nat} {b : Bool} (h : l[k]? = some b) : nextR x n k (l.drop k) = if b = true ∧ (k : Int) > x then (k : Int) else nextR x n (k + 1) (l.drop (k + 1)) := by
  have hk : k < l.length := by
    rcases Nat.lt_or_ge k l.length with e | e
    · exact e
    · rw [List.getElem?_eq_none e] at h; cases h
  rw [List.drop_eq_getElem_cons hk]
  rw [List.getElem?_eq_getElem hk] at h
  injection h with h
  rw [h]
  rfl

/-- A stop that is set, or taken away, where there is a column. -/
def putC (b : Bool) (l : List Bool) (x : Int) : List Bool := if 0 ≤ x ∧ x < l.length then l.set x.toNat b else l
def putL (b : Bool) (l : List Bool) (xs : List Int) : List Bool := xs.foldl (putC b) l
theorem putC_len (b : Bool) (l : List Bool) (x : Int) : (putC b l x).length = l.length := by unfold putC; split <;> simp
theorem putL_len (b : Bool) (l : List Bool) (xs : List Int) : (putL b l xs).length = l.length := by
  induction xs generalizing l with
  | nil => rfl
  | cons x r ih => rw [show putL b l (x :: r) = putL b (putC b l x) r from rfl, ih, putC_len]
theorem putL_snoc (b : Bool) (l : List Bool) (xs : List Int) (x : Int) : putL b l (xs ++ [x]) = putC b (putL b l xs) x := by simp [putL]

/-- The columns of the stops, from k on. -/
def allR : Nat → List Bool → List Int
  | _, [] => []
  | k, b :: r => if b = true then (k : Int) :: allR (k + 1) r else allR (k + 1) r
def allL (l : List Bool) : List Int := allR 0 l
theorem allR_snoc (l : List Bool) (b : Bool) (k : Nat) : allR k (l ++ [b]) = allR k l ++ (if b = true then [((k + l.length : Nat) : Int)] else []) := by
  induction l generalizing k with
  | nil => cases b <;> simp [allR]
  | cons c r ih => cases c <;> simp [allR, ih, Nat.add_assoc, Nat.add_comm 1]
theorem all_take {l : List Bool} {k : Nat} {b : Bool} (h : l[k]? = some b) : allL (l.take (k + 1)) = allL (l.take k) ++ (if b = true then [(k : Int)] else []) := by
  have hk : k < l.length := by
    rcases Nat.lt_or_ge k l.length with e | e
    · exact e
    · rw [List.getElem?_eq_none e] at h; cases h
  rw [take_next h]
  unfold allL
  rw [allR_snoc, List.length_take, show 0 + min k l.length = k from by omega]
theorem allR_len (k : Nat) (l : List Bool) : (allR k l).length ≤ l.length := by
  induction l generalizing k with
  | nil => simp [allR]
  | cons b r ih => have := ih (k + 1); cases b <;> simp [allR] <;> omega
theorem all_len (l : List Bool) : (allL l).length ≤ l.length := allR_len 0 l
theorem all_take_len (l : List Bool) (k : Nat) : (allL (l.take k)).length ≤ k := Nat.le_trans (all_len _) (by simp; omega)

/-- Stops at 8, 16 and so on, those below x. -/
def newT (n : Nat) (x : Int) : List Bool := (List.range n).map fun (i : Nat) => decide (0 < i ∧ i % 8 = 0 ∧ (i : Int) < x)
def newL (n : Nat) : List Bool := newT n n
theorem newT_len (n : Nat) (x : Int) : (newT n x).length = n := by simp [newT]
theorem newT_at (n : Nat) (x : Int) (i : Nat) (h : i < n) : (newT n x)[i]? = some (decide (0 < i ∧ i % 8 = 0 ∧ (i : Int) < x)) := by simp [newT, h]
theorem newT_zero (n : Nat) : newT n 8 = List.replicate n false := by
  apply List.ext_getElem?
  intro i
  by_cases h : i < n
  · rw [newT_at n 8 i h, List.getElem?_replicate_of_lt h]
    simp; omega
  · rw [List.getElem?_eq_none (by rw [newT_len]; omega), List.getElem?_eq_none (by simp; omega)]
theorem newT_set (n j : Nat) (h : 8 * (j + 1) < n) : (newT n (8 * ((j : Int) + 1))).set (8 * (j + 1)) true = newT n (8 * ((j : Int) + 1) + 8) := by
  apply List.ext_getElem?
  intro i
  by_cases hi : i < n
  · by_cases e : i = 8 * (j + 1)
    · subst e
      rw [List.getElem?_set_self (by rw [newT_len]; exact hi), newT_at _ _ _ hi]
      simp; omega
    · rw [List.getElem?_set_ne (fun x => e x.symm), newT_at _ _ _ hi, newT_at _ _ _ hi]
      congr 1
      apply decide_eq_decide.2
      omega
  · rw [List.getElem?_eq_none (by rw [List.length_set, newT_len]; omega), List.getElem?_eq_none (by rw [newT_len]; omega)]
theorem newT_end (n : Nat) (x : Int) (h : (n : Int) ≤ x) : newT n x = newL n := by
  apply List.ext_getElem?
  intro i
  by_cases hi : i < n
  · unfold newL
    rw [newT_at _ _ _ hi, newT_at _ _ _ hi]
    congr 1
    apply decide_eq_decide.2
    omega
  · rw [List.getElem?_eq_none (by rw [newT_len]; omega), List.getElem?_eq_none (by unfold newL; rw [newT_len]; omega)]

/-- Stops in block p: n columns in block g. -/
structure StopsAt (w : World) (p g n c : Nat) (l : List Bool) : Prop where
  cs : Cell w p 0 (.slice (some ⟨g, 0, none⟩) n c)
  row : Row w g 0 n c (l.map Value.bool)
  ne : g ≠ p
  lg : g < w.heap.size
  le : n ≤ 40

namespace StopsAt
variable {w w' : World} {p g n c : Nat} {l : List Bool}
theorem lt (h : StopsAt w p g n c l) : p < w.heap.size := h.cs.lt
theorem len (h : StopsAt w p g n c l) : l.length = n := by have := h.row.len; rwa [List.length_map] at this
theorem keep {S : Nat → Prop} (h : StopsAt w p g n c l) (k : Keep S w w') (hp : ¬ S p) (hg : ¬ S g) : StopsAt w' p g n c l :=
  ⟨h.cs.keep k hp, h.row.keep k hg, h.ne, Nat.lt_of_lt_of_le h.lg k.size, h.le⟩
theorem drewN (h : StopsAt w p g n c l) (k : Nat) : StopsAt (w.drewN k) p g n c l := h.keep (S := fun _ => False) ((Keep.refl _ w).drewN k) (fun x => x) (fun x => x)
theorem at' (h : StopsAt w p g n c l) {k : Nat} (hk : k < n) : ∃ b, l[k]? = some b ∧ w.cell? ⟨g, k, none⟩ = some (.bool b) := by
  have hl : k < l.length := by rw [h.len]; exact hk
  refine ⟨l[k], List.getElem?_eq_getElem hl, ?_⟩
  have := h.row.val k (.bool l[k]) (by rw [List.getElem?_map, List.getElem?_eq_getElem hl]; rfl)
  rwa [Nat.zero_add] at this
theorem set (h : StopsAt w p g n c l) {k : Nat} (hk : k < n) (b : Bool) : StopsAt (w.setCell ⟨g, k, none⟩ (.bool b)) p g n c (l.set k b) := by
  have k1 : Keep (· = g) w (w.setCell ⟨g, k, none⟩ (.bool b)) := keep_set w g k _
  refine ⟨h.cs.keep k1 (fun e => h.ne e.symm), ?_, h.ne, Nat.lt_of_lt_of_le h.lg k1.size, h.le⟩
  have := h.row.set k hk (.bool b)
  rw [Nat.zero_add] at this
  rwa [List.map_set]
end StopsAt

end Go.Proofs.Ythmogbldfecckaa
