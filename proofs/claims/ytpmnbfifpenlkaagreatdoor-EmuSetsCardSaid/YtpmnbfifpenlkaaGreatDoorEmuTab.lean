/- Lists by functions of a place. Own work. -/
import Derived.Test.YtpmnbfifpenlkaaGreatDoorEmuPl2
namespace Go.Proofs.YtpmnbfifpenlkaaGreatDoor
set_option linter.unusedVariables false
set_option linter.unusedSimpArgs false

def tab (n : Nat) (f : Nat → Nat) : List Nat := (List.range n).map f
theorem tab_len (n : Nat) (f : Nat → Nat) : (tab n f).length = n := by simp [tab]
theorem tab_at (n : Nat) (f : Nat → Nat) (i : Nat) (h : i < n) : (tab n f)[i]? = some (f i) := by simp [tab, h]
theorem tab_out (n : Nat) (f : Nat → Nat) (i : Nat) (h : n ≤ i) : (tab n f)[i]? = none := List.getElem?_eq_none (by rw [tab_len]; exact h)
theorem tab_ext {l : List Nat} {n : Nat} {f : Nat → Nat} (hl : l.length = n) (h : ∀ i, i < n → l[i]? = some (f i)) : l = tab n f := by
  apply List.ext_getElem?
  intro i
  rcases Nat.lt_or_ge i n with e | e
  · rw [h i e, tab_at n f i e]
  · rw [tab_out n f i e, List.getElem?_eq_none (by omega)]
theorem tab_congr {n : Nat} {f g : Nat → Nat} (h : ∀ i, i < n → f i = g i) : tab n f = tab n g := List.map_congr_left (fun i hi => h i (List.mem_range.1 hi))
theorem tab_const (n c : Nat) : List.replicate n c = tab n (fun _ => c) := tab_ext (by simp) (fun i h => List.getElem?_replicate_of_lt h)
theorem tab_take (n k : Nat) (f : Nat → Nat) (h : k ≤ n) : (tab n f).take k = tab k f := tab_ext (by rw [List.length_take, tab_len]; omega) (fun i hi => by rw [List.getElem?_take_of_lt hi, tab_at n f i (by omega)])
theorem tab_drop (n k : Nat) (f : Nat → Nat) : (tab n f).drop k = tab (n - k) (fun i => f (k + i)) := tab_ext (by rw [List.length_drop, tab_len]) (fun i hi => by rw [List.getElem?_drop, tab_at n f (k + i) (by omega)])
theorem tab_add (a b : Nat) (f g : Nat → Nat) : tab a f ++ tab b g = tab (a + b) (fun i => if i < a then f i else g (i - a)) := tab_ext (by rw [List.length_append, tab_len, tab_len]) (fun i hi => by
  by_cases h : i < a
  · rw [List.getElem?_append_left (by rw [tab_len]; exact h), tab_at a f i h, if_pos h]
  · rw [List.getElem?_append_right (by rw [tab_len]; omega), tab_len, tab_at b g (i - a) (by omega), if_neg h])
theorem tab_snoc (n : Nat) (f : Nat → Nat) : tab (n + 1) f = tab n f ++ [f n] := by simp [tab, List.range_succ]
theorem tab_mem {n : Nat} {f : Nat → Nat} {c : Nat} (h : c ∈ tab n f) : ∃ i, i < n ∧ c = f i := by
  obtain ⟨i, hi, rfl⟩ := List.mem_map.1 h
  exact ⟨i, List.mem_range.1 hi, rfl⟩

variable {W H x y t b : Nat} {F : Nat → CellM} {late : Bool}
-- cells of a row
theorem pl_edit (n f : Nat) (hn : n ≤ 9999) (hf : f = 64 ∨ f = 80 ∨ f = 88) :
    feedM (pAt 0, plM W H F x y late t b) (oneL n f) = ((pAt 0, plM W H (if f = 64 then rightF W x y (max n 1) blankC F else if f = 80 then leftF W x y (max n 1) blankC F else fillF (y * W + x) (min (y * W + x + max n 1) ((y + 1) * W)) blankC F) x y false t b), []) := by
  rw [feed_oneL _ n f hn (by omega) (by omega)]
  have e0 : EmM.count [(n : Int)] 0 = max n 1 := count_0 n _ hn
  have e1 : (plM W H F x y late t b).unmarked f [(n : Int)] = ((plM W H F x y late t b).edit f (max n 1), []) := by
    unfold EmM.unmarked
    rw [e0]
    rcases hf with rfl | rfl | rfl <;> rfl
  rw [e1]
  have e2 : (plM W H F x y late t b).edit f (max n 1) = plM W H (if f = 64 then rightF W x y (max n 1) blankC F else if f = 80 then leftF W x y (max n 1) blankC F else fillF (y * W + x) (min (y * W + x + max n 1) ((y + 1) * W)) blankC F) x y false t b := by
    rcases hf with rfl | rfl | rfl <;> rfl
  rw [e2]
/-- The letters of the law's row. -/
def lets (W : Nat) : List Nat := tab W (fun i => 65 + i)
def letF (W : Nat) : Nat → CellM := rowF 0 W (fun i => 65 + i) (fun _ => blankC)
def editW (f W x k : Nat) : List Nat :=
  if f = 64 then (lets W).take x ++ List.replicate k 32 ++ ((lets W).drop x).take (W - k - x)
  else if f = 80 then (lets W).take x ++ (lets W).drop (x + k) ++ List.replicate k 32
  else (lets W).take x ++ List.replicate k 32 ++ (lets W).drop (x + k)
theorem chars_row (f W x n : Nat) (hx : x < W) (hf : f = 64 ∨ f = 80 ∨ f = 88) :
    tab W (fun i => ((if f = 64 then rightF W x 0 (max n 1) blankC (letF W) else if f = 80 then leftF W x 0 (max n 1) blankC (letF W) else fillF (0 * W + x) (min (0 * W + x + max n 1) ((0 + 1) * W)) blankC (letF W)) i).r.toNat) = editW f W x (min (max n 1) (W - x)) := by
  obtain ⟨k, hk⟩ : ∃ k, min (max n 1) (W - x) = k := ⟨_, rfl⟩
  have hl : ∀ i, i < W → letF W i = ⟨((65 + i : Nat) : Int), .z⟩ := fun i hi => by unfold letF rowF; rw [if_pos (by omega)]; rfl
  rw [hk]
  unfold editW lets
  rw [tab_take _ _ _ (by omega), tab_drop, tab_drop, tab_take _ _ _ (by omega), tab_const, tab_add, tab_add, tab_add, tab_add]
  rcases hf with rfl | rfl | rfl
  · simp only [if_true]
    rw [show x + k + (W - k - x) = W from by omega]
    apply tab_congr
    intro i hi
    unfold rightF
    by_cases h1 : i < x
    · rw [if_neg (by omega), hl i hi, if_pos (by omega), if_pos h1]; rfl
    · rw [if_pos (by omega)]
      by_cases h2 : i < x + k
      · rw [if_pos (by omega), if_pos (by omega), if_neg h1]; rfl
      · rw [if_neg (by omega), if_neg (by omega), hl _ (by omega)]
        show 65 + (i - max n 1) = _
        omega
  · simp only [show ¬ (80 : Nat) = 64 from by omega, if_false, if_true]
    rw [show x + (W - (x + k)) + k = W from by omega]
    apply tab_congr
    intro i hi
    unfold leftF
    by_cases h1 : i < x
    · rw [if_neg (by omega), hl i hi, if_pos (by omega), if_pos h1]; rfl
    · rw [if_pos (by omega)]
      by_cases h2 : i + max n 1 < W
      · rw [if_pos (by omega), hl _ (by omega), if_pos (by omega), if_neg h1]
        show 65 + (i + max n 1) = _
        omega
      · rw [if_neg (by omega), if_neg (by omega)]; rfl
  · simp only [show ¬ (88 : Nat) = 64 from by omega, show ¬ (88 : Nat) = 80 from by omega, if_false]
    rw [tab_add, show x + k + (W - (x + k)) = W from by omega]
    apply tab_congr
    intro i hi
    unfold fillF
    by_cases h1 : i < x
    · rw [if_neg (by omega), hl i hi, if_pos (by omega), if_pos h1]; rfl
    · by_cases h2 : i < x + k
      · rw [if_pos (by omega), if_pos (by omega), if_neg h1]; rfl
      · rw [if_neg (by omega), hl i hi, if_neg (by omega)]
        show 65 + i = _
        omega

end Go.Proofs.YtpmnbfifpenlkaaGreatDoor
