/- Law EmuSets: beside the program. Own work. -/
import Derived.Test.YtpmnbfifpenlkaaGreatDoorEmuRows
namespace Go.Proofs.YtpmnbfifpenlkaaGreatDoor
set_option linter.unusedVariables false
set_option linter.unusedSimpArgs false
open Go.RowKit

/-- A terminal of forty columns, three rows, by its sets. -/
def seM (F : Nat → CellM) (x y a b u : Nat) : EmM := ⟨40, 3, F, none, newL 40, 0, 3, ⟨x, y, .z, false, a, b, u⟩, .z, false, false, true, false⟩
def rowZ (a n : Nat) (g : Nat → Int) (F : Nat → CellM) (i : Nat) : CellM := if a ≤ i ∧ i < a + n then ⟨g (i - a), .z⟩ else F i
theorem rowZ_zero (a : Nat) (g : Nat → Int) (F : Nat → CellM) : rowZ a 0 g F = F := by funext i; unfold rowZ; rw [if_neg (by omega)]
theorem rowZ_next (a n : Nat) (g : Nat → Int) (F : Nat → CellM) : setF (a + n) ⟨g n, .z⟩ (rowZ a n g F) = rowZ a (n + 1) g F := by
  funext i
  unfold setF rowZ
  by_cases h : i = a + n
  · subst h
    rw [if_pos rfl, if_pos (by omega), show a + n - a = n from by omega]
  · rw [if_neg h]
    by_cases h2 : a ≤ i ∧ i < a + n
    · rw [if_pos h2, if_pos (by omega)]
    · rw [if_neg h2, if_neg (by omega)]
variable {F : Nat → CellM} {x y a b u : Nat}
def inSet (a b u : Nat) : Nat := if u = 0 then a else b
theorem se_print (c : Nat) (hc : c < 127) (hx : x + 1 < 40) (hy : y < 3) : (seM F x y a b u).print c = seM (setF (y * 40 + x) ⟨mapM (inSet a b u : Nat) c, .z⟩ F) (x + 1) y a b u := by
  have e1 : (seM F x y a b u).wrapOne = seM F x y a b u := by unfold EmM.wrapOne; rw [if_neg (by intro e; cases e.1)]
  have e2 : (seM F x y a b u).insOne = seM F x y a b u := by unfold EmM.insOne; rw [if_neg (by intro e; cases e)]
  have e3 : (seM F x y a b u).mapped c = mapM (inSet a b u : Nat) c := by
    unfold EmM.mapped
    rw [if_pos (by omega)]
    rfl
  unfold EmM.print
  rw [e1, e2, e3]
  have e5 : clampN ((x : Int) + 1) 40 = x + 1 := by unfold clampN; omega
  have e6 : clampN (y : Int) 3 = y := by unfold clampN; omega
  have e8 : (decide (x + 1 = 40) && true) = false := by simp; omega
  have e7 : ((seM F x y a b u).setOne (mapM (inSet a b u : Nat) c)).after = ({ seM (setF (y * 40 + x) ⟨mapM (inSet a b u : Nat) c, .z⟩ F) (clampN ((x : Int) + 1) 40) (clampN (y : Int) 3) a b u with late := decide (x + 1 = 40) && true } : EmM) := rfl
  rw [e7, e5, e6, e8]
  rfl
theorem se_text (c : Nat → Nat) (hy : y < 3) : ∀ n, n ≤ 30 → (∀ i, i < n → 32 ≤ c i ∧ c i ≤ 126) → feedM (pAt 0, seM F 0 y a b u) (tab n c) = ((pAt 0, seM (rowZ (y * 40) n (fun i => mapM (inSet a b u : Nat) (c i)) F) n y a b u), []) := by
  intro n
  induction n with
  | zero => intro _ _; rw [rowZ_zero]; rfl
  | succ n ih =>
    intro hn hc
    have h := hc n (by omega)
    rw [tab_snoc, feedM_add, ih (by omega) (fun i hi => hc i (by omega))]
    dsimp only
    rw [feed_one _ _ h.1 h.2, se_print (c n) (by omega) (by omega) hy, rowZ_next (y * 40) n (fun i => mapM (inSet a b u : Nat) (c i)) F]
    rfl
theorem se_next (n v : Nat) (hy : y < 2) (hv : v < 2) : feedM (pAt 0, seM F n y a b u) [13, 10, 15 - v] = ((pAt 0, seM F 0 (y + 1) a b v), []) := by
  have c0 : clampN (0 : Int) 40 = 0 := rfl
  have c1 : clampN (y : Int) 3 = y := by unfold clampN; omega
  have c2 : clampN ((y : Int) + 1) 3 = y + 1 := by unfold clampN; omega
  have h1 : (seM F n y a b u).control 13 = seM F (clampN 0 40) (clampN (y : Int) 3) a b u := rfl
  have h2 : (seM F 0 y a b u).control 10 = seM F (clampN 0 40) (clampN ((y : Int) + 1) 3) a b u := by
    have : (seM F 0 y a b u).control 10 = (seM F 0 y a b u).index := rfl
    rw [this]
    unfold EmM.index
    rw [if_neg (show ¬ (seM F 0 y a b u).st.y + 1 = (seM F 0 y a b u).bottom from by show ¬ y + 1 = 3; omega)]
    rfl
  rw [c0, c1] at h1
  rw [c0, c2] at h2
  rw [show ([13, 10, 15 - v] : List Nat) = [13] ++ ([10] ++ [15 - v]) from rfl, feedM_add, feed_ctl _ 13 (by omega) (by omega) (by omega) (by omega), h1]
  dsimp only
  rw [feedM_add, feed_ctl _ 10 (by omega) (by omega) (by omega) (by omega), h2]
  dsimp only
  rw [feed_ctl _ (15 - v) (by omega) (by omega) (by omega) (by omega)]
  rcases (show v = 0 ∨ v = 1 by omega) with rfl | rfl <;> rfl
def setsF (n : Nat) (ga gb : Nat → Int) : Nat → CellM := rowZ 80 n ga (rowZ 40 n gb (rowZ 0 n ga (fun _ => blankC)))
theorem sets_all (c : Nat → Nat) (n : Nat) (hn : n ≤ 30) (hc : ∀ i, i < n → 32 ≤ c i ∧ c i ≤ 126) :
    feedM (pAt 0, seM (fun _ => blankC) 0 0 a b 0) (tab n c ++ ([13, 10, 14] ++ (tab n c ++ ([13, 10, 15] ++ tab n c)))) = ((pAt 0, seM (setsF n (fun i => mapM a (c i)) (fun i => mapM b (c i))) n 2 a b 0), []) := by
  rw [feedM_add, se_text c (by omega) n hn hc]
  dsimp only
  rw [feedM_add, show ([13, 10, 14] : List Nat) = [13, 10, 15 - 1] from rfl, se_next n 1 (by omega) (by omega)]
  dsimp only
  rw [feedM_add, se_text c (by omega) n hn hc]
  dsimp only
  rw [feedM_add, show ([13, 10, 15] : List Nat) = [13, 10, 15 - 0] from rfl, se_next n 0 (by omega) (by omega)]
  dsimp only
  rw [se_text c (by omega) n hn hc]
  rfl
theorem sets_new (ha : a = 66 ∨ a = 48 ∨ a = 65) (hb : b = 66 ∨ b = 48 ∨ b = 65) : feedM (pAt 0, EmM.new 40 3) ([27, 40, a] ++ [27, 41, b]) = ((pAt 0, seM (fun _ => blankC) 0 0 a b 0), []) := by
  rw [feedM_add, feed_esc2 _ 40 a (by omega) (by omega) (by omega)]
  dsimp only
  rw [feed_esc2 _ 41 b (by omega) (by omega) (by omega)]
  rcases ha with rfl | rfl | rfl <;> rcases hb with rfl | rfl | rfl <;> rfl

theorem showL_add (xs ys : List CellM) : showL (xs ++ ys) = showL xs ++ showL ys := by
  have key : ∀ n, showL (xs ++ ys.take n) = showL xs ++ showL (ys.take n) := by
    intro n
    induction n with
    | zero =>
      rw [List.take_zero, List.append_nil]
      have : showL [] = ByteArray.empty := rfl
      rw [this]
      simp
    | succ n ih =>
      rcases Nat.lt_or_ge n ys.length with e | e
      · rw [take_next (List.getElem?_eq_getElem e), ← List.append_assoc, showL_snoc, ih, showL_snoc, ByteArray.append_assoc]
      · rw [List.take_of_length_le (by omega)]
        rw [List.take_of_length_le e] at ih
        exact ih
  have := key ys.length
  rwa [List.take_length] at this
/-- The text of n runes. -/
def setT (g : Nat → Int) (n : Nat) : ByteArray := showL ((List.range n).map fun i => (⟨g i, .z⟩ : CellM))
theorem setT_next (g : Nat → Int) (n : Nat) : setT g (n + 1) = setT g n ++ Utf8.encode (g n) := by
  unfold setT
  rw [List.range_succ, List.map_append]
  exact showL_snoc _ _
theorem setT_size (g : Nat → Int) (n : Nat) : (setT g n).size ≤ 4 * n := by
  have := showL_size ((List.range n).map fun i => (⟨g i, .z⟩ : CellM)) n
  rwa [List.take_of_length_le (by simp)] at this
theorem sets_row {n j : Nat} (hn : n ≤ 30) (g : Nat → Int) (F : Nat → CellM) (h : ∀ i, i < 40 → F (j * 40 + i) = if i < n then ⟨g i, .z⟩ else blankC) : showL (rowL 40 (fun i => F (j * 40 + i))) = setT g n ++ bytesN (List.replicate (40 - n) 32) := by
  have e : rowL 40 (fun i => F (j * 40 + i)) = ((List.range n).map fun i => (⟨g i, .z⟩ : CellM)) ++ List.replicate (40 - n) blankC := by
    apply List.ext_getElem?
    intro i
    unfold rowL
    by_cases hi : i < 40
    · rw [List.getElem?_map, List.getElem?_range hi]
      show some (F (j * 40 + i)) = _
      rw [h i hi]
      by_cases h1 : i < n
      · rw [if_pos h1, List.getElem?_append_left (by simp; exact h1), List.getElem?_map, List.getElem?_range h1]; rfl
      · rw [if_neg h1, List.getElem?_append_right (by simp; omega), List.getElem?_replicate_of_lt (by simp; omega)]
    · rw [List.getElem?_eq_none (by simp; omega), List.getElem?_eq_none (by simp; omega)]
  rw [e, showL_add]
  congr 1
  apply nats_ext
  rw [showL_nats _ (fun c hc => by rw [List.eq_of_mem_replicate hc]; show (0 : Int) ≤ 32 ∧ (32 : Int) < 128; omega), natsOf_bytesN _ (fun c hc => by rw [List.eq_of_mem_replicate hc]; omega), List.map_replicate]
  rfl
theorem sets_rows {n : Nat} (hn : n ≤ 30) (ga gb : Nat → Int) (j : Nat) (hj : j < 3) : showL (rowL 40 (fun i => setsF n ga gb (j * 40 + i))) = setT (if j = 1 then gb else ga) n ++ bytesN (List.replicate (40 - n) 32) := by
  refine sets_row hn (if j = 1 then gb else ga) _ (fun i hi => ?_)
  unfold setsF rowZ
  rcases (show j = 0 ∨ j = 1 ∨ j = 2 by omega) with rfl | rfl | rfl
  · rw [if_neg (by omega), if_neg (by omega), if_neg (show ¬ (0 : Nat) = 1 from by omega)]
    by_cases h : i < n
    · rw [if_pos (show 0 ≤ 0 * 40 + i ∧ 0 * 40 + i < 0 + n from by omega), if_pos h, show 0 * 40 + i - 0 = i from by omega]
    · rw [if_neg (show ¬ (0 ≤ 0 * 40 + i ∧ 0 * 40 + i < 0 + n) from by omega), if_neg h]
  · rw [if_neg (by omega), if_pos rfl]
    by_cases h : i < n
    · rw [if_pos (by omega), if_pos h, show 1 * 40 + i - 40 = i from by omega]
    · rw [if_neg (by omega), if_neg (by omega), if_neg h]
  · rw [if_neg (show ¬ (2 : Nat) = 1 from by omega)]
    by_cases h : i < n
    · rw [if_pos (by omega), if_pos h, show 2 * 40 + i - 80 = i from by omega]
    · rw [if_neg (by omega), if_neg (by omega), if_neg (by omega), if_neg h]

end Go.Proofs.YtpmnbfifpenlkaaGreatDoor
