/- emu: plain terminals, told whole: what prints, moves, erases make of them. Own work. -/
import Derived.Test.YtnminmaklbhakaaGreatDoorEmuLs
namespace Go.Proofs.YtnminmaklbhakaaGreatDoor
set_option linter.unusedVariables false
set_option linter.unusedSimpArgs false

/-- A terminal in which nothing but cells, the cursor, the region was turned. -/
def plM (W H : Nat) (F : Nat → CellM) (x y : Nat) (late : Bool) (t b : Nat) : EmM := ⟨W, H, F, none, newL W, t, b, ⟨x, y, .z, false, 66, 66, 0⟩, .z, late, false, true, false⟩
theorem pl_new (W H : Nat) : EmM.new W H = plM W H (fun _ => blankC) 0 0 false 0 H := rfl
variable {W H x y t b : Nat} {F : Nat → CellM} {late : Bool}
theorem pl_goTo (p q : Int) : (plM W H F x y late t b).goTo p q = plM W H F (clampN p W) (clampN q H) false t b := rfl
theorem pl_row (n : Nat) : (plM W H F x y late t b).row n = (n : Int) - 1 := rfl
theorem pl_go (x' y' : Nat) (hx : x' < W) (hy : y' < H) (hW : W ≤ 40) (hH : H ≤ 20) : feedM (pAt 0, plM W H F x y late t b) (goXY (y' + 1) (x' + 1)) = ((pAt 0, plM W H F x' y' false t b), []) := by
  rw [feed_go _ _ _ (by omega) (by omega), pl_row, pl_goTo]
  have e1 : clampN (((max (x' + 1) 1 : Nat) : Int) - 1) W = x' := by unfold clampN; omega
  have e2 : clampN (((max (y' + 1) 1 : Nat) : Int) - 1) H = y' := by unfold clampN; omega
  rw [e1, e2]
theorem pl_print0 (c : Nat) (hc : c < 127) (hx : x < W) (hy : y < H) : (plM W H F x y false t b).print c = plM W H (setF (y * W + x) ⟨(c : Int), .z⟩ F) (min (x + 1) (W - 1)) y (decide (x + 1 = W)) t b := by
  have e1 : (plM W H F x y false t b).wrapOne = plM W H F x y false t b := by unfold EmM.wrapOne; rw [if_neg (by intro e; cases e.1)]
  have e2 : (plM W H F x y false t b).insOne = plM W H F x y false t b := by unfold EmM.insOne; rw [if_neg (by intro e; cases e)]
  have e3 : (plM W H F x y false t b).mapped c = (c : Int) := by
    unfold EmM.mapped EmM.charset mapM
    rw [if_pos (by omega), if_pos (show (plM W H F x y false t b).st.use = 0 from rfl), if_neg (by intro e; have : ((66 : Nat) : Int) = 65 := e.1; omega), if_neg (by intro e; have : ((66 : Nat) : Int) = 48 := e; omega)]
  unfold EmM.print
  rw [e1, e2, e3]
  have e4 : (plM W H F x y false t b).setOne (c : Int) = plM W H (setF (y * W + x) ⟨(c : Int), .z⟩ F) x y false t b := rfl
  rw [e4]
  have e5 : clampN ((x : Int) + 1) W = min (x + 1) (W - 1) := by unfold clampN; omega
  have e6 : clampN (y : Int) H = y := by unfold clampN; omega
  have e7 : (plM W H (setF (y * W + x) ⟨(c : Int), .z⟩ F) x y false t b).after = plM W H (setF (y * W + x) ⟨(c : Int), .z⟩ F) (clampN ((x : Int) + 1) W) (clampN (y : Int) H) (decide (x + 1 = W) && true) t b := rfl
  rw [e7, e5, e6, Bool.and_true]
theorem pl_print1 (c : Nat) (hy : y < H) (hW : 0 < W) : (plM W H F x y true t b).print c = if y + 1 = b then (plM W H (upF W t b 1 blankC F) 0 y false t b).print c else (plM W H F 0 (clampN ((y : Int) + 1) H) false t b).print c := by
  have e0 : clampN (0 : Int) W = 0 := by unfold clampN; omega
  have e6 : clampN (y : Int) H = y := by unfold clampN; omega
  have e1 : (plM W H F x y true t b).wrapOne = if y + 1 = b then plM W H (upF W t b 1 blankC F) (clampN 0 W) (clampN (y : Int) H) false t b else plM W H F (clampN 0 W) (clampN ((y : Int) + 1) H) false t b := by
    unfold EmM.wrapOne
    rw [if_pos ⟨rfl, rfl⟩]
    unfold EmM.index
    by_cases h : y + 1 = b
    · rw [if_pos (show (plM W H F x y true t b).setX0.st.y + 1 = (plM W H F x y true t b).setX0.bottom from h), if_pos h]; rfl
    · rw [if_neg (show ¬ (plM W H F x y true t b).setX0.st.y + 1 = (plM W H F x y true t b).setX0.bottom from h), if_neg h]; rfl
  have w0 : ∀ (F' : Nat → CellM) (y' : Nat), (plM W H F' 0 y' false t b).wrapOne = plM W H F' 0 y' false t b := fun F' y' => by unfold EmM.wrapOne; rw [if_neg (by intro e; cases e.1)]
  unfold EmM.print
  rw [e1, e0, e6, w0, w0]
  split <;> rfl
theorem feed_one (m : EmM) (c : Nat) (h1 : 32 ≤ c) (h2 : c ≤ 126) : feedM (pAt 0, m) [c] = ((pAt 0, m.print c), []) := by
  rw [feed_prints m [c] (by intro d hd; simp at hd; omega)]
  rfl

/-- n letters in a row, from its first column on. -/
def rowF (a n : Nat) (c : Nat → Nat) (F : Nat → CellM) (i : Nat) : CellM := if a ≤ i ∧ i < a + n then ⟨(c (i - a) : Int), .z⟩ else F i
theorem rowF_zero (a : Nat) (c : Nat → Nat) (F : Nat → CellM) : rowF a 0 c F = F := by
  funext i; unfold rowF; rw [if_neg (by omega)]
theorem rowF_next (a n : Nat) (c : Nat → Nat) (F : Nat → CellM) : setF (a + n) ⟨(c n : Int), .z⟩ (rowF a n c F) = rowF a (n + 1) c F := by
  funext i
  unfold setF rowF
  by_cases h : i = a + n
  · subst h
    rw [if_pos rfl, if_pos (by omega), show a + n - a = n from by omega]
  · rw [if_neg h]
    by_cases h2 : a ≤ i ∧ i < a + n
    · rw [if_pos h2, if_pos (by omega)]
    · rw [if_neg h2, if_neg (by omega)]
theorem pl_next (n : Nat) (c : Nat → Nat) (hc : c n < 127) (hn : n < W) (hy : y < H) (hW : 2 ≤ W) :
    (plM W H (rowF (y * W) n c F) (min n (W - 1)) y (decide (n = W)) t b).print (c n) = plM W H (rowF (y * W) (n + 1) c F) (min (n + 1) (W - 1)) y (decide (n + 1 = W)) t b := by
  have e1 : min n (W - 1) = n := by omega
  have e2 : decide (n = W) = false := by simp; omega
  rw [e1, e2, pl_print0 (c n) hc hn hy, rowF_next]
/-- A text of at most a row. -/
theorem pl_text (c : Nat → Nat) (hy : y < H) (hW : 2 ≤ W) : ∀ n, n ≤ W → (∀ i, i < n → 32 ≤ c i ∧ c i ≤ 126) → feedM (pAt 0, plM W H F 0 y false t b) ((List.range n).map c) = ((pAt 0, plM W H (rowF (y * W) n c F) (min n (W - 1)) y (decide (n = W)) t b), []) := by
  intro n
  induction n with
  | zero =>
    intro _ _
    rw [rowF_zero, show min 0 (W - 1) = 0 from by omega, show decide (0 = W) = false from by simp; omega]
    rfl
  | succ n ih =>
    intro hn hc
    rw [List.range_succ, List.map_append, feedM_add, ih (by omega) (fun i hi => hc i (by omega))]
    have h := hc n (by omega)
    rw [show List.map c [n] = [c n] from rfl]
    dsimp only
    rw [feed_one _ _ h.1 h.2, pl_next n c (by omega) (by omega) hy hW]
    rfl

/-- The cells' texts by rows. -/
theorem pl_shown : (plM W H F x y late t b).shown = F := rfl
/-- What stands in a row, in numbers. -/
def rowN (W : Nat) (F : Nat → CellM) (j : Nat) : List Nat := (List.range W).map fun i => (F (j * W + i)).r.toNat

end Go.Proofs.YtnminmaklbhakaaGreatDoor
