/- Law EmuMoves: beside the program. Own work. -/
import Derived.Test.YtmlceohmjkaadaaGreatDoorEmuLs
set_option linter.unusedVariables false
set_option linter.unusedSimpArgs false
namespace Go.Proofs.YtmlceohmjkaadaaGreatDoor
set_option linter.unusedVariables false

/-- A terminal whose region is the whole screen, the cursor at a place. -/
structure AtXY (m : EmM) (W H x y : Nat) : Prop where
  eW : m.W = W
  eH : m.H = H
  eT : m.top = 0
  eB : m.bottom = H
  eX : m.st.x = x
  eY : m.st.y = y
theorem AtXY.new (W H : Nat) : AtXY (EmM.new W H) W H 0 0 := ⟨rfl, rfl, rfl, rfl, rfl, rfl⟩
theorem AtXY.goTo {m : EmM} {W H x y : Nat} (h : AtXY m W H x y) (a b : Int) : AtXY (m.goTo a b) W H (clampN a W) (clampN b H) :=
  ⟨h.eW, h.eH, h.eT, h.eB, by show clampN a m.W = _; rw [h.eW], by show clampN b m.H = _; rw [h.eH]⟩
def stepXY (n f : Nat) : List Nat := 27 :: 91 :: (decN n ++ [f])
theorem feed_step65 (m : EmM) (n f : Nat) (hn : n ≤ 9999) (hf : f = 65 ∨ f = 66 ∨ f = 67 ∨ f = 68) : feedM (pAt 0, m) (stepXY n f) = ((pAt 0, m.move f (max n 1) (EmM.count [(n : Int)] 1)), []) := by
  unfold stepXY
  rw [feed_csi1 m n f hn (by omega) (by omega)]
  unfold EmM.unmarked
  rw [if_pos (by omega), count_0 n _ hn]
/-- Where the steps lead. -/
theorem moves_says {m : EmM} {W H x y : Nat} (h : AtXY m W H x y) (hx : x < W) (hy : y < H) (n f x' y' : Nat) (hn : n ≤ 9999)
    (hc : (f = 65 ∧ x' = x ∧ y' = y - max n 1) ∨ (f = 66 ∧ x' = x ∧ y' = min (y + max n 1) (H - 1)) ∨ (f = 67 ∧ y' = y ∧ x' = min (x + max n 1) (W - 1)) ∨ (f = 68 ∧ y' = y ∧ x' = x - max n 1)) :
    ∃ m', feedM (pAt 0, m) (stepXY n f) = ((pAt 0, m'), []) ∧ AtXY m' W H x' y' := by
  refine ⟨_, feed_step65 m n f hn (by omega), ?_⟩
  unfold EmM.move EmM.above EmM.below
  rw [h.eT, h.eB, h.eX, h.eY]
  have g := fun a b => h.goTo a b
  unfold clampN at g
  rcases hc with ⟨rfl, e2, e3⟩ | ⟨rfl, e2, e3⟩ | ⟨rfl, e2, e3⟩ | ⟨rfl, e2, e3⟩
  · rw [e2, e3]
    simp only [if_true, Nat.not_lt_zero, if_false]
    refine cast ?_ (g (x : Int) (max ((y : Int) - (max n 1 : Nat)) ((0 : Nat) : Int)))
    congr 1 <;> omega
  · rw [e2, e3]
    simp only [show ¬ (66 : Nat) = 65 from by omega, if_true, if_false, show ¬ H ≤ y from by omega]
    refine cast ?_ (g (x : Int) (min ((y : Int) + (max n 1 : Nat)) ((H : Int) - 1)))
    congr 1 <;> omega
  · rw [e2, e3]
    simp only [show ¬ (67 : Nat) = 65 from by omega, show ¬ (67 : Nat) = 66 from by omega, if_true, if_false]
    refine cast ?_ (g ((x : Int) + (max n 1 : Nat)) (y : Int))
    congr 1 <;> omega
  · rw [e2, e3]
    simp only [show ¬ (68 : Nat) = 65 from by omega, show ¬ (68 : Nat) = 66 from by omega, show ¬ (68 : Nat) = 67 from by omega, if_true, if_false]
    refine cast ?_ (g ((x : Int) - (max n 1 : Nat)) (y : Int))
    congr 1 <;> omega

end Go.Proofs.YtmlceohmjkaadaaGreatDoor
