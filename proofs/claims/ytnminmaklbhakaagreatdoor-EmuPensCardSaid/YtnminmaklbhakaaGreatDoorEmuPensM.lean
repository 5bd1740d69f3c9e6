/- Law EmuPens: what the model says. Own work. -/
import Derived.Test.YtnminmaklbhakaaGreatDoorEmuPl2
namespace Go.Proofs.YtnminmaklbhakaaGreatDoor
set_option linter.unusedVariables false
set_option linter.unusedSimpArgs false

def pnM (W H : Nat) (F : Nat → CellM) (p : At) (x y : Nat) (late : Bool) : EmM := ⟨W, H, F, none, newL W, 0, H, ⟨x, y, p, false, 66, 66, 0⟩, .z, late, false, true, false⟩
theorem pn_new (W H : Nat) : EmM.new W H = pnM W H (fun _ => blankC) .z 0 0 false := rfl
/-- The text of the first k numbers; what they are. -/
def penT (ns : List Nat) : Nat → List Nat
  | 0 => []
  | k + 1 => penT ns k ++ ((if 0 < k then [59] else []) ++ decN (ns.getD k 0))
def penL (ns : List Nat) (k : Nat) : List Int := List.map (fun n : Nat => (n : Int)) (ns.take k)
theorem penL_succ (ns : List Nat) (k : Nat) (hk : k < ns.length) : penL ns (k + 1) = penL ns k ++ [((ns.getD k 0 : Nat) : Int)] := by
  unfold penL
  rw [List.take_add_one, List.getElem?_eq_getElem hk, List.map_append, List.getD_eq_getElem?_getD, List.getElem?_eq_getElem hk]
  rfl
theorem penL_len (ns : List Nat) (k : Nat) (hk : k ≤ ns.length) : (penL ns k).length = k := by unfold penL; rw [List.length_map, List.length_take]; omega
theorem semi_pens (p : PL) (hs : p.st = 2) (hi : p.inter = []) :
    byteP p 59 = ({ p with first := false, any := true, nums := (if p.any = true then p.nums else [-1]) ++ (if (if p.any = true then p.nums else [-1]).length ≤ 8 then [-1] else []) }, []) := by
  rw [byteP_csi p hs 59 (by omega) (by omega)]
  unfold csiP
  rw [if_neg (by omega), if_neg (by omega), if_neg (by simp only [hi, ne_eq, not_true_eq_false, and_false, or_false]; omega), if_neg (by omega), if_pos rfl]
def penP (l : List Int) : PL := { pAt 2 with first := false, any := true, nums := l }
theorem feed_nums (ns : List Nat) (hb : ∀ n ∈ ns, n ≤ 9999) : ∀ k, k ≤ ns.length → k ≤ 8 → feedP (pAt 2) (penT ns k) = (if k = 0 then pAt 2 else penP (penL ns k), []) := by
  intro k
  induction k with
  | zero => intro _ _; rfl
  | succ k ih =>
    intro h1 h2
    have hn : ns.getD k 0 ≤ 9999 := by
      rw [List.getD_eq_getElem?_getD, List.getElem?_eq_getElem (by omega)]
      exact hb _ (List.getElem_mem _)
    have em : min (((ns.getD k 0 : Nat)) : Int) 9999 = ((ns.getD k 0 : Nat) : Int) := by omega
    unfold penT
    rw [feedP_add, ih (by omega) (by omega), if_neg (show ¬ k + 1 = 0 by omega), penL_succ ns k (by omega)]
    rcases Nat.eq_zero_or_pos k with rfl | h0
    · rw [if_pos rfl, if_neg (show ¬ 0 < 0 by omega), List.nil_append]
      dsimp only
      rw [csi_number (pAt 2) rfl rfl [] rfl, em]
      rfl
    · rw [if_neg (show ¬ k = 0 by omega), if_pos h0]
      dsimp only
      rw [feedP_add, feedP_one, semi_pens _ rfl rfl]
      have hl := penL_len ns k (by omega)
      have e1 : (if (penP (penL ns k)).any = true then (penP (penL ns k)).nums else [-1]) = penL ns k := rfl
      rw [e1, if_pos (by omega)]
      dsimp only
      rw [csi_number { penP (penL ns k) with first := false, any := true, nums := penL ns k ++ [-1] } rfl rfl (penL ns k) rfl, em]
      rfl
theorem byte_m (l : List Int) (hl : l.length ≤ 8) : byteP (penP l) 109 = (pAt 0, [eCsi 0 l [] 109]) := by
  rw [byteP_csi _ rfl 109 (by omega) (by omega)]
  unfold csiP
  rw [if_neg (by omega), if_neg (by omega), if_neg (by simp [penP, pAt]), if_neg (by omega), if_neg (by omega)]
  show (pAt 0, [eCsi 0 (l.take 8) [] 109]) = _
  rw [List.take_of_length_le hl]
theorem feed_pen (m : EmM) (ns : List Nat) (hb : ∀ n ∈ ns, n ≤ 9999) (k : Nat) (h1 : k ≤ ns.length) (h2 : k ≤ 8) : feedM (pAt 0, m) ([27, 91] ++ (penT ns k ++ [109])) = ((pAt 0, m.pen (penL ns k)), []) := by
  refine feedM_ground (acl := [eCsi 0 (penL ns k) [] 109]) ?_ ?_
  · rw [feedP_add, show feedP (pAt 0) [27, 91] = (pAt 2, []) from by kernel_rfl]
    dsimp only
    rw [feedP_add, feed_nums ns hb k h1 h2]
    dsimp only
    have hl := penL_len ns k h1
    by_cases h0 : k = 0
    · subst h0
      rw [if_pos rfl, penL, List.take_zero, feedP_one]
      show ((byteP (pAt 2) 109).1, [] ++ ([] ++ (byteP (pAt 2) 109).2)) = _
      rw [show byteP (pAt 2) 109 = (pAt 0, [eCsi 0 [] [] 109]) from by kernel_rfl]
      rfl
    · rw [if_neg h0, feedP_one, byte_m _ (by omega)]
      rfl
  · rw [acts_one, act_csi]
    rfl

variable {W H x y : Nat} {F : Nat → CellM} {p : At} {late : Bool}
theorem pn_go (x' y' : Nat) (hx : x' < W) (hy : y' < H) (hW : W ≤ 40) (hH : H ≤ 20) : feedM (pAt 0, pnM W H F p x y late) (goXY (y' + 1) (x' + 1)) = ((pAt 0, pnM W H F p x' y' false), []) := by
  rw [feed_go _ _ _ (by omega) (by omega), show (pnM W H F p x y late).row (max (y' + 1) 1) = ((max (y' + 1) 1 : Nat) : Int) - 1 from rfl, show ∀ a b, (pnM W H F p x y late).goTo a b = pnM W H F p (clampN a W) (clampN b H) false from fun _ _ => rfl]
  have e1 : clampN (((max (x' + 1) 1 : Nat) : Int) - 1) W = x' := by unfold clampN; omega
  have e2 : clampN (((max (y' + 1) 1 : Nat) : Int) - 1) H = y' := by unfold clampN; omega
  rw [e1, e2]
theorem pn_print (c : Nat) (hc : c < 127) (hx : x + 1 < W) (hy : y < H) : (pnM W H F p x y false).print c = pnM W H (setF (y * W + x) ⟨(c : Int), p⟩ F) p (x + 1) y false := by
  have e1 : (pnM W H F p x y false).wrapOne = pnM W H F p x y false := by unfold EmM.wrapOne; rw [if_neg (by intro e; cases e.1)]
  have e2 : (pnM W H F p x y false).insOne = pnM W H F p x y false := by unfold EmM.insOne; rw [if_neg (by intro e; cases e)]
  have e3 : (pnM W H F p x y false).mapped c = (c : Int) := by
    unfold EmM.mapped EmM.charset mapM
    rw [if_pos (by omega), if_pos (show (pnM W H F p x y false).st.use = 0 from rfl), if_neg (by intro e; have : ((66 : Nat) : Int) = 65 := e.1; omega), if_neg (by intro e; have : ((66 : Nat) : Int) = 48 := e; omega)]
  unfold EmM.print
  rw [e1, e2, e3]
  have e4 : (pnM W H F p x y false).setOne (c : Int) = pnM W H (setF (y * W + x) ⟨(c : Int), p⟩ F) p x y false := rfl
  rw [e4]
  have e5 : clampN ((x : Int) + 1) W = x + 1 := by unfold clampN; omega
  have e6 : clampN (y : Int) H = y := by unfold clampN; omega
  have e7 : (pnM W H (setF (y * W + x) ⟨(c : Int), p⟩ F) p x y false).after = pnM W H (setF (y * W + x) ⟨(c : Int), p⟩ F) p (clampN ((x : Int) + 1) W) (clampN (y : Int) H) (decide (x + 1 = W) && true) := rfl
  rw [e7, e5, e6, show decide (x + 1 = W) = false from by simp; omega]
  rfl
theorem pn_erase : feedM (pAt 0, pnM W H F p x y false) [27, 91, 75] = ((pAt 0, pnM W H (fillF (y * W + x) ((y + 1) * W) (blankM p) F) p x y false), []) := by
  rw [feed_csi0 _ 75 (by omega) (by omega)]
  rfl
def pensF (p : At) (x i : Nat) : CellM := if 10 ≤ i ∧ i < 20 then blankM p else if i = x then ⟨122, p⟩ else blankC
/-- What the law feeds, and what becomes of it. -/
theorem pens_says (ns : List Nat) (hb : ∀ n ∈ ns, n ≤ 9999) (k : Nat) (h1 : k ≤ ns.length) (h2 : k ≤ 8) (x : Nat) (hx : x < 9) :
    feedM (pAt 0, EmM.new 10 2) ([27, 91] ++ (penT ns k ++ ([109, 27, 91, 49, 59] ++ (decN (x + 1) ++ [72, 122, 27, 91, 50, 59, 49, 72, 27, 91, 75])))) = ((pAt 0, pnM 10 2 (pensF (sgrL .z (penL ns k)) x) (sgrL .z (penL ns k)) 0 1 false), []) := by
  have en : [27, 91] ++ (penT ns k ++ ([109, 27, 91, 49, 59] ++ (decN (x + 1) ++ [72, 122, 27, 91, 50, 59, 49, 72, 27, 91, 75]))) = ([27, 91] ++ (penT ns k ++ [109])) ++ (goXY (0 + 1) (x + 1) ++ ([122] ++ (goXY (1 + 1) (0 + 1) ++ [27, 91, 75]))) := by
    unfold goXY
    rw [show decN (0 + 1) = [49] from by simp [decN], show decN (1 + 1) = [50] from by simp [decN]]
    simp
  rw [en, feed_then (feed_pen _ ns hb k h1 h2), show (EmM.new 10 2).pen (penL ns k) = pnM 10 2 (fun _ => blankC) (sgrL .z (penL ns k)) 0 0 false from rfl]
  obtain ⟨q, hq⟩ : ∃ q, sgrL .z (penL ns k) = q := ⟨_, rfl⟩
  rw [hq, feed_then (pn_go x 0 (by omega) (by omega) (by omega) (by omega)), feed_then (x1 := (pAt 0, pnM 10 2 (setF (0 * 10 + x) ⟨(122 : Nat), q⟩ (fun _ => blankC)) q (x + 1) 0 false)) (o := []) (by rw [feed_one _ 122 (by omega) (by omega), pn_print 122 (by omega) (by omega) (by omega)]), feed_then (pn_go 0 1 (by omega) (by omega) (by omega) (by omega)), pn_erase]
  have ef : fillF (1 * 10 + 0) ((1 + 1) * 10) (blankM q) (setF (0 * 10 + x) ⟨((122 : Nat) : Int), q⟩ (fun _ => blankC)) = pensF q x := by
    funext i
    unfold fillF setF pensF
    by_cases h : 10 ≤ i ∧ i < 20
    · rw [if_pos (by omega), if_pos h]
    · rw [if_neg (by omega), if_neg h]
      by_cases h3 : i = x
      · rw [if_pos (by omega), if_pos h3]; rfl
      · rw [if_neg (by omega), if_neg h3]
  rw [ef]
  rfl

end Go.Proofs.YtnminmaklbhakaaGreatDoor
