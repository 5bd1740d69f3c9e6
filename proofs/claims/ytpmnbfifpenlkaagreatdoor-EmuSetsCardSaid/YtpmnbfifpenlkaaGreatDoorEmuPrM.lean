/- Laws EmuPrints, EmuRegions: beside the program. Own work. -/
import Derived.Test.YtpmnbfifpenlkaaGreatDoorEmuTab
import Derived.Test.YtpmnbfifpenlkaaGreatDoorEmuOriginsM
namespace Go.Proofs.YtpmnbfifpenlkaaGreatDoor
set_option linter.unusedVariables false
set_option linter.unusedSimpArgs false
variable {W H x y t b : Nat} {F : Nat → CellM} {late : Bool}

/-- What stands there behind k runes, f rows of which went up. -/
def prF (c : Nat → Nat) (W f k i : Nat) : CellM := if f * W + i < k then ⟨(c (f * W + i) : Int), .z⟩ else blankC
theorem prF_set (c : Nat → Nat) (W f k p : Nat) (h : f * W + p = k) : setF p ⟨(c k : Int), .z⟩ (prF c W f k) = prF c W f (k + 1) := by
  funext i
  unfold setF prF
  by_cases e : i = p
  · subst e
    rw [if_pos rfl, if_pos (by omega), h]
  · rw [if_neg e]
    by_cases e2 : f * W + i < k
    · rw [if_pos e2, if_pos (by omega)]
    · rw [if_neg e2, if_neg (by omega)]
/-- Behind Q rows and C + 1 runes. -/
def prM (c : Nat → Nat) (W H Q C : Nat) : EmM := plM W H (prF c W (Q + 1 - H) (Q * W + C + 1)) (min (C + 1) (W - 1)) (min Q (H - 1)) (decide (C + 1 = W)) 0 H
theorem pr_first (c : Nat → Nat) (hW : 2 ≤ W) (hH : 1 ≤ H) (hc : c 0 < 127) : (EmM.new W H).print (c 0) = prM c W H 0 0 := by
  rw [pl_new, pl_print0 (c 0) hc (by omega) (by omega)]
  unfold prM
  have e : setF (0 * W + 0) ⟨(c 0 : Int), .z⟩ (fun _ => blankC) = prF c W (0 + 1 - H) (0 * W + 0 + 1) := by
    have h0 : (fun _ => blankC) = prF c W (0 + 1 - H) 0 := by funext i; unfold prF; rw [if_neg (by omega)]
    have h1 : (0 + 1 - H) * W + 0 = 0 := by rw [show 0 + 1 - H = 0 from by omega]; omega
    rw [h0, show 0 * W + 0 = 0 from by omega]
    exact prF_set c W (0 + 1 - H) 0 0 h1
  rw [e, show min 0 (H - 1) = 0 from by omega]
theorem pr_step (c : Nat → Nat) (Q C : Nat) (hW : 2 ≤ W) (hH : 1 ≤ H) (hC : C + 1 < W) (hc : c (Q * W + C + 1) < 127) : (prM c W H Q C).print (c (Q * W + C + 1)) = prM c W H Q (C + 1) := by
  unfold prM
  rw [show decide (C + 1 = W) = false from by simp; omega, pl_print0 _ hc (by omega) (by omega)]
  have hf : (Q + 1 - H) * W + min Q (H - 1) * W = Q * W := by rw [← Nat.add_mul]; congr 1; omega
  rw [show min (C + 1) (W - 1) = C + 1 from by omega, prF_set c W (Q + 1 - H) (Q * W + C + 1) _ (by omega)]
  rfl
theorem pr_wrap (c : Nat → Nat) (Q C : Nat) (hW : 2 ≤ W) (hH : 1 ≤ H) (hC : C + 1 = W) (hc : c (Q * W + C + 1) < 127) : (prM c W H Q C).print (c (Q * W + C + 1)) = prM c W H (Q + 1) 0 := by
  unfold prM
  have hk : Q * W + C + 1 = (Q + 1) * W := by rw [Nat.succ_mul]; omega
  rw [show decide (C + 1 = W) = true from by simp [hC], pl_print1 _ (by omega) (by omega), hk]
  rw [hk] at hc
  have hd : decide (0 + 1 = W) = false := by simp; omega
  by_cases h : min Q (H - 1) + 1 = H
  · rw [if_pos h, pl_print0 _ hc (by omega) (by omega), hd, show min (Q + 1) (H - 1) = min Q (H - 1) from by omega]
    have e1 : (Q + 1) + 1 - H = (Q + 1 - H) + 1 := by omega
    have e2 : (Q + 1 - H) * W + H * W = (Q + 1) * W := by rw [← Nat.add_mul]; congr 1; omega
    have e3 : ((Q + 1 - H) + 1) * W = (Q + 1 - H) * W + W := Nat.succ_mul _ _
    have e4 : min Q (H - 1) * W + W = H * W := by rw [← Nat.succ_mul, show (min Q (H - 1)).succ = H from h]
    have up : upF W 0 H 1 blankC (prF c W (Q + 1 - H) ((Q + 1) * W)) = prF c W ((Q + 1 - H) + 1) ((Q + 1) * W) := by
      funext i
      unfold upF prF
      rw [e3]
      by_cases h1 : 0 * W ≤ i ∧ i < H * W
      · rw [if_pos h1]
        by_cases h2 : i + 1 * W < H * W
        · rw [if_pos h2, if_pos (by omega), if_pos (by omega), show (Q + 1 - H) * W + (i + 1 * W) = (Q + 1 - H) * W + W + i from by omega]
        · rw [if_neg h2, if_neg (by omega)]
      · rw [if_neg h1, if_neg (by omega), if_neg (by omega)]
    rw [up, prF_set c W ((Q + 1 - H) + 1) ((Q + 1) * W) _ (by rw [e3]; omega), e1]
  · rw [if_neg h, show clampN (((min Q (H - 1) : Nat) : Int) + 1) H = min (Q + 1) (H - 1) from by unfold clampN; omega, pl_print0 _ hc (by omega) (by omega), hd]
    have e1 : Q + 1 - H = 0 := by omega
    have e2 : (Q + 1) + 1 - H = 0 := by omega
    have e3 : min (Q + 1) (H - 1) = Q + 1 := by omega
    rw [e1, e2, e3, prF_set c W 0 ((Q + 1) * W) _ (by omega)]
/-- Behind k + 1 runes. -/
theorem pr_all (c : Nat → Nat) (hW : 2 ≤ W) (hH : 1 ≤ H) : ∀ k, (∀ i, i ≤ k → 32 ≤ c i ∧ c i ≤ 126) → feedM (pAt 0, EmM.new W H) (tab (k + 1) c) = ((pAt 0, prM c W H (k / W) (k % W)), []) := by
  intro k
  induction k with
  | zero =>
    intro hc
    have h := hc 0 (by omega)
    rw [show tab (0 + 1) c = [c 0] from rfl, feed_one _ _ h.1 h.2, pr_first c hW hH (by omega), Nat.zero_div, Nat.zero_mod]
  | succ k ih =>
    intro hc
    have h := hc (k + 1) (by omega)
    have hk := Nat.div_add_mod k W
    rw [Nat.mul_comm] at hk
    rw [tab_snoc, feedM_add, ih (fun i hi => hc i (by omega))]
    dsimp only
    rw [feed_one _ _ h.1 h.2]
    have e : k + 1 = k / W * W + k % W + 1 := by omega
    have hm := Nat.mod_lt k (show 0 < W by omega)
    have hp : (prM c W H (k / W) (k % W)).print (c (k + 1)) = prM c W H ((k + 1) / W) ((k + 1) % W) := by
      by_cases hC : k % W + 1 < W
      · have q1 : (k + 1) / W = k / W := by rw [e, Nat.add_assoc, Nat.mul_comm, Nat.mul_add_div (by omega), Nat.div_eq_of_lt hC, Nat.add_zero]
        have q2 : (k + 1) % W = k % W + 1 := by
          have := Nat.div_add_mod (k + 1) W
          rw [q1, Nat.mul_comm] at this
          omega
        have := pr_step c (k / W) (k % W) hW hH hC (by rw [← e]; omega)
        rw [← e] at this
        rw [this, q1, q2]
      · have hC2 : k % W + 1 = W := by omega
        have e2 : k + 1 = (k / W + 1) * W := by rw [Nat.succ_mul]; omega
        have q1 : (k + 1) / W = k / W + 1 := by rw [e2, Nat.mul_div_cancel _ (by omega)]
        have q2 : (k + 1) % W = 0 := by rw [e2, Nat.mul_mod_left]
        have := pr_wrap c (k / W) (k % W) hW hH hC2 (by rw [← e]; omega)
        rw [← e] at this
        rw [this, q1, q2]
    rw [hp]
    rfl

-- regions
def colF (y : Nat) (i : Nat) : CellM := if i % 8 = 0 ∧ i / 8 < y then ⟨((97 + i / 8 : Nat) : Int), .z⟩ else blankC
theorem col_new : (fun _ => blankC : Nat → CellM) = colF 0 := by funext i; unfold colF; rw [if_neg (by omega)]
theorem col_step (hy : y < H) (hH : H ≤ 20) : feedM (pAt 0, plM 8 H (colF y) x x late t b) (goXY (y + 1) 1 ++ [97 + y]) = ((pAt 0, plM 8 H (colF (y + 1)) 1 y false t b), []) := by
  have h := pl_go (W := 8) (H := H) (F := colF y) (x := x) (y := x) (late := late) (t := t) (b := b) 0 y (by omega) hy (by omega) hH
  rw [feedM_add, show goXY (y + 1) 1 = goXY (y + 1) (0 + 1) from rfl, h]
  dsimp only
  rw [feed_one _ _ (by omega) (by omega), pl_print0 (97 + y) (by omega) (by omega) hy]
  have e : setF (y * 8 + 0) ⟨((97 + y : Nat) : Int), .z⟩ (colF y) = colF (y + 1) := by
    funext i
    unfold setF colF
    by_cases h1 : i = y * 8 + 0
    · rw [if_pos h1, if_pos (by omega), show i / 8 = y from by omega]
    · rw [if_neg h1]
      by_cases h2 : i % 8 = 0 ∧ i / 8 < y
      · rw [if_pos h2, if_pos (by omega)]
      · rw [if_neg h2, if_neg (by omega)]
  rw [e]
  rfl
theorem pl_limit (hb : 1 ≤ b) (hbH : b ≤ H) (hW : 0 < W) (hH : 0 < H) (x y : Nat) (late : Bool) : (plM W H F x y late 0 H).limit t b = if b ≤ t + 1 then plM W H F x y late 0 H else plM W H F 0 0 false t b := by
  have hl : (plM W H F x y late 0 H).low b = b := by
    show (if b = 0 ∨ H < b then H else b) = b
    rw [if_neg (by omega)]
  unfold EmM.limit
  rw [hl]
  by_cases h : b ≤ t + 1
  · rw [if_pos h, if_pos h]
  · rw [if_neg h, if_neg h]
    have e1 : clampN (0 : Int) W = 0 := by unfold clampN; omega
    have e2 : clampN (((1 : Nat) : Int) - 1) H = 0 := by unfold clampN; omega
    have : ({ plM W H F x y late 0 H with top := t, bottom := b } : EmM).home = plM W H F (clampN 0 W) (clampN (((1 : Nat) : Int) - 1) H) false t b := rfl
    rw [this, e1, e2]
theorem up_zero (c : CellM) : upF W t b 0 c F = F := by
  funext i
  unfold upF
  by_cases h : t * W ≤ i ∧ i < b * W
  · rw [if_pos h, if_pos (by omega)]; congr 1; omega
  · rw [if_neg h]
theorem up_more (n : Nat) (c : CellM) : upF W t b 1 c (upF W t b n c F) = upF W t b (n + 1) c F := by
  funext i
  unfold upF
  rw [Nat.succ_mul n W, Nat.one_mul]
  by_cases h : t * W ≤ i ∧ i < b * W
  · rw [if_pos h, if_pos h]
    by_cases h2 : i + W < b * W
    · rw [if_pos h2, if_pos (by omega)]
      by_cases h3 : i + W + n * W < b * W
      · rw [if_pos h3, if_pos (by omega)]; congr 1; omega
      · rw [if_neg h3, if_neg (by omega)]
    · rw [if_neg h2, if_neg (by omega)]
  · rw [if_neg h, if_neg h, if_neg h]
theorem feed_lf (hy : y + 1 = b) (hx : x < W) (hyH : y < H) (F : Nat → CellM) : feedM (pAt 0, plM W H F x y late t b) [10] = ((pAt 0, plM W H (upF W t b 1 blankC F) x y false t b), []) := by
  rw [feed_ctl _ 10 (by omega) (by omega) (by omega) (by omega)]
  have e0 : (plM W H F x y late t b).control 10 = (plM W H F x y late t b).index := rfl
  have e1 : clampN (x : Int) W = x := by unfold clampN; omega
  have e2 : clampN (y : Int) H = y := by unfold clampN; omega
  have e : (plM W H F x y late t b).index = plM W H (upF W t b 1 blankC F) (clampN (x : Int) W) (clampN (y : Int) H) false t b := by
    unfold EmM.index
    rw [if_pos (show (plM W H F x y late t b).st.y + 1 = (plM W H F x y late t b).bottom from hy)]
    rfl
  rw [e0, e, e1, e2]

end Go.Proofs.YtpmnbfifpenlkaaGreatDoor
