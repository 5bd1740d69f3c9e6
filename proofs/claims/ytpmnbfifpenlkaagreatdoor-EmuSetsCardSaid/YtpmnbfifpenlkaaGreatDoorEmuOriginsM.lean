/- Law EmuOrigins: beside the program. Own work. -/
import Derived.Test.YtpmnbfifpenlkaaGreatDoorEmuLs
set_option linter.unusedVariables false
set_option linter.unusedSimpArgs false
namespace Go.Proofs.YtpmnbfifpenlkaaGreatDoor
set_option linter.unusedVariables false

/-- A region is set. -/
def regL (t b : Nat) : List Nat := 27 :: 91 :: (decN (t + 1) ++ 59 :: (decN b ++ [114]))
theorem feed_reg (m : EmM) (t b : Nat) (ht : t ≤ 9998) (hb : b ≤ 9999) : feedM (pAt 0, m) (regL t b) = ((pAt 0, m.limit t b), []) := by
  unfold regL
  rw [feed_csi2 m (t + 1) b 114 (by omega) hb (by omega) (by omega)]
  unfold EmM.unmarked
  rw [if_neg (by omega), if_neg (by omega), if_neg (by omega), if_neg (by omega), if_neg (by omega), if_pos rfl, count_0 (t + 1) _ (by omega), numAt_1 b _ _ hb, show max (t + 1) 1 - 1 = t from by omega]
/-- A terminal's region, and how its rows count. -/
structure Reg (m : EmM) (W H t b : Nat) (o : Bool) : Prop where
  rW : m.W = W
  rH : m.H = H
  rT : m.top = t
  rB : m.bottom = b
  rO : m.st.origin = o
theorem reg_limit (W H t b : Nat) (hH : 1 ≤ H) (h : (t + 1 < b ∧ b ≤ H) ∨ (t = 0 ∧ b = H)) : Reg ((EmM.new W H).limit t b) W H t b false := by
  have hl : (EmM.new W H).low b = b := by
    show (if b = 0 ∨ H < b then H else b) = b
    split
    · omega
    · rfl
  unfold EmM.limit
  rw [hl]
  split
  · exact ⟨rfl, rfl, show 0 = t by omega, show H = b by omega, rfl⟩
  · exact ⟨rfl, rfl, rfl, rfl, rfl⟩
theorem feed_orig (m : EmM) (c : Nat) (on : Bool) (h : (c = 104 ∧ on = true) ∨ (c = 108 ∧ on = false)) : feedM (pAt 0, m) [27, 91, 63, 54, c] = ((pAt 0, ({ m with st := { m.st with origin := on } } : EmM).home), []) := by
  have e := feed_mode m 6 c (by omega) (by omega)
  rw [show decN 6 = [54] from by rw [decN, if_pos (by omega)]] at e
  refine e.trans ?_
  rcases h with ⟨rfl, rfl⟩ | ⟨rfl, rfl⟩ <;> rfl
theorem Reg.orig {m : EmM} {W H t b : Nat} {o : Bool} (h : Reg m W H t b o) (on : Bool) : Reg (({ m with st := { m.st with origin := on } } : EmM).home) W H t b on := ⟨h.rW, h.rH, h.rT, h.rB, rfl⟩
theorem Reg.goTo {m : EmM} {W H t b : Nat} {o : Bool} (h : Reg m W H t b o) (x y : Int) : Reg (m.goTo x y) W H t b o := ⟨h.rW, h.rH, h.rT, h.rB, h.rO⟩

def originOn (t b row : Nat) : List Nat := regL t b ++ ([27, 91, 63, 54, 104] ++ goXY row 3)
def originOff (row : Nat) : List Nat := [27, 91, 63, 54, 108] ++ goXY row 3
theorem origins_on (H t b row k : Nat) (hH : 1 ≤ H) (hH2 : H ≤ 20) (h : (t + 1 < b ∧ b ≤ H) ∨ (t = 0 ∧ b = H)) (hr : row ≤ 9999) (hk : min (max row 1) (b - t) = k) :
    ∃ m, feedM (pAt 0, EmM.new 9 H) (originOn t b row) = ((pAt 0, m), []) ∧ Reg m 9 H t b true ∧ m.st.x = 2 ∧ m.st.y = t + k - 1 := by
  have r1 := (reg_limit 9 H t b hH h).orig true
  obtain ⟨m1, h1⟩ : ∃ m1, (({ (EmM.new 9 H).limit t b with st := { ((EmM.new 9 H).limit t b).st with origin := true } } : EmM).home) = m1 := ⟨_, rfl⟩
  refine ⟨m1.goTo ((max 3 1 : Nat) - 1 : Int) (m1.row (max row 1)), ?_, ?_, ?_, ?_⟩
  · unfold originOn
    rw [feedM_add, feed_reg _ t b (by omega) (by omega), feedM_add, feed_orig _ 104 true (.inl ⟨rfl, rfl⟩), h1, feed_go m1 row 3 hr (by omega)]
    rfl
  · rw [← h1]; exact r1.goTo _ _
  · show clampN _ m1.W = 2
    rw [← h1, r1.rW]; rfl
  · show clampN (m1.row (max row 1)) m1.H = _
    unfold EmM.row
    rw [← h1, r1.rH, r1.rO, r1.rT, r1.rB, if_pos rfl]
    unfold clampN
    omega
theorem origins_tell {m : EmM} {H t b k : Nat} (r : Reg m 9 H t b true) (hx : m.st.x = 2) (hy : m.st.y = t + k - 1) (hk : 1 ≤ k) : feedM (pAt 0, m) [27, 91, 54, 110] = ((pAt 0, m), [27, 91] ++ decN k ++ [59, 51, 82]) := by
  rw [feed_6n]
  have e : m.rowTold = k := by
    unfold EmM.rowTold
    rw [r.rO, if_pos rfl, r.rT, hy]
    omega
  rw [e, hx, show decN (2 + 1) = [51] from by rw [decN, if_pos (by omega)]]
  simp
theorem origins_off {m : EmM} {H t b row : Nat} (r : Reg m 9 H t b true) (hr : row ≤ 9999) (hH : 1 ≤ H) :
    ∃ m', feedM (pAt 0, m) (originOff row) = ((pAt 0, m'), []) ∧ m'.st.x = 2 ∧ m'.st.y = min (max row 1) H - 1 := by
  have r1 := r.orig false
  obtain ⟨m1, h1⟩ : ∃ m1, (({ m with st := { m.st with origin := false } } : EmM).home) = m1 := ⟨_, rfl⟩
  rw [h1] at r1
  refine ⟨m1.goTo ((max 3 1 : Nat) - 1 : Int) (m1.row (max row 1)), ?_, ?_, ?_⟩
  · unfold originOff
    rw [feedM_add, feed_orig _ 108 false (.inr ⟨rfl, rfl⟩), h1, feed_go m1 row 3 hr (by omega)]
    rfl
  · show clampN _ m1.W = 2
    rw [r1.rW]; rfl
  · show clampN (m1.row (max row 1)) m1.H = _
    unfold EmM.row
    rw [r1.rH, r1.rO, if_neg (by simp)]
    unfold clampN
    omega

end Go.Proofs.YtpmnbfifpenlkaaGreatDoor
