/- Laws EmuErases, EmuLines, EmuChars, EmuRegions: beside the program. Own work. -/
import Derived.Test.YtnminmaklbhakaaGreatDoorEmuPl
namespace Go.Proofs.YtnminmaklbhakaaGreatDoor
set_option linter.unusedVariables false
set_option linter.unusedSimpArgs false
variable {W H x y t b : Nat} {F : Nat → CellM} {late : Bool}

/-- A number and a letter. -/
def oneL (n f : Nat) : List Nat := 27 :: 91 :: (decN n ++ [f])
theorem feed_oneL (m : EmM) (n f : Nat) (hn : n ≤ 9999) (h1 : 64 ≤ f) (h2 : f ≤ 126) : feedM (pAt 0, m) (oneL n f) = ((pAt 0, (m.unmarked f [(n : Int)]).1), (m.unmarked f [(n : Int)]).2) := feed_csi1 m n f hn h1 h2

-- erasing
/-- From where to where. -/
def from_ (W x y how : Nat) (row : Bool) : Nat := if how = 0 then y * W + x else if row = true then y * W else 0
def upto_ (W H x y how : Nat) (row : Bool) : Nat := if how = 1 then y * W + x + 1 else if row = true then (y + 1) * W else W * H
theorem pl_erase (how : Nat) (row : Bool) (hh : how < 4) :
    feedM (pAt 0, plM W H F x y late t b) (oneL how (if row = true then 75 else 74)) = ((pAt 0, plM W H (if how < 3 then fillF (from_ W x y how row) (upto_ W H x y how row) blankC F else F) x y (if how < 3 then false else late) t b), []) := by
  rw [feed_oneL _ how _ (by omega) (by split <;> omega) (by split <;> omega)]
  have e0 : EmM.numAt [(how : Int)] 0 = how := numAt_0 how _ (by omega)
  have e1 : (plM W H F x y late t b).unmarked (if row = true then 75 else 74) [(how : Int)] = ((plM W H F x y late t b).erase (if row = true then 75 else 74) how, []) := by
    unfold EmM.unmarked
    rw [e0]
    cases row <;> rfl
  rw [e1]
  have e2 : (plM W H F x y late t b).erase (if row = true then 75 else 74) how = plM W H (if how < 3 then fillF (from_ W x y how row) (upto_ W H x y how row) blankC F else F) x y (if how < 3 then false else late) t b := by
    rcases (show how = 0 ∨ how = 1 ∨ how = 2 ∨ how = 3 by omega) with rfl | rfl | rfl | rfl <;> cases row <;> rfl
  rw [e2]
/-- What stands there then. -/
theorem fill_at (i j how : Nat) (row : Bool) (hh : how < 3) (hi : i < W) (hj : j < H) (hx : x < W) (hy : y < H) (gone : Bool)
    (hg : gone = ((how == 0 && decide (y * W + x ≤ j * W + i)) || (how == 1 && decide (j * W + i ≤ y * W + x)) || how == 2)) :
    fillF (from_ W x y how row) (upto_ W H x y how row) blankC F (j * W + i) = if gone = true ∧ (row = false ∨ j = y) then blankC else F (j * W + i) := by
  have hin : j * W + i < W * H := by
    have h1 := Nat.mul_le_mul_right W (Nat.succ_le_of_lt hj)
    rw [Nat.succ_mul, Nat.mul_comm H W] at h1
    omega
  have hrow : (y * W ≤ j * W + i ∧ j * W + i < (y + 1) * W) ↔ j = y := by
    constructor
    · rintro ⟨h1, h2⟩
      rcases Nat.lt_trichotomy j y with e | e | e
      · have := Nat.mul_le_mul_right W (show j + 1 ≤ y from e); rw [Nat.succ_mul] at this; omega
      · exact e
      · have := Nat.mul_le_mul_right W (show y + 1 ≤ j from e); omega
    · rintro rfl
      rw [Nat.succ_mul]; omega
  have hyW : (y + 1) * W = y * W + W := Nat.succ_mul y W
  have hx0 : x + 1 ≤ W := hx
  have key : (from_ W x y how row ≤ j * W + i ∧ j * W + i < upto_ W H x y how row) ↔ (gone = true ∧ (row = false ∨ j = y)) := by
    unfold from_ upto_
    subst hg
    generalize j * W + i = B at *
    generalize hR : (y + 1) * W = R at *
    generalize hQ : y * W = Q at *
    generalize W * H = S at *
    rcases (show how = 0 ∨ how = 1 ∨ how = 2 by omega) with rfl | rfl | rfl <;> cases row <;> simp <;> omega
  unfold fillF
  by_cases h : gone = true ∧ (row = false ∨ j = y)
  · rw [if_pos h, if_pos (key.2 h)]
  · rw [if_neg h, if_neg (fun e => h (key.1 e))]

-- lines
theorem pl_lines (n : Nat) (ins : Bool) (hn : n ≤ 9999) (hy : t ≤ y ∧ y < b) (hW : 0 < W) (hyH : y < H) :
    feedM (pAt 0, plM W H F x y late t b) (oneL n (if ins = true then 76 else 77)) = ((pAt 0, plM W H (if ins = true then downF W y b (max n 1) blankC F else upF W y b (max n 1) blankC F) 0 y false t b), []) := by
  rw [feed_oneL _ n _ hn (by split <;> omega) (by split <;> omega)]
  have e0 : EmM.count [(n : Int)] 0 = max n 1 := count_0 n _ hn
  have e1 : (plM W H F x y late t b).unmarked (if ins = true then 76 else 77) [(n : Int)] = ((plM W H F x y late t b).moveRows (if ins = true then 76 else 77) (max n 1), []) := by
    unfold EmM.unmarked
    rw [e0]
    cases ins <;> rfl
  rw [e1]
  have e3 : clampN (0 : Int) W = 0 := by unfold clampN; omega
  have e4 : clampN (y : Int) H = y := by unfold clampN; omega
  have e2 : (plM W H F x y late t b).moveRows (if ins = true then 76 else 77) (max n 1) = plM W H (if ins = true then downF W y b (max n 1) blankC F else upF W y b (max n 1) blankC F) (clampN 0 W) (clampN (y : Int) H) false t b := by
    unfold EmM.moveRows
    rw [if_neg (show ¬ ((plM W H F x y late t b).st.y < (plM W H F x y late t b).top ∨ (plM W H F x y late t b).bottom ≤ (plM W H F x y late t b).st.y) from by show ¬ (y < t ∨ b ≤ y); omega)]
    cases ins <;> rfl
  rw [e2, e3, e4]
theorem row_in (hi : x < W) (a b j : Nat) : (a * W ≤ j * W + x ∧ j * W + x < b * W) ↔ (a ≤ j ∧ j < b) := by
  constructor
  · rintro ⟨h1, h2⟩
    constructor
    · rcases Nat.lt_or_ge j a with e | e
      · have := Nat.mul_le_mul_right W (show j + 1 ≤ a from e); rw [Nat.succ_mul] at this; omega
      · exact e
    · rcases Nat.lt_or_ge j b with e | e
      · exact e
      · have := Nat.mul_le_mul_right W e; omega
  · rintro ⟨h1, h2⟩
    have h3 := Nat.mul_le_mul_right W h1
    have h4 := Nat.mul_le_mul_right W (show j + 1 ≤ b from h2)
    rw [Nat.succ_mul] at h4
    omega
theorem up_row (i j k : Nat) (c : CellM) (hi : i < W) : upF W t b k c F (j * W + i) = if t ≤ j ∧ j < b then (if j + k < b then F ((j + k) * W + i) else c) else F (j * W + i) := by
  unfold upF
  have e : j * W + i + k * W = (j + k) * W + i := by rw [Nat.add_mul]; omega
  have k1 := row_in hi t b j
  have k2 := row_in hi 0 b (j + k)
  rw [e]
  by_cases h : t ≤ j ∧ j < b
  · rw [if_pos h, if_pos (k1.2 h)]
    by_cases h2 : j + k < b
    · rw [if_pos h2, if_pos (k2.2 ⟨Nat.zero_le _, h2⟩).2]
    · rw [if_neg h2, if_neg (fun e => h2 (k2.1 ⟨by omega, e⟩).2)]
  · rw [if_neg h, if_neg (fun e => h (k1.1 e))]
theorem down_row (i j k : Nat) (c : CellM) (hi : i < W) : downF W t b k c F (j * W + i) = if t ≤ j ∧ j < b then (if j < t + k then c else F ((j - k) * W + i)) else F (j * W + i) := by
  unfold downF
  have k1 := row_in hi t b j
  have k2 := row_in hi 0 (t + k) j
  by_cases h : t ≤ j ∧ j < b
  · rw [if_pos h, if_pos (k1.2 h)]
    have et : (t + k) * W = t * W + k * W := Nat.add_mul t k W
    rw [et] at k2
    by_cases h2 : j < t + k
    · rw [if_pos h2, if_pos (k2.2 ⟨Nat.zero_le _, h2⟩).2]
    · rw [if_neg h2, if_neg (fun e => h2 (k2.1 ⟨by omega, e⟩).2)]
      have h3 := Nat.mul_le_mul_right W (show k ≤ j from by omega)
      rw [Nat.sub_mul]
      congr 1
      omega
  · rw [if_neg h, if_neg (fun e => h (k1.1 e))]

-- painting
/-- The first y rows painted: the row j of the letter j letters behind a. -/
def paintF (W y : Nat) (F : Nat → CellM) (i : Nat) : CellM := if i < y * W then ⟨((97 + i / W : Nat) : Int), .z⟩ else F i
theorem paint_row (y : Nat) (hW : 0 < W) : rowF (y * W) W (fun _ => 97 + y) (paintF W y F) = paintF W (y + 1) F := by
  funext i
  unfold rowF paintF
  rw [Nat.succ_mul]
  by_cases h : y * W ≤ i ∧ i < y * W + W
  · rw [if_pos h, if_pos h.2]
    have : i / W = y := by
      obtain ⟨d, hd⟩ : ∃ d, i = y * W + d := ⟨i - y * W, by omega⟩
      have hdW : d < W := by omega
      rw [hd, Nat.mul_comm, Nat.mul_add_div hW, Nat.div_eq_of_lt hdW, Nat.add_zero]
    rw [this]
  · rw [if_neg h]
    by_cases h2 : i < y * W
    · rw [if_pos h2, if_pos (by omega)]
    · rw [if_neg h2, if_neg (by omega)]
theorem paint_at (i j y : Nat) (hi : i < W) (hj : j < y) : paintF W y F (j * W + i) = ⟨((97 + j : Nat) : Int), .z⟩ := by
  unfold paintF
  have h := (row_in hi 0 y j).2 ⟨Nat.zero_le _, hj⟩
  have : (j * W + i) / W = j := by rw [Nat.mul_comm, Nat.mul_add_div (by omega), Nat.div_eq_of_lt hi, Nat.add_zero]
  rw [if_pos h.2, this]

end Go.Proofs.YtnminmaklbhakaaGreatDoor
