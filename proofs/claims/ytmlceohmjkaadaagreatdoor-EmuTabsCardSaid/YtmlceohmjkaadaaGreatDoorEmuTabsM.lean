/- Law EmuTabs: beside the program. Own work. -/
import Derived.Test.YtmlceohmjkaadaaGreatDoorEmuMovesM
set_option linter.unusedVariables false
set_option linter.unusedSimpArgs false
namespace Go.Proofs.YtmlceohmjkaadaaGreatDoor
set_option linter.unusedVariables false

/-- The next stop: none lies between. -/
theorem nextR_next (x n : Int) (l : List Bool) (hl : (l.length : Int) = n) (k : Nat) (hk : (k : Int) ≤ n - 1) (hx : x < k) (hs : (k : Int) = n - 1 ∨ l[k]? = some true) (hb : ∀ j : Nat, x < (j : Int) → j < k → l[j]? = some false) :
    ∀ d i : Nat, i + d = k → nextR x n i (l.drop i) = k := by
  intro d
  induction d with
  | zero =>
    intro i hi
    obtain rfl : i = k := by omega
    have hlt : i < l.length := by omega
    obtain ⟨b, hbb⟩ : ∃ b, l[i]? = some b := ⟨l[i], List.getElem?_eq_getElem hlt⟩
    rw [nextR_at hbb]
    by_cases h : b = true
    · rw [if_pos ⟨h, hx⟩]
    · rw [if_neg (fun e => h e.1)]
      have e : (i : Int) = n - 1 := by
        rcases hs with e | e
        · exact e
        · rw [hbb] at e; injection e with e; exact absurd e h
      rw [List.drop_of_length_le (by omega)]
      show max (n - 1) 0 = (i : Int)
      omega
  | succ d ih =>
    intro i hi
    have hlt : i < l.length := by omega
    obtain ⟨b, hbb⟩ : ∃ b, l[i]? = some b := ⟨l[i], List.getElem?_eq_getElem hlt⟩
    rw [nextR_at hbb, if_neg, ih (i + 1) (by omega)]
    rintro ⟨rfl, h2⟩
    have := hb i h2 (by omega)
    rw [hbb] at this
    cases this
theorem nextR_last (x n : Int) (l : List Bool) (hl : (l.length : Int) = n) (h0 : 0 < n) (hx : n - 1 ≤ x) : ∀ d i : Nat, i + d = l.length → nextR x n i (l.drop i) = n - 1 := by
  intro d
  induction d with
  | zero =>
    intro i hi
    rw [List.drop_of_length_le (by omega)]
    show max (n - 1) 0 = n - 1
    omega
  | succ d ih =>
    intro i hi
    have hlt : i < l.length := by omega
    obtain ⟨b, hbb⟩ : ∃ b, l[i]? = some b := ⟨l[i], List.getElem?_eq_getElem hlt⟩
    rw [nextR_at hbb, if_neg, ih (i + 1) (by omega)]
    rintro ⟨rfl, h2⟩
    omega

/-- The stops of the law: those of a new one, and one that is set. -/
def stopsT (W x : Nat) (set : Bool) : List Bool := if set = true then putL true (newL W) [(x : Int)] else newL W
theorem stopsT_len (W x : Nat) (set : Bool) : (stopsT W x set).length = W := by
  unfold stopsT
  split
  · rw [putL_len]; exact newT_len W W
  · exact newT_len W W
theorem stopsT_at (W x j : Nat) (set : Bool) (hj : j < W) (hx : x < W) : (stopsT W x set)[j]? = some (decide (0 < j ∧ j % 8 = 0) || (set && decide (j = x))) := by
  have h0 := newT_at W W j hj
  have h1 : (newL W)[j]? = some (decide (0 < j ∧ j % 8 = 0)) := by
    unfold newL
    rw [h0]
    congr 1
    simp only [decide_eq_decide]
    omega
  unfold stopsT
  cases set
  · simp [h1]
  · have e : putL true (newL W) [(x : Int)] = (newL W).set x true := by
      have hl : (newL W).length = W := newT_len W W
      simp [putL, putC, hl, hx]
    rw [if_pos rfl, e, List.getElem?_set]
    have hl : (newL W).length = W := newT_len W W
    by_cases hjx : x = j
    · subst hjx
      simp [hl, hx]
    · rw [if_neg hjx, h1]
      simp [Ne.symm hjx]

/-- A terminal of one row, the cursor in a column, stops as in the law. -/
structure AtT (m : EmM) (W x at' : Nat) (set : Bool) : Prop where
  eW : m.W = W
  eH : m.H = 1
  eX : m.st.x = at'
  eY : m.st.y = 0
  eS : m.stops = stopsT W x set
theorem feed_tab {m : EmM} {W x at' k : Nat} {set : Bool} (h : AtT m W x at' set) (hx : x < W) (ha : at' < W) (hk : at' < k)
    (hb : ∀ j, at' < j → j < k → j % 8 ≠ 0 ∧ ¬ (set = true ∧ j = x)) (he : k + 1 < W → k % 8 = 0 ∨ (set = true ∧ k = x)) (hkw : k ≤ W) :
    ∃ m', feedM (pAt 0, m) [9] = ((pAt 0, m'), []) ∧ AtT m' W x (min k (W - 1)) set := by
  refine ⟨m.control 9, feed_ctl m 9 (by omega) (by omega) (by omega) (by omega), ?_⟩
  have hn : nextL m.stops m.st.x = ((min k (W - 1) : Nat) : Int) := by
    rw [h.eS, h.eX]
    unfold nextL
    rw [stopsT_len]
    by_cases hw : W ≤ at' + 1
    · have := nextR_last (at' : Int) (W : Int) (stopsT W x set) (by rw [stopsT_len]) (by omega) (by omega) _ 0 (by rw [Nat.zero_add])
      rw [List.drop_zero] at this
      rw [this]
      omega
    · have := nextR_next (at' : Int) (W : Int) (stopsT W x set) (by rw [stopsT_len]) (min k (W - 1)) (by omega) (by omega)
        (by
          by_cases h1 : k + 1 < W
          · refine .inr ?_
            rw [show min k (W - 1) = k from by omega, stopsT_at W x k set (by omega) hx]
            rcases he h1 with e | ⟨e1, e2⟩
            · simp [e]; exact .inl (by omega)
            · simp [e1, e2]
          · exact .inl (by omega))
        (fun j h1 h2 => by
          rw [stopsT_at W x j set (by omega) hx]
          have := hb j (by omega) (by omega)
          have e1 : ¬ (0 < j ∧ j % 8 = 0) := fun e => this.1 e.2
          cases set
          · simp [this.1]
          · have : ¬ j = x := fun e => this.2 ⟨rfl, e⟩
            simp [e1, this])
        _ 0 (Nat.zero_add _)
      rwa [List.drop_zero] at this
  unfold EmM.control
  rw [if_neg (by omega), if_pos rfl, hn]
  exact ⟨h.eW, h.eH, by show clampN _ m.W = _; rw [h.eW]; unfold clampN; omega, by show clampN (m.st.y : Int) m.H = _; rw [h.eH, h.eY]; rfl, h.eS⟩
def tabSet (x : Nat) : List Nat := stepXY (x + 1) 71 ++ [27, 72, 13]
theorem feed_set (W x : Nat) (hx : x < W) (hw : W ≤ 40) : ∃ m', feedM (pAt 0, EmM.new W 1) (tabSet x) = ((pAt 0, m'), []) ∧ AtT m' W x 0 true := by
  have h1 : feedM (pAt 0, EmM.new W 1) (stepXY (x + 1) 71) = ((pAt 0, (EmM.new W 1).goTo ((max (x + 1) 1 : Nat) - 1 : Int) 0), []) := by
    unfold stepXY
    rw [feed_csi1 _ (x + 1) 71 (by omega) (by omega) (by omega)]
    unfold EmM.unmarked
    rw [if_pos (by omega), count_0 (x + 1) _ (by omega)]
    rfl
  have ex : ((EmM.new W 1).goTo ((max (x + 1) 1 : Nat) - 1 : Int) 0).st.x = x := by
    show clampN (((max (x + 1) 1 : Nat) : Int) - 1) W = x
    unfold clampN
    omega
  obtain ⟨m, hm⟩ : ∃ m, (EmM.new W 1).goTo ((max (x + 1) 1 : Nat) - 1 : Int) 0 = m := ⟨_, rfl⟩
  have eW : m.W = W ∧ m.H = 1 ∧ m.stops = newL W := by rw [← hm]; exact ⟨rfl, rfl, rfl⟩
  have ey : m.st.y = 0 := by rw [← hm]; show clampN 0 1 = 0; rfl
  rw [hm] at h1 ex
  refine ⟨(m.bareEscape 72).control 13, ?_, ?_⟩
  · unfold tabSet
    rw [show ([27, 72, 13] : List Nat) = [27, 72] ++ [13] from rfl, feedM_add, h1, feedM_add, feed_esc1 m 72 (by omega) (by omega) (by omega), feed_ctl _ 13 (by omega) (by omega) (by omega) (by omega)]
    rfl
  · have e : m.bareEscape 72 = { m with stops := putL true m.stops [(m.st.x : Int)] } := rfl
    rw [e, ex, eW.2.2]
    refine ⟨eW.1, eW.2.1, ?_, ?_, rfl⟩
    · show clampN 0 m.W = 0
      rw [eW.1]; unfold clampN; omega
    · show clampN (m.st.y : Int) m.H = 0
      rw [ey, eW.2.1]; rfl
theorem AtT.new (W x : Nat) : AtT (EmM.new W 1) W x 0 false := ⟨rfl, rfl, rfl, rfl, rfl⟩

end Go.Proofs.YtmlceohmjkaadaaGreatDoor
