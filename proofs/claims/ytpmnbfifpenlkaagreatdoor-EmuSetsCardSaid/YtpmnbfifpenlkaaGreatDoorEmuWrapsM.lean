/- Law EmuWraps: beside the program. Own work. -/
import Derived.Test.YtpmnbfifpenlkaaGreatDoorEmuLaw2
namespace Go.Proofs.YtpmnbfifpenlkaaGreatDoor
set_option linter.unusedVariables false
set_option linter.unusedSimpArgs false

/-- Text of plain runes, as bytes. -/
theorem showL_nats (xs : List CellM) (h : ∀ c ∈ xs, 0 ≤ c.r ∧ c.r < 128) : natsOf (showL xs) = xs.map (·.r.toNat) := by
  have key : ∀ n, natsOf (showL (xs.take n)) = (xs.take n).map (·.r.toNat) := by
    intro n
    induction n with
    | zero => simp [showL, runesBytes, natsOf]
    | succ n ih =>
      rcases Nat.lt_or_ge n xs.length with e | e
      · rw [take_next (List.getElem?_eq_getElem e), showL_snoc, natsOf_add, ih, natsOf_encode, List.map_append]
        congr 1
        have hc := h xs[n] (List.getElem_mem e)
        have e1 : runeN (xs[n]).r = (xs[n]).r.toNat := by
          unfold runeN
          split
          · omega
          · first | rfl | omega
        rw [e1]
        unfold encN
        rw [if_pos (by omega)]
        rfl
      · rw [List.take_of_length_le (by omega)]
        rw [List.take_of_length_le e] at ih
        exact ih
  have := key xs.length
  rwa [List.take_length] at this

/-- A row's runes behind a text that does not wrap. -/
def wrapN (W : Nat) (l : List Nat) (i : Nat) : Nat := if i + 1 < W ∨ l.length < W then l.getD i 32 else l.getLastD 32
structure Wr (m : EmM) (W : Nat) (l : List Nat) : Prop where
  eW : m.W = W
  eH : m.H = 1
  eO : m.O = none
  ew : m.wrap = false
  ei : m.ins = false
  eu : m.st.use = 0
  e0 : m.st.s0 = 66
  ey : m.st.y = 0
  ex : m.st.x = min l.length (W - 1)
  eF : ∀ i, i < W → (m.F i).r = (wrapN W l i : Int)
theorem Wr.print {m : EmM} {W : Nat} {l : List Nat} (h : Wr m W l) (hW : 2 ≤ W) (c : Nat) (hc : c < 127) : Wr (m.print c) W (l ++ [c]) := by
  have e1 : m.wrapOne = m := by unfold EmM.wrapOne; rw [if_neg (by rw [h.ew]; simp)]
  have e2 : m.insOne = m := by unfold EmM.insOne; rw [if_neg (by rw [h.ei]; simp)]
  have e3 : m.mapped c = (c : Int) := by
    unfold EmM.mapped EmM.charset mapM
    rw [if_pos (by omega), if_pos h.eu, h.e0, if_neg (by omega), if_neg (by omega)]
  have e4 : m.place = m.st.x := by unfold EmM.place; rw [h.ey]; omega
  have e5 : m.setOne (c : Int) = { m with F := setF m.st.x ⟨(c : Int), m.st.pen⟩ m.F } := by
    unfold EmM.setOne EmM.put EmM.shown
    rw [h.eO, e4]
  have e6 : m.print c = ({ m with F := setF m.st.x ⟨(c : Int), m.st.pen⟩ m.F } : EmM).after := by
    unfold EmM.print
    rw [e1, e2, e3, e5]
  rw [e6]
  refine ⟨h.eW, h.eH, h.eO, h.ew, h.ei, h.eu, h.e0, ?_, ?_, fun i hi => ?_⟩
  · show clampN (m.st.y : Int) m.H = 0
    rw [h.ey, h.eH]; rfl
  · show clampN ((m.st.x : Int) + 1) m.W = _
    rw [h.ex, h.eW, List.length_append]
    unfold clampN
    simp
    omega
  · show (setF m.st.x ⟨(c : Int), m.st.pen⟩ m.F i).r = _
    unfold setF
    rw [h.ex]
    by_cases hix : i = min l.length (W - 1)
    · rw [if_pos hix]
      show (c : Int) = _
      unfold wrapN
      by_cases hk : l.length < W - 1
      · rw [if_pos (by omega), List.getD_eq_getElem?_getD, List.getElem?_append_right (by omega)]
        have : i - l.length = 0 := by omega
        simp [this]
      · rw [if_neg (by simp; omega)]
        simp
    · rw [if_neg hix, h.eF i hi]
      congr 1
      unfold wrapN
      by_cases h1 : i + 1 < W ∨ l.length < W
      · rw [if_pos h1]
        by_cases hil : i < l.length
        · rw [if_pos (by simp; omega), List.getD_eq_getElem?_getD, List.getD_eq_getElem?_getD, List.getElem?_append_left hil]
        · have e : l.getD i 32 = 32 := by rw [List.getD_eq_getElem?_getD, List.getElem?_eq_none (by omega)]; rfl
          rw [e, if_pos (by simp; omega), List.getD_eq_getElem?_getD, List.getElem?_eq_none (by simp; omega)]
          rfl
      · omega
theorem Wr.prints {W : Nat} (hW : 2 ≤ W) (l2 : List Nat) (hl : ∀ c ∈ l2, c < 127) : ∀ {m : EmM} {l : List Nat}, Wr m W l → Wr (prints m l2) W (l ++ l2) := by
  induction l2 with
  | nil => intro m l h; rw [List.append_nil]; exact h
  | cons c r ih =>
    intro m l h
    have := ih (fun x hx => hl x (by simp [hx])) (h.print hW c (hl c (by simp)))
    rw [List.append_assoc] at this
    exact this
def wantN (W : Nat) (l : List Nat) : List Nat := if l.length ≤ W then l ++ List.replicate (W - l.length) 32 else l.take (W - 1) ++ l.drop (l.length - 1)
theorem wrapN_all (W : Nat) (hW : 2 ≤ W) (l : List Nat) : (List.range W).map (wrapN W l) = wantN W l := by
  apply List.ext_getElem?
  intro i
  unfold wantN
  by_cases hi : i < W
  · rw [List.getElem?_map, List.getElem?_range hi]
    show some (wrapN W l i) = _
    unfold wrapN
    by_cases hl : l.length ≤ W
    · rw [if_pos hl]
      by_cases hil : i < l.length
      · rw [List.getElem?_append_left hil, List.getElem?_eq_getElem hil]
        congr 1
        by_cases h1 : i + 1 < W ∨ l.length < W
        · rw [if_pos h1, List.getD_eq_getElem?_getD, List.getElem?_eq_getElem hil]; rfl
        · rw [if_neg h1, List.getLastD_eq_getLast?, List.getLast?_eq_getElem?, show l.length - 1 = i from by omega, List.getElem?_eq_getElem hil]; rfl
      · rw [List.getElem?_append_right (by omega), List.getElem?_replicate_of_lt (by omega), if_pos (by omega), List.getD_eq_getElem?_getD, List.getElem?_eq_none (by omega)]
        rfl
    · rw [if_neg hl]
      by_cases h1 : i + 1 < W
      · rw [if_pos (.inl h1), List.getElem?_append_left (by rw [List.length_take]; omega), List.getElem?_take_of_lt (by omega), List.getD_eq_getElem?_getD, List.getElem?_eq_getElem (by omega)]
        rfl
      · rw [if_neg (by omega), List.getElem?_append_right (by rw [List.length_take]; omega), List.getElem?_drop, List.length_take, List.getLastD_eq_getLast?, List.getLast?_eq_getElem?, show l.length - 1 + (i - min (W - 1) l.length) = l.length - 1 from by omega, List.getElem?_eq_getElem (by omega)]
        rfl
  · rw [List.getElem?_eq_none (by simp; omega), List.getElem?_eq_none]
    split
    · simp; omega
    · simp; omega
theorem wraps_says (W : Nat) (hW : 2 ≤ W) (l : List Nat) (hl : ∀ c ∈ l, 33 ≤ c ∧ c ≤ 126) :
    ∃ m, feedM (pAt 0, EmM.new W 1) ([27, 91, 63, 55, 108] ++ l) = ((pAt 0, m), []) ∧ m.W = W ∧ m.H = 1 ∧ m.st.x = min l.length (W - 1) ∧ (rowsT m.W m.shown m.H).map natsOf = [wantN W l] := by
  have h1 := feed_mode (EmM.new W 1) 7 108 (by omega) (.inr rfl)
  rw [show decN 7 = [55] from by rw [decN, if_pos (by omega)]] at h1
  have h2 : feedM (pAt 0, EmM.new W 1) [27, 91, 63, 55, 108] = ((pAt 0, { EmM.new W 1 with wrap := false }), []) := h1
  have w0 : Wr ({ EmM.new W 1 with wrap := false } : EmM) W [] := ⟨rfl, rfl, rfl, rfl, rfl, rfl, rfl, rfl, by show 0 = min 0 (W - 1); omega, fun i hi => by
    unfold wrapN
    rw [if_pos (by simp; omega)]
    rfl⟩
  have w1 := w0.prints hW l (fun c hc => by have := hl c hc; omega)
  rw [List.nil_append] at w1
  refine ⟨prints { EmM.new W 1 with wrap := false } l, ?_, w1.eW, w1.eH, w1.ex, ?_⟩
  · rw [feedM_add, h2, feed_prints _ l (fun c hc => by have := hl c hc; omega)]
    rfl
  · rw [w1.eW, w1.eH]
    have hs : (prints { EmM.new W 1 with wrap := false } l).shown = (prints { EmM.new W 1 with wrap := false } l).F := by unfold EmM.shown; rw [w1.eO]
    rw [hs]
    show [natsOf (showL (rowL W (fun x => (prints { EmM.new W 1 with wrap := false } l).F (0 * W + x))))] = _
    have hr : ∀ i, i < W → (((prints { EmM.new W 1 with wrap := false } l).F (0 * W + i)).r) = (wrapN W l i : Int) := fun i hi => by rw [Nat.zero_mul, Nat.zero_add]; exact w1.eF i hi
    have hb : ∀ i, wrapN W l i < 128 := fun i => by
      unfold wrapN
      split
      · rw [List.getD_eq_getElem?_getD]
        rcases Nat.lt_or_ge i l.length with e | e
        · rw [List.getElem?_eq_getElem e]; have := hl l[i] (List.getElem_mem e); show l[i] < 128; omega
        · rw [List.getElem?_eq_none e]; show 32 < 128; omega
      · rw [List.getLastD_eq_getLast?]
        cases e : l.getLast? with
        | none => show 32 < 128; omega
        | some c => have := hl c (List.mem_of_getLast? e); show c < 128; omega
    rw [showL_nats]
    · rw [← wrapN_all W hW l]
      unfold rowL
      rw [List.map_map]
      congr 1
      apply List.map_congr_left
      intro i hi
      have := hr i (List.mem_range.1 hi)
      show (CellM.r _).toNat = _
      rw [this]
      simp
    · intro c hc
      unfold rowL at hc
      obtain ⟨i, hi, rfl⟩ := List.mem_map.1 hc
      rw [hr i (List.mem_range.1 hi)]
      have := hb i
      omega

end Go.Proofs.YtpmnbfifpenlkaaGreatDoor
