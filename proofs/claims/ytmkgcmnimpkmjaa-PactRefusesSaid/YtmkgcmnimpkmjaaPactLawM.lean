/- Sides all No but one: what an Option makes of them. Own work. -/
import Derived.Test.YtmkgcmnimpkmjaaPactM
namespace Go.Proofs.Ytmkgcmnimpkmjaa
set_option linter.unusedVariables false
set_option linter.unusedSimpArgs false
open Go.RowKit

/-- All sides of a party are No but that of o. -/
def Rf (m : Pm) (y : Bool) (o : Nat) (v : Int × Bool) : Prop := m.of y = setS (fun _ => (0, false)) (o : Int) v
def cmdOn : Bool → Int
  | true => 253
  | false => 251
def cmdOff : Bool → Int
  | true => 254
  | false => 252

theorem take_opt (m : Pm) (cmd : Int) (o : Nat) (ho : o ≤ 255) (n t : List UInt8) : m.take 2 cmd (o : Int) = m.option cmd o ∧ m.takeT n 2 cmd (o : Int) t = m.optionT cmd o := by
  have e : (2 : Int) = 2 ∧ (0 : Int) ≤ (o : Int) ∧ (o : Int) ≤ 255 := ⟨rfl, by omega, by omega⟩
  exact ⟨(if_pos e).trans (by rw [Int.toNat_natCast]), (if_pos e).trans (by rw [Int.toNat_natCast])⟩

theorem setS_const (o : Int) : setS (fun _ => ((0 : Int), false)) o (0, false) = fun _ => (0, false) := by
  funext x
  unfold setS
  split <;> rfl
theorem setS_twice (f : Int → Int × Bool) (o : Int) (u v : Int × Bool) : setS (setS f o u) o v = setS f o v := by
  funext x
  unfold setS
  split <;> rfl
theorem Rf.new (w h : Int) (y : Bool) (o : Nat) : Rf (Pm.new w h) y o (0, false) := by
  unfold Rf
  rw [setS_const]
  cases y <;> rfl
theorem Rf.at {m : Pm} {y : Bool} {o : Nat} {v : Int × Bool} (h : Rf m y o v) : m.of y o = v := by
  rw [h]; exact setS_same _ _ _
theorem Rf.us {m : Pm} {o : Nat} {v : Int × Bool} (h : Rf m true o v) : m.us 31 = if (31 : Int) = (o : Int) then v else (0, false) := by
  have : m.us = setS (fun _ => (0, false)) (o : Int) v := h
  rw [this]; rfl
theorem Rf.hear {m : Pm} {y : Bool} {o : Nat} {v : Int × Bool} (h : Rf m y o v) (on : Bool) : Rf (m.hear y o on) y o ((heardL v.1 v.2 on (decide ((o : Int) ∈ agreedL y))).1, false) := by
  have hr : m.hearR y o on = heardL v.1 v.2 on (decide ((o : Int) ∈ agreedL y)) := by rw [Pm.hearR, h.at]
  unfold Rf Pm.hear
  rw [hr]
  cases y
  · show setS (m.of false) _ _ = _
    rw [h, setS_twice]
  · show setS (m.of true) _ _ = _
    rw [h, setS_twice]
theorem Rf.hearT {m : Pm} {y : Bool} {o : Nat} {v : Int × Bool} (h : Rf m y o v) (on : Bool) : m.hearT y o on = cmdL y o (heardL v.1 v.2 on (decide ((o : Int) ∈ agreedL y))).2 ∧
    (m.hear y o on).sent = if (heardL v.1 v.2 on (decide ((o : Int) ∈ agreedL y))).2 = 0 then m.sent else m.sent + 1 := by
  have hr : m.hearR y o on = heardL v.1 v.2 on (decide ((o : Int) ∈ agreedL y)) := by rw [Pm.hearR, h.at]
  unfold Pm.hearT Pm.hear
  rw [hr]
  cases y <;> exact ⟨rfl, rfl⟩

/-- What an Option makes of it: the side, what is sent, how many. -/
structure Does (m : Pm) (cmd : Int) (y : Bool) (o : Nat) (v : Int × Bool) (t : List UInt8) (c : Nat) : Prop where
  rf : Rf (m.option cmd o) y o v
  text : m.optionT cmd o = t
  sent : (m.option cmd o).sent = m.sent + c
  g : (m.option cmd o).g ≤ m.g + 1
  w : (m.option cmd o).w = m.w
  h : (m.option cmd o).h = m.h

theorem does_him {m : Pm} {o : Nat} {v : Int × Bool} (h : Rf m false o v) (on : Bool) {cmd : Int} (hc : (cmd = 251 ∧ on = true) ∨ (cmd = 252 ∧ on = false)) {s : Int} {n : Int} {c : Nat} (hl : heardL v.1 v.2 on (decide ((o : Int) ∈ agreedL false)) = (s, n)) (hn : c = if n = 0 then 0 else 1) :
    Does m cmd false o (s, false) (cmdL false o n) c := by
  have e1 : m.option cmd o = m.hear false o on := by rcases hc with ⟨rfl, rfl⟩ | ⟨rfl, rfl⟩ <;> rfl
  have e2 : m.optionT cmd o = m.hearT false o on := by rcases hc with ⟨rfl, rfl⟩ | ⟨rfl, rfl⟩ <;> rfl
  have h1 := h.hear on
  have h2 := h.hearT on
  rw [hl] at h1 h2
  refine ⟨by rw [e1]; exact h1, by rw [e2]; exact h2.1, ?_, (m.option_sent cmd o).2.1, by rw [e1]; rfl, by rw [e1]; rfl⟩
  rw [e1, h2.2, hn]
  split <;> rfl

theorem does_us {m : Pm} {o : Nat} {v : Int × Bool} (h : Rf m true o v) (on : Bool) {cmd : Int} (hc : (cmd = 253 ∧ on = true) ∨ (cmd = 254 ∧ on = false)) {s : Int} {n : Int} {c : Nat} (hl : heardL v.1 v.2 on (decide ((o : Int) ∈ agreedL true)) = (s, n)) (hn : c = if n = 0 then 0 else 1) :
    Does m cmd true o (s, false) (if (31 : Int) = (o : Int) ∧ v.1 ≠ 1 ∧ s = 1 then cmdL true o n ++ sizeL m else cmdL true o n) c := by
  have e1 : m.option cmd o = m.heardUs o on := by rcases hc with ⟨rfl, rfl⟩ | ⟨rfl, rfl⟩ <;> rfl
  have e2 : m.optionT cmd o = m.heardUsT o on := by rcases hc with ⟨rfl, rfl⟩ | ⟨rfl, rfl⟩ <;> rfl
  have h1 := h.hear on
  have h2 := h.hearT on
  rw [hl] at h1 h2
  have u0 := h.us
  have u1 := h1.us
  have ec : ((m.us 31).1 ≠ 1 ∧ ((m.hear true o on).us 31).1 = 1) ↔ ((31 : Int) = (o : Int) ∧ v.1 ≠ 1 ∧ s = 1) := by
    rw [u0, u1]
    by_cases e : (31 : Int) = (o : Int) <;> simp [e]
  have hsz : sizeL (m.hear true o on) = sizeL m := rfl
  have hsent : (m.hear true o on).sent = m.sent + c := by
    rw [h2.2, hn]
    split <;> rfl
  refine ⟨?_, ?_, ?_, (m.option_sent cmd o).2.1, ?_, ?_⟩
  · rw [e1]
    unfold Pm.heardUs
    split
    · exact h1
    · exact h1
  · rw [e2]
    unfold Pm.heardUsT
    by_cases e : (m.us 31).1 ≠ 1 ∧ ((m.hear true o on).us 31).1 = 1
    · rw [if_pos e, if_pos (ec.1 e), h2.1, hsz]
    · rw [if_neg e, if_neg (fun q => e (ec.2 q)), h2.1]
  · rw [e1]
    unfold Pm.heardUs
    split
    · exact hsent
    · exact hsent
  · rw [e1]
    unfold Pm.heardUs
    split <;> rfl
  · rw [e1]
    unfold Pm.heardUs
    split <;> rfl

theorem cmdL_on (y : Bool) (o : Nat) : cmdL y o 1 = optL (onC y) o := rfl
theorem cmdL_off (y : Bool) (o : Nat) : cmdL y o (-1) = optL (offC y) o := rfl

/-- It is refused. -/
theorem does_refuse {m : Pm} {y : Bool} {o : Nat} (h : Rf m y o (0, false)) (hk : (o : Int) ∉ agreedL y) : Does m (cmdOn y) y o (0, false) (optL (offC y) o) 1 := by
  cases y
  · exact does_him h true (.inl ⟨rfl, rfl⟩) (by rw [decide_eq_false hk] <;> rfl) rfl
  · have q := does_us h true (cmd := 253) (.inl ⟨rfl, rfl⟩) (s := 0) (n := -1) (c := 1) (by rw [decide_eq_false hk]; rfl) rfl
    rw [if_neg (fun x => by simp at x)] at q
    exact q
/-- It is agreed to. -/
theorem does_agree {m : Pm} {y : Bool} {o : Nat} (h : Rf m y o (0, false)) (hk : (o : Int) ∈ agreedL y) : Does m (cmdOn y) y o (1, false) (optL (onC y) o ++ if y = true ∧ o = 31 then sizeL m else []) 1 := by
  cases y
  · have q := does_him h true (cmd := 251) (.inl ⟨rfl, rfl⟩) (s := 1) (n := 1) (c := 1) (by rw [decide_eq_true hk]; rfl) rfl
    rw [if_neg (fun x => by simp at x), List.append_nil]
    exact q
  · have q := does_us h true (cmd := 253) (.inl ⟨rfl, rfl⟩) (s := 1) (n := 1) (c := 1) (by rw [decide_eq_true hk]; rfl) rfl
    by_cases e : o = 31
    · subst e
      rw [if_pos ⟨by simp, by simp, rfl⟩] at q
      rw [if_pos ⟨rfl, rfl⟩]
      exact q
    · rw [if_neg (fun x => e (by omega))] at q
      rw [if_neg (fun x => e x.2), List.append_nil]
      exact q
/-- It was agreed to. -/
theorem does_stay {m : Pm} {y : Bool} {o : Nat} (h : Rf m y o (1, false)) : Does m (cmdOn y) y o (1, false) [] 0 := by
  cases y
  · exact does_him h true (cmd := 251) (.inl ⟨rfl, rfl⟩) (s := 1) (n := 0) (c := 0) (by simp [heardL, heardOnL]) rfl
  · have q := does_us h true (cmd := 253) (.inl ⟨rfl, rfl⟩) (s := 1) (n := 0) (c := 0) (by simp [heardL, heardOnL]) rfl
    rw [if_neg (fun x => by simp at x)] at q
    exact q
/-- It is turned off. -/
theorem does_off {m : Pm} {y : Bool} {o : Nat} (h : Rf m y o (1, false)) : Does m (cmdOff y) y o (0, false) (optL (offC y) o) 1 := by
  cases y
  · exact does_him h false (cmd := 252) (.inr ⟨rfl, rfl⟩) (s := 0) (n := -1) (c := 1) (by simp [heardL, heardOffL]) rfl
  · have q := does_us h false (cmd := 254) (.inr ⟨rfl, rfl⟩) (s := 0) (n := -1) (c := 1) (by simp [heardL, heardOffL]) rfl
    rw [if_neg (fun x => by simp at x)] at q
    exact q
/-- It was off. -/
theorem does_none {m : Pm} {y : Bool} {o : Nat} (h : Rf m y o (0, false)) : Does m (cmdOff y) y o (0, false) [] 0 := by
  cases y
  · exact does_him h false (cmd := 252) (.inr ⟨rfl, rfl⟩) (s := 0) (n := 0) (c := 0) (by simp [heardL, heardOffL]) rfl
  · have q := does_us h false (cmd := 254) (.inr ⟨rfl, rfl⟩) (s := 0) (n := 0) (c := 0) (by simp [heardL, heardOffL]) rfl
    rw [if_neg (fun x => by simp at x)] at q
    exact q

end Go.Proofs.Ytmkgcmnimpkmjaa
