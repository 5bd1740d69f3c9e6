/- Chapter 11 over functions: all sides of a connection, and what each call makes of them. Own work. -/
import Derived.Test.YtmkgcmnimpkmjaaWireM
import Derived.Test.YtmkgcmnimpkmjaaSide
namespace Go.Proofs.Ytmkgcmnimpkmjaa
set_option linter.unusedVariables false
set_option linter.unusedSimpArgs false
open Go.RowKit

/-- One side set anew. -/
def setS (f : Int → Int × Bool) (o : Int) (v : Int × Bool) : Int → Int × Bool := fun y => if y = o then v else f y

/-- All sides; how many options were sent; the size; the one that was told; how many sides were set. -/
structure Pm where
  us : Int → Int × Bool
  him : Int → Int × Bool
  sent : Nat
  w : Nat
  h : Nat
  tw : Nat
  th : Nat
  told : Bool
  started : Bool
  g : Nat

def sz (v : Int) : Nat := (min (max v 0) 65535).toNat
def Pm.new (w h : Int) : Pm := ⟨fun _ => (0, false), fun _ => (0, false), 0, sz w, sz h, 0, 0, false, false, 0⟩

/-- A party's side: ours (true), or his. -/
def Pm.of (m : Pm) : Bool → Int → Int × Bool
  | true, o => m.us o
  | false, o => m.him o
def onC : Bool → Nat
  | true => 251
  | false => 253
def offC : Bool → Nat
  | true => 252
  | false => 254
def agreedL : Bool → List Int
  | true => [0, 3, 24, 31]
  | false => [0, 1, 3]

/-- What is sent of a side. -/
def cmdL (y : Bool) (o : Nat) (n : Int) : List UInt8 := if n = 0 then [] else if 0 < n then optL (onC y) o else optL (offC y) o
/-- A side set anew, and told. -/
def Pm.turn (m : Pm) (y : Bool) (o : Int) (v : Int × Bool) (n : Int) : Pm :=
  match y with
  | true => { m with us := setS m.us o v, sent := if n = 0 then m.sent else m.sent + 1, g := m.g + 1 }
  | false => { m with him := setS m.him o v, sent := if n = 0 then m.sent else m.sent + 1, g := m.g + 1 }
def Pm.tell (m : Pm) : Pm := { m with tw := m.w, th := m.h, told := true }
def twoL (n : Nat) : List UInt8 := [UInt8.ofNat (n / 256), UInt8.ofNat n]
def sizeL (m : Pm) : List UInt8 := subL 31 (twoL m.w ++ twoL m.h)

def Pm.hearR (m : Pm) (y : Bool) (o : Nat) (on : Bool) : Int × Int := heardL (m.of y o).1 (m.of y o).2 on (decide ((o : Int) ∈ agreedL y))
def Pm.hear (m : Pm) (y : Bool) (o : Nat) (on : Bool) : Pm := m.turn y o ((m.hearR y o on).1, false) (m.hearR y o on).2
def Pm.hearT (m : Pm) (y : Bool) (o : Nat) (on : Bool) : List UInt8 := cmdL y o (m.hearR y o on).2
def Pm.askR (m : Pm) (y : Bool) (o : Nat) : Int × Bool × Int := askL (m.of y o).1 (m.of y o).2 true
def Pm.ask (m : Pm) (y : Bool) (o : Nat) : Pm := m.turn y o ((m.askR y o).1, (m.askR y o).2.1) (m.askR y o).2.2
def Pm.askT (m : Pm) (y : Bool) (o : Nat) : List UInt8 := cmdL y o (m.askR y o).2.2

/-- Start, the first time. -/
def Pm.begin (m : Pm) : Pm := { (m.ask true 31).ask false 3 with started := true }
def Pm.beginT (m : Pm) : List UInt8 := m.askT true 31 ++ (m.ask true 31).askT false 3
def Pm.start (m : Pm) : Pm := if m.started then m else m.begin
def Pm.startT (m : Pm) : List UInt8 := if m.started then [] else m.beginT

/-- Our side is heard of; where it is the size's, and on then, the size is told. -/
def Pm.heardUs (m : Pm) (o : Nat) (on : Bool) : Pm := if (m.us 31).1 ≠ 1 ∧ ((m.hear true o on).us 31).1 = 1 then (m.hear true o on).tell else m.hear true o on
def Pm.heardUsT (m : Pm) (o : Nat) (on : Bool) : List UInt8 := if (m.us 31).1 ≠ 1 ∧ ((m.hear true o on).us 31).1 = 1 then m.hearT true o on ++ sizeL (m.hear true o on) else m.hearT true o on
def Pm.option (m : Pm) (cmd : Int) (o : Nat) : Pm := if cmd = 251 ∨ cmd = 252 then m.hear false o (decide (cmd = 251)) else if cmd = 253 ∨ cmd = 254 then m.heardUs o (decide (cmd = 253)) else m
def Pm.optionT (m : Pm) (cmd : Int) (o : Nat) : List UInt8 := if cmd = 251 ∨ cmd = 252 then m.hearT false o (decide (cmd = 251)) else if cmd = 253 ∨ cmd = 254 then m.heardUsT o (decide (cmd = 253)) else []
def Pm.take (m : Pm) (kind cmd opt : Int) : Pm := if kind = 2 ∧ 0 ≤ opt ∧ opt ≤ 255 then m.option cmd opt.toNat else m
def nameL (name : List UInt8) : List UInt8 := subL 24 (0 :: name)
def Pm.takeT (m : Pm) (name : List UInt8) (kind cmd opt : Int) (text : List UInt8) : List UInt8 :=
  if kind = 2 ∧ 0 ≤ opt ∧ opt ≤ 255 then m.optionT cmd opt.toNat else if kind = 3 ∧ opt = 24 ∧ text = [1] ∧ (m.us 24).1 = 1 then nameL name else []
def Pm.sized (m : Pm) (w h : Int) : Pm := { m with w := sz w, h := sz h }
def Pm.news (m : Pm) (w h : Int) : Bool := decide ((m.us 31).1 = 1 ∧ (m.told = false ∨ sz w ≠ m.tw ∨ sz h ≠ m.th))
def Pm.size (m : Pm) (w h : Int) : Pm := if m.news w h then (m.sized w h).tell else m.sized w h
def Pm.sizeT (m : Pm) (w h : Int) : List UInt8 := if m.news w h then sizeL (m.sized w h) else []

/-- What always holds. -/
structure Pm.Ok (m : Pm) : Prop where
  us : ∀ o, validB (m.us o).1 (m.us o).2 = true
  him : ∀ o, validB (m.him o).1 (m.him o).2 = true
  told : (m.us 31).1 = 1 → m.told = true
  usIn : ∀ o, ¬ (0 ≤ o ∧ o ≤ 255) → m.us o = (0, false)
  himIn : ∀ o, ¬ (0 ≤ o ∧ o ≤ 255) → m.him o = (0, false)
  w : m.w ≤ 65535
  h : m.h ≤ 65535
  tw : m.tw ≤ 65535
  th : m.th ≤ 65535

theorem sz_le (v : Int) : sz v ≤ 65535 := by unfold sz; omega
theorem Pm.Ok.new (w h : Int) : (Pm.new w h).Ok := ⟨fun _ => rfl, fun _ => rfl, fun h => by simp [Pm.new] at h, fun _ _ => rfl, fun _ _ => rfl, sz_le w, sz_le h, by simp [Pm.new], by simp [Pm.new]⟩
theorem Pm.Ok.of {m : Pm} (h : m.Ok) (y : Bool) (o : Int) : validB (m.of y o).1 (m.of y o).2 = true := by cases y; exact h.him o; exact h.us o
theorem valid_heard {s : Int} {o on ag : Bool} (h : validB s o = true) : validB (heardL s o on ag).1 false = true := by
  rcases valid_cases h with ⟨rfl, rfl⟩ | ⟨rfl, rfl⟩ | rfl | rfl <;> cases on <;> cases ag <;> (try cases o) <;> simp [validB, heardL, heardOnL, heardOffL]
theorem valid_ask {s : Int} {o on : Bool} (h : validB s o = true) : validB (askL s o on).1 (askL s o on).2.1 = true := by
  rcases valid_cases h with ⟨rfl, rfl⟩ | ⟨rfl, rfl⟩ | rfl | rfl <;> cases on <;> (try cases o) <;> simp [validB, askL]
theorem ask_yes {s : Int} {o : Bool} (h : validB s o = true) (h1 : (askL s o true).1 = 1) : s = 1 := by
  rcases valid_cases h with ⟨rfl, rfl⟩ | ⟨rfl, rfl⟩ | rfl | rfl <;> simp [askL] at h1 ⊢
theorem setS_same (f : Int → Int × Bool) (o : Int) (v : Int × Bool) : setS f o v o = v := if_pos rfl
theorem setS_other (f : Int → Int × Bool) {o x : Int} (v : Int × Bool) (h : x ≠ o) : setS f o v x = f x := if_neg h

/-- A side that may be, set. -/
theorem Pm.Ok.turn {m : Pm} (h : m.Ok) (y : Bool) (o : Int) (v : Int × Bool) (n : Int) (hv : validB v.1 v.2 = true) (h0 : 0 ≤ o) (h1 : o ≤ 255) (ht : y = true → o = 31 → v.1 = 1 → m.told = true) : (m.turn y o v n).Ok := by
  cases y
  · refine ⟨h.us, fun x => ?_, h.told, h.usIn, fun x hx => ?_, h.w, h.h, h.tw, h.th⟩
    · by_cases e : x = o
      · subst e; simp only [Pm.turn, setS_same]; exact hv
      · simp only [Pm.turn, setS_other _ _ e]; exact h.him x
    · simp only [Pm.turn, setS_other _ _ (show x ≠ o by rintro rfl; exact hx ⟨h0, h1⟩)]; exact h.himIn x hx
  · refine ⟨fun x => ?_, h.him, fun hx => ?_, fun x hx => ?_, h.himIn, h.w, h.h, h.tw, h.th⟩
    · by_cases e : x = o
      · subst e; simp only [Pm.turn, setS_same]; exact hv
      · simp only [Pm.turn, setS_other _ _ e]; exact h.us x
    · by_cases e : (31 : Int) = o
      · subst e; simp only [Pm.turn, setS_same] at hx ⊢; exact ht rfl rfl hx
      · simp only [Pm.turn, setS_other _ _ e] at hx ⊢; exact h.told hx
    · simp only [Pm.turn, setS_other _ _ (show x ≠ o by rintro rfl; exact hx ⟨h0, h1⟩)]; exact h.usIn x hx
theorem Pm.Ok.tell {m : Pm} (h : m.Ok) : m.tell.Ok := ⟨h.us, h.him, fun _ => rfl, h.usIn, h.himIn, h.w, h.h, h.w, h.h⟩
theorem Pm.Ok.ask {m : Pm} (h : m.Ok) (y : Bool) (o : Nat) (h1 : o ≤ 255) : (m.ask y o).Ok := by
  refine h.turn y o _ _ (valid_ask (h.of y o)) (by omega) (by omega) (fun e e1 e2 => ?_)
  subst e
  have e3 : (m.of true (o : Int)).1 = 1 := ask_yes (h.of true o) e2
  rw [e1] at e3
  exact h.told e3
theorem Pm.Ok.hisHear {m : Pm} (h : m.Ok) (o : Nat) (on : Bool) (h1 : o ≤ 255) : (m.hear false o on).Ok :=
  h.turn false o _ _ (valid_heard (h.of false o)) (by omega) (by omega) (fun e => by cases e)
/-- Our side, heard of: all but the size's being told. -/
theorem Pm.Ok.heardUs {m : Pm} (h : m.Ok) (o : Nat) (on : Bool) (h1 : o ≤ 255) : (m.heardUs o on).Ok := by
  have hv := valid_heard (on := on) (ag := decide ((o : Int) ∈ agreedL true)) (h.of true o)
  have hu : ∀ x, validB ((m.hear true o on).us x).1 ((m.hear true o on).us x).2 = true := fun x => by
    by_cases e : x = (o : Int)
    · subst e; simp only [Pm.hear, Pm.turn, setS_same]; exact hv
    · simp only [Pm.hear, Pm.turn, setS_other _ _ e]; exact h.us x
  have hi : ∀ x, ¬ (0 ≤ x ∧ x ≤ 255) → (m.hear true o on).us x = (0, false) := fun x hx => by
    simp only [Pm.hear, Pm.turn, setS_other _ _ (show x ≠ (o : Int) by rintro rfl; exact hx ⟨by omega, by omega⟩)]; exact h.usIn x hx
  unfold Pm.heardUs
  split
  · exact ⟨hu, h.him, fun _ => rfl, hi, h.himIn, h.w, h.h, h.w, h.h⟩
  · rename_i hn
    refine ⟨hu, h.him, fun hx => ?_, hi, h.himIn, h.w, h.h, h.tw, h.th⟩
    by_cases e : (m.us 31).1 = 1
    · exact h.told e
    · exact absurd ⟨e, hx⟩ hn
theorem Pm.Ok.option {m : Pm} (h : m.Ok) (cmd : Int) (o : Nat) (h1 : o ≤ 255) : (m.option cmd o).Ok := by
  unfold Pm.option
  split
  · exact h.hisHear o _ h1
  · split
    · exact h.heardUs o _ h1
    · exact h
theorem Pm.Ok.take {m : Pm} (h : m.Ok) (kind cmd opt : Int) : (m.take kind cmd opt).Ok := by
  unfold Pm.take
  split
  · rename_i e; exact h.option cmd _ (by omega)
  · exact h
theorem Pm.Ok.sized {m : Pm} (h : m.Ok) (w h' : Int) : (m.sized w h').Ok := ⟨h.us, h.him, h.told, h.usIn, h.himIn, sz_le w, sz_le h', h.tw, h.th⟩
theorem Pm.Ok.size {m : Pm} (h : m.Ok) (w h' : Int) : (m.size w h').Ok := by
  unfold Pm.size
  split
  · exact (h.sized w h').tell
  · exact h.sized w h'
theorem Pm.Ok.begin {m : Pm} (h : m.Ok) : m.begin.Ok := by
  have h2 := (h.ask true 31 (by omega)).ask false 3 (by omega)
  exact ⟨h2.us, h2.him, h2.told, h2.usIn, h2.himIn, h2.w, h2.h, h2.tw, h2.th⟩
theorem Pm.Ok.start {m : Pm} (h : m.Ok) : m.start.Ok := by
  unfold Pm.start
  split
  · exact h
  · exact h.begin

/-! ### How many -/
theorem Pm.turn_sent (m : Pm) (y : Bool) (o : Int) (v : Int × Bool) (n : Int) : (m.turn y o v n).sent ≤ m.sent + 1 ∧ (m.turn y o v n).g = m.g + 1 ∧ (m.turn y o v n).started = m.started ∧ (m.turn y o v n).sent ≥ m.sent := by
  cases y <;> simp only [Pm.turn] <;> refine ⟨?_, by simp, by simp, ?_⟩ <;> split <;> omega
theorem Pm.option_sent (m : Pm) (cmd : Int) (o : Nat) : (m.option cmd o).sent ≤ m.sent + 1 ∧ (m.option cmd o).g ≤ m.g + 1 ∧ (m.option cmd o).started = m.started := by
  have h1 := m.turn_sent false o ((m.hearR false o (decide (cmd = 251))).1, false) (m.hearR false o (decide (cmd = 251))).2
  have h2 := m.turn_sent true o ((m.hearR true o (decide (cmd = 253))).1, false) (m.hearR true o (decide (cmd = 253))).2
  unfold Pm.option
  split
  · exact ⟨h1.1, by show (Pm.turn _ _ _ _ _).g ≤ _; omega, h1.2.2.1⟩
  · split
    · unfold Pm.heardUs
      split
      · exact ⟨h2.1, by show (Pm.turn _ _ _ _ _).g ≤ _; omega, h2.2.2.1⟩
      · exact ⟨h2.1, by show (Pm.turn _ _ _ _ _).g ≤ _; omega, h2.2.2.1⟩
    · exact ⟨by omega, by omega, rfl⟩
theorem Pm.take_sent (m : Pm) (kind cmd opt : Int) : (m.take kind cmd opt).sent ≤ m.sent + (if kind = 2 then 1 else 0) ∧ (m.take kind cmd opt).g ≤ m.g + 1 ∧ (m.take kind cmd opt).started = m.started := by
  have h := m.option_sent cmd opt.toNat
  unfold Pm.take
  by_cases e : kind = 2
  · rw [if_pos e]
    split
    · exact h
    · exact ⟨by omega, by omega, rfl⟩
  · rw [if_neg (fun x => e x.1), if_neg e]
    exact ⟨by omega, by omega, rfl⟩
theorem Pm.size_sent (m : Pm) (w h : Int) : (m.size w h).sent = m.sent ∧ (m.size w h).g = m.g ∧ (m.size w h).started = m.started := by
  unfold Pm.size
  split <;> exact ⟨rfl, rfl, rfl⟩
theorem Pm.begin_sent (m : Pm) : m.begin.sent ≤ m.sent + 2 ∧ m.begin.g = m.g + 2 ∧ m.begin.started = true := by
  have h1 := m.turn_sent true 31 ((m.askR true 31).1, (m.askR true 31).2.1) (m.askR true 31).2.2
  have h2 := (m.ask true 31).turn_sent false 3 (((m.ask true 31).askR false 3).1, ((m.ask true 31).askR false 3).2.1) ((m.ask true 31).askR false 3).2.2
  refine ⟨?_, ?_, rfl⟩
  · show (Pm.ask (Pm.ask _ _ _) _ _).sent ≤ _
    have e1 : (m.ask true 31).sent ≤ m.sent + 1 := h1.1
    have e2 : ((m.ask true 31).ask false 3).sent ≤ (m.ask true 31).sent + 1 := h2.1
    omega
  · show (Pm.ask (Pm.ask _ _ _) _ _).g = _
    have e1 : (m.ask true 31).g = m.g + 1 := h1.2.1
    have e2 : ((m.ask true 31).ask false 3).g = (m.ask true 31).g + 1 := h2.2.1
    omega

/-! ### What is sent is short -/
theorem cmd_len (y : Bool) (o : Nat) (n : Int) : (cmdL y o n).length ≤ 3 := by
  unfold cmdL
  repeat' split
  all_goals simp [optL]
theorem sub_len (o : Nat) (l : List UInt8) : (subL o l).length ≤ 2 * l.length + 5 := by
  have := (sent_len true l).2
  simp [subL]; omega
theorem sizeL_len (m : Pm) : (sizeL m).length ≤ 13 := by
  have := sub_len 31 (twoL m.w ++ twoL m.h)
  simp [twoL] at this
  exact this

end Go.Proofs.Ytmkgcmnimpkmjaa
