/- pact's Take. Own work. -/
import Derived.Test.YtmkgcmnimpkmjaaPactD
namespace Go.Proofs.Ytmkgcmnimpkmjaa
set_option linter.unusedVariables false
set_option linter.unusedSimpArgs false
open Go.RowKit

section
variable (p : Nat) (L : Blk) (name : ByteArray) (d l : Int) (m : Pm) (w : World)

theorem take_nil (v : Value) (k c o : Int) (s : ByteArray) (hv : v = .agg #[.int .i64 k, .int .i64 c, .int .i64 o, .string s]) : Calls Try.prog 15 #[.pointer none, v] w fun e w' => e = .returned (.string ⟨#[]⟩) ∧ Below w.heap.size w w' := by
  subst hv
  go_enter Try.func15, Try.ntmps15
  go_wp2_with fail
  refine (pready_nil _).mono ?_
  rintro e w1 ⟨rfl, rfl⟩
  go_wp2_with fail
  go_ret
  exact ⟨rfl, (Below.refl _ _).alloc (Nat.le_refl _) _⟩

set_option maxRecDepth 100000 in
set_option maxHeartbeats 1600000 in
/-- An Option. -/
theorem take_option (cmd : Int) (o : Nat) (s : ByteArray) (h : PactAt w p L name d l m) (hok : m.Ok) (ho : o ≤ 255) (hg : m.g < 1000000) (hs : m.sent < 1000000) :
    Calls Try.prog 15 #[.pointer (some ⟨p, 0, none⟩), .agg #[.int .i64 2, .int .i64 cmd, .int .i64 (o : Int), .string s]] w fun e w' =>
      e = .returned (.string ⟨(m.optionT cmd o).toArray⟩) ∧ PactAt w' p L name d l (m.option cmd o) ∧ Keep (pown p L) w w' := by
  have H := Lib.hid (h.alloc (.cells #[.int .i64 2, .int .i64 cmd, .int .i64 (o : Int), .string s] 29))
  have HO := Lib.hid (fun W (q : PactAt W p L name d l m) => option_any p L name d l m W cmd o q hok ho hg hs)
  have HI := Lib.hid (fun W => pact_isOption (o : Int) W (by omega) (by omega) true (decide_eq_true (by omega)).symm)
  clear h hok ho hg hs
  go_enter Try.func15, Try.ntmps15
  go_wp2_with fail
  refine (pready_any p L name d l m _ H.out).mono ?_
  rintro e w1 ⟨rfl, rfl⟩
  go_wp2_with fail
  refine (HI.out _).mono ?_
  rintro e w1 ⟨rfl, rfl⟩
  go_wp2_with fail
  refine (HO.out _ H.out).mono ?_
  rintro e w1 ⟨rfl, hq, hk⟩
  have HQ := Lib.hid hq
  have HK : Hid (Keep (pown p L) w w1) := Lib.hid (((Keep.refl (pown p L) w).alloc _).trans hk (fun _ _ x => x))
  clear hq hk
  go_wp2_with fail
  go_ret
  exact ⟨rfl, HQ.out, HK.out⟩

set_option maxRecDepth 100000 in
set_option maxHeartbeats 1600000 in
/-- An Option of none. -/
theorem take_none2 (cmd o : Int) (s : ByteArray) (h : PactAt w p L name d l m) (h0 : -9223372036854775808 ≤ o) (h1 : o ≤ 9223372036854775807) (ho : ¬ (0 ≤ o ∧ o ≤ 255)) :
    Calls Try.prog 15 #[.pointer (some ⟨p, 0, none⟩), .agg #[.int .i64 2, .int .i64 cmd, .int .i64 o, .string s]] w fun e w' => e = .returned (.string ⟨#[]⟩) ∧ Below w.heap.size w w' := by
  have H := Lib.hid (h.alloc (.cells #[.int .i64 2, .int .i64 cmd, .int .i64 o, .string s] 29))
  have HI := Lib.hid (fun W => pact_isOption o W h0 h1 false (decide_eq_false ho).symm)
  clear h ho h0 h1
  go_enter Try.func15, Try.ntmps15
  go_wp2_with fail
  refine (pready_any p L name d l m _ H.out).mono ?_
  rintro e w1 ⟨rfl, rfl⟩
  go_wp2_with fail
  refine (HI.out _).mono ?_
  rintro e w1 ⟨rfl, rfl⟩
  go_wp2_with fail
  go_ret
  exact ⟨rfl, (Below.refl _ _).alloc (Nat.le_refl _) _⟩

set_option maxRecDepth 100000 in
set_option maxHeartbeats 1600000 in
/-- Of another kind. -/
theorem take_other (k cmd o : Int) (s : ByteArray) (h : PactAt w p L name d l m) (h1 : (k == 2) = false) (h2 : (k == 3) = false) :
    Calls Try.prog 15 #[.pointer (some ⟨p, 0, none⟩), .agg #[.int .i64 k, .int .i64 cmd, .int .i64 o, .string s]] w fun e w' => e = .returned (.string ⟨#[]⟩) ∧ Below w.heap.size w w' := by
  have H := Lib.hid (h.alloc (.cells #[.int .i64 k, .int .i64 cmd, .int .i64 o, .string s] 29))
  clear h
  go_enter Try.func15, Try.ntmps15
  go_wp2_with fail
  refine (pready_any p L name d l m _ H.out).mono ?_
  rintro e w1 ⟨rfl, rfl⟩
  go_wp2_with fail
  go_ret
  exact ⟨rfl, (Below.refl _ _).alloc (Nat.le_refl _) _⟩

set_option maxRecDepth 100000 in
set_option maxHeartbeats 1600000 in
/-- A Sub of another option, or another text. -/
theorem take_sub_no (cmd o : Int) (s : ByteArray) (h : PactAt w p L name d l m) (hno : (o == 24) = false ∨ o = 24 ∧ (s.toList == [1]) = false) :
    Calls Try.prog 15 #[.pointer (some ⟨p, 0, none⟩), .agg #[.int .i64 3, .int .i64 cmd, .int .i64 o, .string s]] w fun e w' => e = .returned (.string ⟨#[]⟩) ∧ Below w.heap.size w w' := by
  have H := Lib.hid (h.alloc (.cells #[.int .i64 3, .int .i64 cmd, .int .i64 o, .string s] 29))
  clear h
  rcases hno with h1 | ⟨rfl, h1⟩
  all_goals
    go_enter Try.func15, Try.ntmps15
    go_wp2_with fail
    refine (pready_any p L name d l m _ H.out).mono ?_
    rintro e w1 ⟨rfl, rfl⟩
    go_wp2_with fail
    go_ret
    exact ⟨rfl, (Below.refl _ _).alloc (Nat.le_refl _) _⟩

set_option maxRecDepth 100000 in
set_option maxHeartbeats 1600000 in
/-- What asks for the name. -/
theorem take_name (cmd : Int) (T : List UInt8) (hT : T = if (m.us 24).1 = 1 then nameL name.data.toList else []) (h : PactAt w p L name d l m) (hn : name.size ≤ 30) :
    Calls Try.prog 15 #[.pointer (some ⟨p, 0, none⟩), .agg #[.int .i64 3, .int .i64 cmd, .int .i64 24, .string ⟨#[1]⟩]] w fun e w' =>
      e = .returned (.string ⟨T.toArray⟩) ∧ Below w.heap.size w w' := by
  have h3 := h.alloc (.cells #[.int .i64 3, .int .i64 cmd, .int .i64 24, .string ⟨#[1]⟩] 29)
  obtain ⟨b, hb⟩ : ∃ b, ((m.us 24).1 == 1) = b := ⟨_, rfl⟩
  have HI := Lib.hid (isOn_us p L name d l m _ 24 (by rfl) b hb h3)
  have HT := Lib.hid (fun W (q : PactAt W p L name d l m) => tellName_any p L name d l m W q hn)
  have HR : Hid (T = if b then nameL name.data.toList else []) := Lib.hid (by
    subst hb hT
    by_cases e : (m.us 24).1 = 1 <;> simp [e])
  have H := Lib.hid h3
  have hp := h.lt
  clear h h3 hn hb hT
  go_enter Try.func15, Try.ntmps15
  go_wp2_with fail
  refine (pready_any p L name d l m _ H.out).mono ?_
  rintro e w1 ⟨rfl, rfl⟩
  go_wp2_with fail
  refine HI.out.mono ?_
  rintro e w1 ⟨rfl, hb⟩
  have B1 : Hid (Below w.heap.size w w1) := Lib.hid (((Below.refl w.heap.size w).alloc (Nat.le_refl _) _).trans (hb.mono (by simp)))
  have H1 := Lib.hid (H.out.below hb)
  clear hb
  cases b
  · go_wp2_with fail
    go_ret
    exact ⟨by rw [HR.out]; rfl, B1.out⟩
  · go_wp2_with fail
    refine (HT.out _ H1.out).mono ?_
    rintro e w2 ⟨rfl, hb⟩
    have B2 := Lib.hid (below_step B1.out hb)
    clear hb
    go_wp2_with fail
    go_ret
    exact ⟨by rw [HR.out]; rfl, B2.out⟩

theorem str_eq (s : ByteArray) : s.data.toList = [1] ↔ s = ⟨#[1]⟩ := by
  constructor
  · intro h
    have := mk_data s
    rw [h] at this
    exact this.symm
  · rintro rfl; rfl

/-- Take. -/
theorem take_any (k cmd o : Int) (s : ByteArray) (h : PactAt w p L name d l m) (hok : m.Ok) (hn : name.size ≤ 30) (h0 : -9223372036854775808 ≤ o) (h1 : o ≤ 9223372036854775807) (hg : m.g < 1000000) (hs : m.sent < 1000000) :
    Calls Try.prog 15 #[.pointer (some ⟨p, 0, none⟩), .agg #[.int .i64 k, .int .i64 cmd, .int .i64 o, .string s]] w fun e w' =>
      e = .returned (.string ⟨(m.takeT name.data.toList k cmd o s.data.toList).toArray⟩) ∧ PactAt w' p L name d l (m.take k cmd o) ∧ Keep (pown p L) w w' := by
  have hq : ∀ (T : List UInt8), T = [] → m.take k cmd o = m → (Calls Try.prog 15 #[.pointer (some ⟨p, 0, none⟩), .agg #[.int .i64 k, .int .i64 cmd, .int .i64 o, .string s]] w fun e w' => e = .returned (.string ⟨T.toArray⟩) ∧ Below w.heap.size w w') →
      Calls Try.prog 15 #[.pointer (some ⟨p, 0, none⟩), .agg #[.int .i64 k, .int .i64 cmd, .int .i64 o, .string s]] w fun e w' => e = .returned (.string ⟨T.toArray⟩) ∧ PactAt w' p L name d l (m.take k cmd o) ∧ Keep (pown p L) w w' := by
    intro T _ e hc
    refine hc.mono ?_
    rintro e' w1 ⟨h2, h3⟩
    rw [e]
    exact ⟨h2, h.below h3, Keep.of_below _ h3⟩
  by_cases k2 : k = 2
  · subst k2
    by_cases ho : 0 ≤ o ∧ o ≤ 255
    · have e1 : m.takeT name.data.toList 2 cmd o s.data.toList = m.optionT cmd o.toNat := if_pos ⟨rfl, ho.1, ho.2⟩
      have e2 : m.take 2 cmd o = m.option cmd o.toNat := if_pos ⟨rfl, ho.1, ho.2⟩
      rw [e1, e2]
      have := take_option p L name d l m w cmd o.toNat s h hok (by omega) hg hs
      rwa [Int.toNat_of_nonneg ho.1] at this
    · have e1 : m.takeT name.data.toList 2 cmd o s.data.toList = [] := by unfold Pm.takeT; rw [if_neg (fun x => ho x.2), if_neg (fun x => by cases x.1)]
      have e2 : m.take 2 cmd o = m := if_neg (fun x => ho x.2)
      rw [e1]
      exact hq [] rfl e2 (take_none2 p L name d l m w cmd o s h h0 h1 ho)
  · have e2 : m.take k cmd o = m := if_neg (fun x => k2 x.1)
    have e1 : m.takeT name.data.toList k cmd o s.data.toList = if k = 3 ∧ o = 24 ∧ s.data.toList = [1] ∧ (m.us 24).1 = 1 then nameL name.data.toList else [] := if_neg (fun x => k2 x.1)
    rw [e1]
    by_cases k3 : k = 3
    · subst k3
      by_cases ho : o = 24
      · subst ho
        by_cases hs1 : s = ⟨#[1]⟩
        · subst hs1
          rw [e2]
          have e3 : (if (3 : Int) = 3 ∧ (24 : Int) = 24 ∧ (⟨#[1]⟩ : ByteArray).data.toList = [1] ∧ (m.us 24).1 = 1 then nameL name.data.toList else []) = if (m.us 24).1 = 1 then nameL name.data.toList else [] := by simp
          rw [e3]
          refine (take_name p L name d l m w cmd _ rfl h hn).mono ?_
          rintro e' w1 ⟨h2, h3⟩
          exact ⟨h2, h.below h3, Keep.of_below _ h3⟩
        · rw [if_neg (fun x => hs1 ((str_eq s).1 x.2.2.1))]
          exact hq [] rfl e2 (take_sub_no p L name d l m w cmd 24 s h (.inr ⟨rfl, by rw [Lib.toList_data]; simpa using fun e => hs1 ((str_eq s).1 e)⟩))
      · rw [if_neg (fun x => ho x.2.1)]
        exact hq [] rfl e2 (take_sub_no p L name d l m w cmd o s h (.inl (by simpa using ho)))
    · rw [if_neg (fun x => k3 x.1)]
      exact hq [] rfl e2 (take_other p L name d l m w k cmd o s h (by simpa using k2) (by simpa using k3))
end

end Go.Proofs.Ytmkgcmnimpkmjaa
