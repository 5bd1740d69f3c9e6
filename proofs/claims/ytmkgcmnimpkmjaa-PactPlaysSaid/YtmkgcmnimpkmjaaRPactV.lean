/- The document's Take. Own work. -/
import Derived.Test.YtmkgcmnimpkmjaaRPactU
namespace Go.Proofs.Ytmkgcmnimpkmjaa
set_option linter.unusedVariables false
set_option linter.unusedSimpArgs false
open Go.RowKit

section
variable (r : Nat) (name : ByteArray) (m : Pm) (w : World)

set_option maxRecDepth 100000 in
set_option maxHeartbeats 1600000 in
theorem rtake_none (cmd o : Int) (s : ByteArray) (h : RefAt w r name m) (ho : (o < 0) ∨ (¬ o < 0 ∧ 255 < o)) :
    Calls Try.prog 16 #[.pointer (some ⟨r, 0, none⟩), .agg #[.int .i64 2, .int .i64 cmd, .int .i64 o, .string s]] w fun e w' => e = .returned (.string ⟨#[]⟩) ∧ Below w.heap.size w w' := by
  rcases ho with h1 | ⟨h1, h2⟩
  all_goals
    clear h
    go_enter Try.func16, Try.ntmps16
    go_wp2_with fail
    go_ret
    exact ⟨rfl, (Below.refl _ _).alloc (Nat.le_refl _) _⟩

set_option maxRecDepth 100000 in
set_option maxHeartbeats 1600000 in
theorem rtake_cmd (cmd o : Int) (s : ByteArray) (h0 : ¬ o < 0) (hh : ¬ 255 < o) (h1 : (cmd == 251) = false) (h2 : (cmd == 252) = false) (h3 : (cmd == 253) = false) (h4 : (cmd == 254) = false) :
    Calls Try.prog 16 #[.pointer (some ⟨r, 0, none⟩), .agg #[.int .i64 2, .int .i64 cmd, .int .i64 o, .string s]] w fun e w' => e = .returned (.string ⟨#[]⟩) ∧ Below w.heap.size w w' := by
  go_enter Try.func16, Try.ntmps16
  go_wp2_with fail
  go_ret
  exact ⟨rfl, (Below.refl _ _).alloc (Nat.le_refl _) _⟩

set_option maxRecDepth 100000 in
set_option maxHeartbeats 1600000 in
theorem rtake_other (k cmd o : Int) (s : ByteArray) (h1 : (k == 2) = false) (h2 : (k == 3) = false) :
    Calls Try.prog 16 #[.pointer (some ⟨r, 0, none⟩), .agg #[.int .i64 k, .int .i64 cmd, .int .i64 o, .string s]] w fun e w' => e = .returned (.string ⟨#[]⟩) ∧ Below w.heap.size w w' := by
  have h3 : (k != 2) = true := by rw [bne, h1]; rfl
  go_enter Try.func16, Try.ntmps16
  go_wp2_with fail
  go_ret
  exact ⟨rfl, (Below.refl _ _).alloc (Nat.le_refl _) _⟩

set_option maxRecDepth 100000 in
set_option maxHeartbeats 1600000 in
theorem rtake_sub_no (cmd o : Int) (s : ByteArray) (hno : (o == 24) = false ∨ o = 24 ∧ (s.toList == [1]) = false) :
    Calls Try.prog 16 #[.pointer (some ⟨r, 0, none⟩), .agg #[.int .i64 3, .int .i64 cmd, .int .i64 o, .string s]] w fun e w' => e = .returned (.string ⟨#[]⟩) ∧ Below w.heap.size w w' := by
  rcases hno with h1 | ⟨rfl, h1⟩
  all_goals
    go_enter Try.func16, Try.ntmps16
    go_wp2_with fail
    go_ret
    exact ⟨rfl, (Below.refl _ _).alloc (Nat.le_refl _) _⟩

set_option maxRecDepth 100000 in
set_option maxHeartbeats 1600000 in
theorem rtake_name (cmd : Int) (T : List UInt8) (hT : T = if (m.us 24).1 = 1 then nameL name.data.toList else []) (h : RefAt w r name m) (hn : name.size ≤ 30) :
    Calls Try.prog 16 #[.pointer (some ⟨r, 0, none⟩), .agg #[.int .i64 3, .int .i64 cmd, .int .i64 24, .string ⟨#[1]⟩]] w fun e w' =>
      e = .returned (.string ⟨T.toArray⟩) ∧ Below w.heap.size w w' := by
  have h3 := h.alloc (.cells #[.int .i64 3, .int .i64 cmd, .int .i64 24, .string ⟨#[1]⟩] 29)
  obtain ⟨b, hb⟩ : ∃ b, ((m.us 24).1 == 1) = b := ⟨_, rfl⟩
  have c : (w.alloc (.cells #[.int .i64 3, .int .i64 cmd, .int .i64 24, .string ⟨#[1]⟩] 29)).cell? ⟨r, 51, none⟩ = some (.int .i64 (m.us 24).1) := (h3.us 24 (by omega)).1.1
  have c0 := h3.nm.1
  have cw : w.cell? ⟨r, 51, none⟩ = some (.int .i64 (m.us 24).1) := (h.us 24 (by omega)).1.1
  have cw0 := h.nm.1
  have hp := h.lt
  have HS : Hid (∀ W, Calls Try.prog 22 #[.int .i64 24, .string (⟨#[0]⟩ ++ name)] W fun e w' => e = .returned (.string ⟨(nameL name.data.toList).toArray⟩) ∧ Below W.heap.size W w') := Lib.hid (fun W => by
    have q := rw_sub 24 (⟨#[0]⟩ ++ name) W (by omega) (by rw [ByteArray.size_append]; show 1 + name.size ≤ _; omega)
    rw [show (⟨#[0]⟩ ++ name : ByteArray).data.toList = 0 :: name.data.toList by rw [ByteArray.data_append, Array.toList_append]; rfl] at q
    exact q)
  have z : (⟨#[0]⟩ : ByteArray).size + name.size ≤ 9223372036854775807 := by show 1 + name.size ≤ _; omega
  have HR : Hid (T = if b then nameL name.data.toList else []) := Lib.hid (by
    subst hb hT
    by_cases e : (m.us 24).1 = 1 <;> simp [e])
  generalize (m.us 24).1 = s24 at *
  clear h h3 hn hT
  cases b
  · go_enter Try.func16, Try.ntmps16
    go_wp2_with fail
    go_ret
    exact ⟨by rw [HR.out]; rfl, (Below.refl _ _).alloc (Nat.le_refl _) _⟩
  · go_enter Try.func16, Try.ntmps16
    go_wp2_with fail
    refine (HS.out _).mono ?_
    rintro e w1 ⟨rfl, hb⟩
    have HB : Hid (Below w.heap.size w w1) := Lib.hid (((Below.refl w.heap.size w).alloc (Nat.le_refl _) _).trans (hb.mono (by simp)))
    clear hb
    go_wp2_with fail
    go_ret
    exact ⟨by rw [HR.out]; rfl, HB.out⟩

theorem rstr_eq (s : ByteArray) : s.data.toList = [1] ↔ s = ⟨#[1]⟩ := by
  constructor
  · intro h
    have := mk_data s
    rw [h] at this
    exact this.symm
  · rintro rfl; rfl

/-- Take. -/
theorem rtake_any (k cmd o : Int) (s : ByteArray) (h : RefAt w r name m) (hok : m.Ok) (hn : name.size ≤ 30) (hs : m.sent < 1000000) :
    Calls Try.prog 16 #[.pointer (some ⟨r, 0, none⟩), .agg #[.int .i64 k, .int .i64 cmd, .int .i64 o, .string s]] w fun e w' =>
      e = .returned (.string ⟨(m.takeT name.data.toList k cmd o s.data.toList).toArray⟩) ∧ RefAt w' r name (m.take k cmd o) ∧ Keep (· = r) w w' := by
  have hq : ∀ (T : List UInt8), m.take k cmd o = m → (Calls Try.prog 16 #[.pointer (some ⟨r, 0, none⟩), .agg #[.int .i64 k, .int .i64 cmd, .int .i64 o, .string s]] w fun e w' => e = .returned (.string ⟨T.toArray⟩) ∧ Below w.heap.size w w') →
      Calls Try.prog 16 #[.pointer (some ⟨r, 0, none⟩), .agg #[.int .i64 k, .int .i64 cmd, .int .i64 o, .string s]] w fun e w' => e = .returned (.string ⟨T.toArray⟩) ∧ RefAt w' r name (m.take k cmd o) ∧ Keep (· = r) w w' := by
    intro T e hc
    refine hc.mono ?_
    rintro e' w1 ⟨h2, h3⟩
    rw [e]
    exact ⟨h2, h.below h3, Keep.of_below _ h3⟩
  by_cases k2 : k = 2
  · subst k2
    by_cases ho : 0 ≤ o ∧ o ≤ 255
    · have e1 : m.takeT name.data.toList 2 cmd o s.data.toList = m.optionT cmd o.toNat := if_pos ⟨rfl, ho.1, ho.2⟩
      have e2 : m.take 2 cmd o = m.option cmd o.toNat := if_pos ⟨rfl, ho.1, ho.2⟩
      have hon : (o.toNat : Int) = o := Int.toNat_of_nonneg ho.1
      by_cases h1 : cmd = 251
      · subst h1
        have := rtake_him251 r name m w o.toNat s h hok (by omega) hs
        rw [hon] at this
        rw [e1, e2]
        exact this
      by_cases h2 : cmd = 252
      · subst h2
        have := rtake_him252 r name m w o.toNat s h hok (by omega) hs
        rw [hon] at this
        rw [e1, e2]
        exact this
      by_cases h3 : cmd = 253
      · subst h3
        have := rtake_us253 r name m w o.toNat s h hok (by omega) hs
        rw [hon] at this
        rw [e1, e2]
        exact this
      by_cases h4 : cmd = 254
      · subst h4
        have := rtake_us254 r name m w o.toNat s h hok (by omega) hs
        rw [hon] at this
        rw [e1, e2]
        exact this
      have e3 : m.optionT cmd o.toNat = [] := by unfold Pm.optionT; rw [if_neg (by omega), if_neg (by omega)]
      have e4 : m.option cmd o.toNat = m := by unfold Pm.option; rw [if_neg (by omega), if_neg (by omega)]
      rw [e1, e3]
      exact hq [] (e2.trans e4) (rtake_cmd r w cmd o s (by omega) (by omega) (by simpa using h1) (by simpa using h2) (by simpa using h3) (by simpa using h4))
    · have e1 : m.takeT name.data.toList 2 cmd o s.data.toList = [] := by unfold Pm.takeT; rw [if_neg (fun x => ho x.2), if_neg (fun x => by cases x.1)]
      have e2 : m.take 2 cmd o = m := if_neg (fun x => ho x.2)
      rw [e1]
      exact hq [] e2 (rtake_none r name m w cmd o s h (by omega))
  · have e2 : m.take k cmd o = m := if_neg (fun x => k2 x.1)
    have e1 : m.takeT name.data.toList k cmd o s.data.toList = if k = 3 ∧ o = 24 ∧ s.data.toList = [1] ∧ (m.us 24).1 = 1 then nameL name.data.toList else [] := if_neg (fun x => k2 x.1)
    rw [e1]
    by_cases k3 : k = 3
    · subst k3
      by_cases ho : o = 24
      · subst ho
        by_cases hs1 : s = ⟨#[1]⟩
        · subst hs1
          rw [e2]
          have e3 : (if (3 : Int) = 3 ∧ (24 : Int) = 24 ∧ (⟨#[1]⟩ : ByteArray).data.toList = [1] ∧ (m.us 24).1 = 1 then nameL name.data.toList else []) = if (m.us 24).1 = 1 then nameL name.data.toList else [] := by simp
          rw [e3]
          refine (rtake_name r name m w cmd _ rfl h hn).mono ?_
          rintro e' w1 ⟨h2, h3⟩
          exact ⟨h2, h.below h3, Keep.of_below _ h3⟩
        · rw [if_neg (fun x => hs1 ((rstr_eq s).1 x.2.2.1))]
          exact hq [] e2 (rtake_sub_no r w cmd 24 s (.inr ⟨rfl, by rw [Lib.toList_data]; simpa using fun e => hs1 ((rstr_eq s).1 e)⟩))
      · rw [if_neg (fun x => ho x.2.1)]
        exact hq [] e2 (rtake_sub_no r w cmd o s (.inl (by simpa using ho)))
    · rw [if_neg (fun x => k3 x.1)]
      exact hq [] e2 (rtake_other r w k cmd o s (by simpa using k2) (by simpa using k3))
end

end Go.Proofs.Ytmkgcmnimpkmjaa
