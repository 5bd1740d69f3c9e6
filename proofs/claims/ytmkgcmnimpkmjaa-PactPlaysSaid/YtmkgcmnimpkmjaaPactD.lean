/- pact's option and Take. Own work. -/
import Derived.Test.YtmkgcmnimpkmjaaPactC
namespace Go.Proofs.Ytmkgcmnimpkmjaa
set_option linter.unusedVariables false
set_option linter.unusedSimpArgs false
open Go.RowKit

section
variable (p : Nat) (L : Blk) (name : ByteArray) (d l : Int) (m : Pm) (w : World)

set_option maxHeartbeats 1600000 in
theorem option_him (cmd : Int) (on : Bool) (o : Nat) (h : PactAt w p L name d l m) (hok : m.Ok) (ho : o ≤ 255) (hg : m.g < 1000000) (hs : m.sent < 1000000) (hc : (cmd = 251 ∧ on = true) ∨ (cmd = 252 ∧ on = false)) :
    Calls Try.prog 36 #[.pointer (some ⟨p, 0, none⟩), .int .i64 cmd, .int .i64 (o : Int)] w fun e w' => e = .returned (.string ⟨(m.hearT false o on).toArray⟩) ∧ PactAt w' p L name d l (m.hear false o on) ∧ Keep (pown p L) w w' := by
  have hp := h.lt
  rcases hc with ⟨rfl, rfl⟩ | ⟨rfl, rfl⟩
  all_goals
    have H := Lib.hid (fun on => hear_him p L name d l m o on w h (hok.him _) ho hg hs)
    clear h hok ho hg hs
    go_enter Try.func36, Try.ntmps36
    go_wp2_with fail
    refine (H.out _).mono ?_
    rintro e w1 ⟨rfl, hq, hk⟩
    have HQ := Lib.hid hq
    have HK := Lib.hid hk
    clear hq hk
    go_wp2_with fail
    go_ret
    exact ⟨rfl, HQ.out, HK.out⟩

set_option maxRecDepth 100000 in
set_option maxHeartbeats 3200000 in
theorem option_us (cmd : Int) (on : Bool) (o : Nat) (h : PactAt w p L name d l m) (hok : m.Ok) (ho : o ≤ 255) (hg : m.g < 1000000) (hs : m.sent < 1000000) (hc : (cmd = 253 ∧ on = true) ∨ (cmd = 254 ∧ on = false)) :
    Calls Try.prog 36 #[.pointer (some ⟨p, 0, none⟩), .int .i64 cmd, .int .i64 (o : Int)] w fun e w' => e = .returned (.string ⟨(m.heardUsT o on).toArray⟩) ∧ PactAt w' p L name d l (m.heardUs o on) ∧ Keep (pown p L) w w' := by
  have hp := h.lt
  obtain ⟨b0, hb0⟩ : ∃ b, ((m.us 31).1 == 1) = b := ⟨_, rfl⟩
  obtain ⟨b1, hb1⟩ : ∃ b, (((m.hear true o on).us 31).1 == 1) = b := ⟨_, rfl⟩
  have HI := Lib.hid (isOn_us p L name d l m w 31 (by rfl) b0 hb0 h)
  have HH := Lib.hid (fun W (q : PactAt W p L name d l m) => hear_us p L name d l m o on W q (hok.us _) ho hg hs)
  have HI2 := Lib.hid (fun W (q : PactAt W p L name d l (m.hear true o on)) => isOn_us p L name d l _ W 31 (by rfl) b1 hb1 q)
  have HT := Lib.hid (fun W (q : PactAt W p L name d l (m.hear true o on)) => tellSize_any p L name d l _ W q hok.w hok.h)
  obtain ⟨T1, hT1⟩ : ∃ T : ByteArray, T = ⟨(m.hearT true o on).toArray⟩ := ⟨_, rfl⟩
  obtain ⟨T2, hT2⟩ : ∃ T : ByteArray, T = ⟨(sizeL (m.hear true o on)).toArray⟩ := ⟨_, rfl⟩
  rw [← hT1] at HH
  rw [← hT2] at HT
  have z1 : T1.size ≤ 3 := by rw [hT1, size_mk]; exact cmd_len _ _ _
  have z2 : T2.size ≤ 13 := by rw [hT2, size_mk]; exact sizeL_len _
  have z3 : T1.size + T2.size ≤ 9223372036854775807 := by omega
  have HR : Hid (if b0 = false ∧ b1 = true then m.heardUs o on = (m.hear true o on).tell ∧ (⟨(m.heardUsT o on).toArray⟩ : ByteArray) = T1 ++ T2 else m.heardUs o on = m.hear true o on ∧ (⟨(m.heardUsT o on).toArray⟩ : ByteArray) = T1) := Lib.hid (by
    subst hb0 hb1
    unfold Pm.heardUs Pm.heardUsT
    by_cases e : (m.us 31).1 ≠ 1 ∧ ((m.hear true o on).us 31).1 = 1
    · rw [if_pos (by simpa using e), if_pos e, if_pos e, hT1, hT2, mk_add]; exact ⟨rfl, rfl⟩
    · rw [if_neg (by simpa using e), if_neg e, if_neg e, hT1]; exact ⟨rfl, rfl⟩)
  have H := Lib.hid h
  clear h hok ho hg hs hb0 hb1 hT1 hT2 z1 z2
  rcases hc with ⟨rfl, rfl⟩ | ⟨rfl, rfl⟩
  all_goals
    go_enter Try.func36, Try.ntmps36
    go_wp2_with fail
    refine HI.out.mono ?_
    rintro e w1 ⟨rfl, hb⟩
    have B1 := Lib.hid hb
    clear hb
    go_wp2_with fail
    refine (HH.out _ (H.out.below B1.out)).mono ?_
    rintro e w2 ⟨rfl, hq, hk⟩
    have H2 := Lib.hid hq
    have K2 := Lib.hid ((Keep.of_below (pown p L) B1.out).trans hk (fun _ _ x => x))
    clear hq hk
    cases b0
    · go_wp2_with fail
      refine (HI2.out _ H2.out).mono ?_
      rintro e w3 ⟨rfl, hb⟩
      have H3 := Lib.hid (H2.out.below hb)
      have K3 := Lib.hid (K2.out.trans (Keep.of_below (pown p L) hb) (fun _ _ x => x))
      clear hb
      cases b1
      · go_wp2_with fail
        go_ret
        exact ⟨by rw [HR.out.2]; rfl, by rw [show m.heardUs o _ = _ from HR.out.1]; exact H3.out, K3.out⟩
      · go_wp2_with fail
        refine (HT.out _ H3.out).mono ?_
        rintro e w4 ⟨rfl, hq, hk⟩
        have H4 := Lib.hid hq
        have K4 := Lib.hid (K3.out.trans hk (fun _ _ x => x))
        clear hq hk
        go_wp2_with fail
        go_ret
        exact ⟨by rw [HR.out.2]; rfl, by rw [show m.heardUs o _ = _ from HR.out.1]; exact H4.out, K4.out⟩
    · go_wp2_with fail
      go_ret
      exact ⟨by rw [HR.out.2]; rfl, by rw [show m.heardUs o _ = _ from HR.out.1]; exact H2.out, K2.out⟩

theorem option_no (cmd : Int) (o : Value) (h1 : (cmd == 251) = false) (h2 : (cmd == 252) = false) (h3 : (cmd == 253) = false) (h4 : (cmd == 254) = false) :
    Calls Try.prog 36 #[.pointer (some ⟨p, 0, none⟩), .int .i64 cmd, o] w fun e w' => e = .returned (.string ⟨#[]⟩) ∧ w = w' := by
  go_enter Try.func36, Try.ntmps36
  go_wp2_with fail
  go_ret
  exact ⟨rfl, rfl⟩

theorem option_any (cmd : Int) (o : Nat) (h : PactAt w p L name d l m) (hok : m.Ok) (ho : o ≤ 255) (hg : m.g < 1000000) (hs : m.sent < 1000000) :
    Calls Try.prog 36 #[.pointer (some ⟨p, 0, none⟩), .int .i64 cmd, .int .i64 (o : Int)] w fun e w' => e = .returned (.string ⟨(m.optionT cmd o).toArray⟩) ∧ PactAt w' p L name d l (m.option cmd o) ∧ Keep (pown p L) w w' := by
  by_cases h1 : cmd = 251 ∨ cmd = 252
  · have e1 : m.optionT cmd o = m.hearT false o (decide (cmd = 251)) := if_pos h1
    have e2 : m.option cmd o = m.hear false o (decide (cmd = 251)) := if_pos h1
    rw [e1, e2]
    refine option_him p L name d l m w cmd _ o h hok ho hg hs ?_
    rcases h1 with rfl | rfl
    · exact .inl ⟨rfl, rfl⟩
    · exact .inr ⟨rfl, rfl⟩
  · by_cases h2 : cmd = 253 ∨ cmd = 254
    · have e1 : m.optionT cmd o = m.heardUsT o (decide (cmd = 253)) := by unfold Pm.optionT; rw [if_neg h1, if_pos h2]
      have e2 : m.option cmd o = m.heardUs o (decide (cmd = 253)) := by unfold Pm.option; rw [if_neg h1, if_pos h2]
      rw [e1, e2]
      refine option_us p L name d l m w cmd _ o h hok ho hg hs ?_
      rcases h2 with rfl | rfl
      · exact .inl ⟨rfl, rfl⟩
      · exact .inr ⟨rfl, rfl⟩
    · have e1 : m.optionT cmd o = [] := by unfold Pm.optionT; rw [if_neg h1, if_neg h2]
      have e2 : m.option cmd o = m := by unfold Pm.option; rw [if_neg h1, if_neg h2]
      rw [e1, e2]
      refine (option_no p w cmd (.int .i64 (o : Int)) ?_ ?_ ?_ ?_).mono ?_
      · simp; exact fun e => h1 (.inl e)
      · simp; exact fun e => h1 (.inr e)
      · simp; exact fun e => h2 (.inl e)
      · simp; exact fun e => h2 (.inr e)
      · rintro e w1 ⟨rfl, rfl⟩
        exact ⟨rfl, h, Keep.refl _ _⟩
end

end Go.Proofs.Ytmkgcmnimpkmjaa
