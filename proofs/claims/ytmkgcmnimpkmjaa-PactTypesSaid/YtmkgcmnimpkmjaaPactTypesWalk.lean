/- Law PactTypes: the walk. Own work. -/
import Derived.Test.YtmkgcmnimpkmjaaPk
import Derived.Test.YtmkgcmnimpkmjaaPactLawM
import Derived.Test.YtmkgcmnimpkmjaaRefWS
import Derived.Deep.CutRange
namespace Go.Proofs.Ytmkgcmnimpkmjaa
set_option linter.unusedVariables false
set_option linter.unusedSimpArgs false
open Go.RowKit

/-- What the law keeps of a Pact: is the name's option on? -/
def Named (B : Nat) (p : Nat) (L : Blk) (N : ByteArray) (on : Bool) (w : World) : Prop := ∃ m, Pk B w p L N m ∧ ((m.us 24).1 = 1 ↔ on = true) ∧ m.sent = (if on then 1 else 0) ∧ m.g ≤ 1

theorem name_text (m : Pm) (N : List UInt8) (on : Bool) (h : (m.us 24).1 = 1 ↔ on = true) (t : List UInt8) : m.takeT N 3 0 24 t = if t = [1] ∧ on = true then nameL N else [] := by
  unfold Pm.takeT
  rw [if_neg (fun x => by cases x.1)]
  by_cases e : t = [1] ∧ on = true
  · rw [if_pos ⟨rfl, rfl, e.1, h.2 e.2⟩, if_pos e]
  · rw [if_neg (fun x => e ⟨x.2.2.1, h.1 x.2.2.2⟩), if_neg e]

set_option maxRecDepth 100000 in
set_option maxHeartbeats 3200000 in
theorem types_good (name ask : ByteArray) (on : Bool) (n : Nat) (w : World) (h1 : name.size ≤ 60) (h2 : ask.size ≤ 40) (h3 : n ≤ 20) :
    Calls Try.prog 6 #[.string name, .string ask, .bool on, .int .i64 n] w fun e w' => e = .returned (.bool true) ∧ Below w.heap.size w w' := by
  have c1 : decide (60 < (name.size : Int)) = false := by simp; omega
  have c2 : decide (40 < (ask.size : Int)) = false := by simp; omega
  have d1 : decide ((n : Int) < 0) = false := by simp
  have d2 : decide (20 < (n : Int)) = false := by simp; omega
  obtain ⟨q, hq, hq1, hq2⟩ : ∃ q : Nat, min (name.size : Int) 30 = (q : Int) ∧ q ≤ name.size ∧ q ≤ 30 := ⟨min name.size 30, by omega, by omega, by omega⟩
  have q0 : (0 : Int) ≤ (q : Int) := by omega
  have q1 : (q : Int) ≤ (name.size : Int) := by omega
  obtain ⟨N, hN⟩ : ∃ N, N = name.extract 0 q := ⟨_, rfl⟩
  have hNs : N.size ≤ 30 := by rw [hN, ByteArray.size_extract]; omega
  obtain ⟨WT, hWT⟩ : ∃ T : ByteArray, T = ⟨(if on = true then nameL N.data.toList else []).toArray⟩ := ⟨_, rfl⟩
  obtain ⟨OT, hOT⟩ : ∃ T : ByteArray, T = ⟨(if ask.data.toList = [1] ∧ on = true then nameL N.data.toList else []).toArray⟩ := ⟨_, rfl⟩
  have hne : name.extract 0 q = N := hN.symm
  have HN := Lib.hid (fun W (h : w.heap.size ≤ W.heap.size) => pk_new name q hq 80 24 W w.heap.size h)
  rw [hne] at HN
  have HS : Hid (∀ W, Calls Try.prog 22 #[.int .i64 24, .string (⟨#[0]⟩ ++ N)] W fun e w' => e = .returned (.string ⟨(nameL N.data.toList).toArray⟩) ∧ Below W.heap.size W w') := Lib.hid (fun W => by
    have z := rw_sub 24 (⟨#[0]⟩ ++ N) W (by omega) (by rw [ByteArray.size_append]; show 1 + N.size ≤ _; omega)
    rw [show (⟨#[0]⟩ ++ N : ByteArray).data.toList = 0 :: N.data.toList by rw [ByteArray.data_append, Array.toList_append]; rfl] at z
    exact z)
  have z : (⟨#[0]⟩ : ByteArray).size + N.size ≤ 9223372036854775807 := by show 1 + N.size ≤ _; omega
  have HWT := Lib.hid hWT
  have HOT := Lib.hid hOT
  -- the calls of the loop
  have HA : Hid (∀ W p L, Named w.heap.size p L N on W → Calls Try.prog 15 #[.pointer (some ⟨p, 0, none⟩), .agg #[.int .i64 3, .int .i64 0, .int .i64 24, .string ⟨#[1]⟩]] W fun e w' => e = .returned (.string WT) ∧ Named w.heap.size p L N on w' ∧ Below w.heap.size W w') := Lib.hid (fun W p L ⟨m, a1, a2, a3, a4⟩ => by
    refine (pk_take a1 3 0 24 ⟨#[1]⟩ (by omega) (by omega) (by omega) (by rw [a3]; split <;> omega)).mono ?_
    rintro e w' ⟨rfl, b1, b2, b3⟩
    refine ⟨?_, ⟨m, b1, a2, a3, a4⟩, b2⟩
    rw [name_text m _ on a2, hWT]
    simp)
  have HB : Hid (∀ W p L, Named w.heap.size p L N on W → Calls Try.prog 15 #[.pointer (some ⟨p, 0, none⟩), .agg #[.int .i64 3, .int .i64 0, .int .i64 24, .string ask]] W fun e w' => e = .returned (.string OT) ∧ Named w.heap.size p L N on w' ∧ Below w.heap.size W w') := Lib.hid (fun W p L ⟨m, a1, a2, a3, a4⟩ => by
    refine (pk_take a1 3 0 24 ask (by omega) (by omega) (by omega) (by rw [a3]; split <;> omega)).mono ?_
    rintro e w' ⟨rfl, b1, b2, b3⟩
    refine ⟨?_, ⟨m, b1, a2, a3, a4⟩, b2⟩
    rw [name_text m _ on a2, hOT])
  have HC : Hid (∀ W p L, Named w.heap.size p L N on W → Calls Try.prog 15 #[.pointer (some ⟨p, 0, none⟩), .agg #[.int .i64 3, .int .i64 0, .int .i64 31, .string ⟨#[1]⟩]] W fun e w' => e = .returned (.string ⟨#[]⟩) ∧ Named w.heap.size p L N on w' ∧ Below w.heap.size W w') := Lib.hid (fun W p L ⟨m, a1, a2, a3, a4⟩ => by
    refine (pk_take a1 3 0 31 ⟨#[1]⟩ (by omega) (by omega) (by omega) (by rw [a3]; split <;> omega)).mono ?_
    rintro e w' ⟨rfl, b1, b2, b3⟩
    refine ⟨?_, ⟨m, b1, a2, a3, a4⟩, b2⟩
    rw [show m.takeT N.data.toList 3 0 31 (⟨#[1]⟩ : ByteArray).data.toList = [] by unfold Pm.takeT; rw [if_neg (fun x => by cases x.1), if_neg (fun x => by cases x.2.1)]])
  clear hWT hOT hN hNs hq1 hq2 h1 h2
  go_enter Try.func6, Try.ntmps6
  go_upto_region 3 with (go_at_call 8; refine (alive_any _).mono ?_; rintro r w1 ⟨rfl, hb⟩)
  have HB1 := Lib.hid hb
  clear hb c1 c2 d1 d2
  go_wp2_with fail
  refine (HN.out _ HB1.out.size).mono ?_
  rintro e w2 ⟨p, L, rfl, hp1, hb⟩
  have HP2 := Lib.hid hp1
  have HB2 : Hid (Below w.heap.size w w2) := Lib.hid (HB1.out.trans (hb.mono HB1.out.size))
  clear hb hp1
  go_upto_region 6 with fail
  go_cut [45] from 14 to 86 (fun v wx => v = .bool false ∧ Hid (Named w.heap.size p L N on wx) ∧ Hid (Below w.heap.size w wx))
  case first =>
    cases on
    · go_wp2_with fail
      go_meet
      exact ⟨rfl, Lib.hid ⟨_, HP2.out, by decide, by decide, by decide⟩, HB2⟩
    · have hd := does_agree (Rf.new 80 24 true 24) (by decide)
      obtain ⟨t1, t2⟩ := take_opt (Pm.new 80 24) 253 24 (by omega) N.data.toList (⟨#[]⟩ : ByteArray).data.toList
      have hT := pk_take HP2.out 2 253 ((24 : Nat) : Int) ⟨#[]⟩ (by omega) (by omega) (by decide) (by decide)
      rw [t1, t2, show (Pm.new 80 24).optionT 253 24 = [255, 251, 24] from hd.text] at hT
      have HT := Lib.hid hT
      have HM : Hid (((((Pm.new 80 24).option 253 24).us 24).1 = 1 ↔ true = true) ∧ ((Pm.new 80 24).option 253 24).sent = (if true then 1 else 0) ∧ ((Pm.new 80 24).option 253 24).g ≤ 1) := Lib.hid (by
        refine ⟨?_, hd.sent, hd.g⟩
        have := hd.rf.at
        have e : ((Pm.new 80 24).option 253 24).us 24 = (1, false) := this
        rw [e]
        simp)
      clear hd t1 t2 hT
      go_wp2_with fail
      refine HT.out.mono ?_
      rintro e w3 ⟨rfl, b1, b2, _⟩
      have HP3 := Lib.hid b1
      have HB3 := Lib.hid (HB2.out.trans b2)
      clear b1 b2
      go_wp2_with fail
      go_meet
      exact ⟨rfl, Lib.hid ⟨_, HP3.out, by simpa using HM.out⟩, HB3⟩
  case rest =>
    obtain ⟨rfl, HM, HB3⟩ := hcut
    clear HP2 HB2
    go_upto_if 46 with fail
    go_cut [10] from 14 to 86 (fun v wx => v = .string WT ∧ Hid (Named w.heap.size p L N on wx) ∧ Hid (Below w.heap.size w wx))
    case first =>
      have hw := HWT.out
      cases on
      · rw [if_neg (by simp)] at hw
        subst hw
        clear HWT HOT HA HB HC
        go_wp2_with fail
        go_meet
        exact ⟨rfl, HM, HB3⟩
      · rw [if_pos rfl] at hw
        rw [← hw] at HS
        clear HWT HOT HA HB HC hw
        go_wp2_with fail
        refine (HS.out _).mono ?_
        rintro e w4 ⟨rfl, hb⟩
        have HM4 : Hid (Named w.heap.size p L N true w4) := Lib.hid (by obtain ⟨m, a1, a2⟩ := HM.out; exact ⟨m, a1.below hb, a2⟩)
        have HB4 := Lib.hid (HB3.out.trans (hb.mono HB3.out.size))
        clear hb
        go_wp2_with fail
        go_meet
        exact ⟨rfl, HM4, HB4⟩
    case rest =>
      obtain ⟨rfl, HM5, HB5⟩ := hcut
      clear HM HB3
      go_wp2_with fail
      go_loopw [11] (fun i wr => ∃ k : Nat, i = .int .i64 k ∧ k ≤ n ∧ Hid (Named w.heap.size p L N on wr) ∧ Hid (Below w.heap.size w wr)) (fun i _ => n - (intOf i).toNat)
      case atStart => exact ⟨0, rfl, by omega, HM5, HB5⟩
      case round =>
        obtain ⟨k, rfl, hk, hm, hw⟩ := hrel
        clear HM5 HB5
        by_cases hlt : k < n
        · have hki : decide ((k : Int) < (n : Int)) = true := by simp; omega
          go_upto_if 60 with fail
          go_cut [12] from 54 to 80 (fun v wx => v = .string OT ∧ wx = wr)
          case first =>
            have ho := HOT.out
            have hwt := HWT.out
            by_cases e : ask.data.toList = [1]
            · have e1 : (ask.toList == [1]) = true := by rw [Lib.toList_data]; simpa using e
              have e2 : OT = WT := by rw [ho, hwt]; simp [e]
              subst e2
              clear ho hwt e HOT HWT HA HB HC
              (go_wp2_with fail) <;> first
                | (go_meet; exact ⟨rfl, rfl⟩)
                | exact absurd (e1.symm.trans (by assumption)) (by simp)
                | (exfalso; simp_all; done)
            · have e1 : (ask.toList == [1]) = false := by rw [Lib.toList_data]; simpa using e
              have e2 : OT = ⟨#[]⟩ := by rw [ho, if_neg (fun x => e x.1)]
              subst e2
              clear ho hwt e HOT HWT HA HB HC
              (go_wp2_with fail) <;> first
                | (go_meet; exact ⟨rfl, rfl⟩)
                | exact absurd (e1.symm.trans (by assumption)) (by simp)
                | (exfalso; simp_all; done)
          case rest =>
            obtain ⟨rfl, rfl⟩ := hcut
            go_wp2_with fail
            refine (HA.out _ p L hm.out).mono ?_
            rintro e w3 ⟨rfl, a, b⟩
            have HM3 := Lib.hid a
            have HB3 := Lib.hid (hw.out.trans b)
            clear a b
            go_wp2_with fail
            refine (HB.out _ p L HM3.out).mono ?_
            rintro e w4 ⟨rfl, a, b⟩
            have HM4 := Lib.hid a
            have HB4 := Lib.hid (HB3.out.trans b)
            clear a b
            go_wp2_with fail
            refine (HC.out _ p L HM4.out).mono ?_
            rintro e w5 ⟨rfl, a, b⟩
            have HM5 := Lib.hid a
            have HB5 := Lib.hid (HB4.out.trans b)
            clear a b
            go_wp2_with fail
            go_roundw
            case rel => exact ⟨k + 1, by go_num, by omega, HM5, HB5⟩
            case measure => simp [intOf]; omega
        · have hki : decide ((k : Int) < (n : Int)) = false := by simp; omega
          obtain ⟨m, a1, a2, a3, a4⟩ := hm.out
          have hps := psent p L _ _ 0 _ wr a1.ac
          rw [a3] at hps
          clear a1 a2 a3 a4 hm HA HB HC HWT HOT
          cases on
          · have HPS : Hid (Calls Try.prog 18 #[.pointer (some ⟨p, 0, none⟩)] wr fun e w' => e = .returned (.int .i64 0) ∧ wr = w') := Lib.hid hps
            clear hps
            go_wp2_with fail
            refine HPS.out.mono ?_
            rintro e w3 ⟨rfl, rfl⟩
            go_wp2_with fail
            go_ret
            exact ⟨rfl, hw.out⟩
          · have HPS : Hid (Calls Try.prog 18 #[.pointer (some ⟨p, 0, none⟩)] wr fun e w' => e = .returned (.int .i64 1) ∧ wr = w') := Lib.hid hps
            clear hps
            go_wp2_with fail
            refine HPS.out.mono ?_
            rintro e w3 ⟨rfl, rfl⟩
            go_wp2_with fail
            go_ret
            exact ⟨rfl, hw.out⟩

set_option maxHeartbeats 800000 in
theorem types_out (name ask : ByteArray) (on : Bool) (n : Int) (h : 60 < name.size ∨ 40 < ask.size ∨ n < 0 ∨ 20 < n) (w : World) :
    Calls Try.prog 6 #[.string name, .string ask, .bool on, .int .i64 n] w fun e w' => e = .returned (.bool true) ∧ Below w.heap.size w w' := by
  have hs : (decide (60 < (name.size : Int)) = true) ∨ (decide (60 < (name.size : Int)) = false ∧ decide (40 < (ask.size : Int)) = true) ∨ (decide (60 < (name.size : Int)) = false ∧ decide (40 < (ask.size : Int)) = false ∧ decide (n < 0) = true) ∨ (decide (60 < (name.size : Int)) = false ∧ decide (40 < (ask.size : Int)) = false ∧ decide (n < 0) = false ∧ decide (20 < n) = true) := by
    simp; omega
  clear h
  rcases hs with d1 | ⟨d1, d2⟩ | ⟨d1, d2, d3⟩ | ⟨d1, d2, d3, d4⟩
  all_goals
    go_enter Try.func6, Try.ntmps6
    go_wp2_with fail
    refine (alive_any _).mono ?_
    rintro e w1 ⟨rfl, hb⟩
    go_wp2_with fail
    go_ret
    exact ⟨rfl, hb⟩

theorem walk_PactTypes (name : ByteArray) (wn : name.size ≤ maxLen) (ask : ByteArray) (wa : ask.size ≤ maxLen) (on : Bool) (n : Int) (wi : (Lit.int .i64 n).wf = true) (w : World) :
    Calls Try.prog 6 #[.string name, .string ask, .bool on, .int .i64 n] w fun e w' => e = .returned (.bool true) ∧ Below w.heap.size w w' := by
  by_cases h : 60 < name.size ∨ 40 < ask.size ∨ n < 0 ∨ 20 < n
  · exact types_out name ask on n h w
  · obtain ⟨k, rfl⟩ : ∃ k : Nat, n = (k : Int) := ⟨n.toNat, by omega⟩
    exact types_good name ask on k w (by omega) (by omega) (by omega)

end Go.Proofs.Ytmkgcmnimpkmjaa
