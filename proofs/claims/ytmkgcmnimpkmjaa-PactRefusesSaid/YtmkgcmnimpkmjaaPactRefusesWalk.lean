/- Law PactRefuses: the walk. Own work. -/
import Derived.Test.YtmkgcmnimpkmjaaPk
import Derived.Test.YtmkgcmnimpkmjaaPactLawM
import Derived.Test.YtmkgcmnimpkmjaaRefWS
import Derived.Deep.CutRange
namespace Go.Proofs.Ytmkgcmnimpkmjaa
set_option linter.unusedVariables false
set_option linter.unusedSimpArgs false
open Go.RowKit

/-- The side behind k times. -/
def sideAt (kn : Bool) (k : Nat) : Int × Bool := if kn = true ∧ 0 < k then (1, false) else (0, false)

set_option maxRecDepth 100000 in
set_option maxHeartbeats 3200000 in
theorem refuses_good (o n : Nat) (his : Bool) (w : World) (h1 : o ≤ 255) (h2 : n ≤ 60) :
    Calls Try.prog 4 #[.int .i64 o, .int .i64 n, .bool his] w fun e w' => e = .returned (.bool true) ∧ Below w.heap.size w w' := by
  have c1 : decide ((o : Int) < 0) = false := by simp
  have c2 : decide (255 < (o : Int)) = false := by simp; omega
  have d1 : decide ((n : Int) < 0) = false := by simp
  have d2 : decide (60 < (n : Int)) = false := by simp; omega
  obtain ⟨y, hy⟩ : ∃ y, y = !his := ⟨_, rfl⟩
  obtain ⟨kn, hkn⟩ : ∃ kn, kn = decide ((o : Int) ∈ agreedL y) := ⟨_, rfl⟩
  have HKN := Lib.hid hkn
  have HY := Lib.hid hy
  go_enter Try.func4, Try.ntmps4
  go_upto_region 3 with (go_at_call 8; refine (alive_any _).mono ?_; rintro r w1 ⟨rfl, hb⟩)
  have HB1 := Lib.hid hb
  clear hb
  go_cut [7] from 15 to 107 (fun v wx => v = .bool kn ∧ wx = w1)
  case first =>
    clear c1 c2 d1 d2
    by_cases e0 : o = 0
    · subst e0
      have hk : kn = true := by rw [hkn]; cases y <;> rfl
      clear hkn hy HKN HY
      subst hk
      cases his <;> (go_wp2_with fail; go_meet; exact ⟨rfl, rfl⟩)
    by_cases e1 : o = 3
    · subst e1
      have hk : kn = true := by rw [hkn]; cases y <;> rfl
      clear hkn hy HKN HY
      subst hk
      cases his <;> (go_wp2_with fail; go_meet; exact ⟨rfl, rfl⟩)
    by_cases e2 : o = 1
    · subst e2
      have hk : kn = his := by rw [hkn, hy]; cases his <;> rfl
      clear hkn hy HKN HY
      subst hk
      cases kn <;> (go_wp2_with fail; go_meet; exact ⟨rfl, rfl⟩)
    by_cases e3 : o = 24
    · subst e3
      have hk : kn = !his := by rw [hkn, hy]; cases his <;> rfl
      clear hkn hy HKN HY
      subst hk
      cases his <;> (go_wp2_with fail; go_meet; exact ⟨rfl, rfl⟩)
    by_cases e4 : o = 31
    · subst e4
      have hk : kn = !his := by rw [hkn, hy]; cases his <;> rfl
      clear hkn hy HKN HY
      subst hk
      cases his <;> (go_wp2_with fail; go_meet; exact ⟨rfl, rfl⟩)
    have hk : kn = false := by
      rw [hkn]
      cases y
      · refine decide_eq_false (fun x => ?_); simp [agreedL] at x; omega
      · refine decide_eq_false (fun x => ?_); simp [agreedL] at x; omega
    have t0 : ((o : Int) == 0) = false := by simp; omega
    have t1 : ((o : Int) == 3) = false := by simp; omega
    have t2 : ((o : Int) == 1) = false := by simp; omega
    have t3 : ((o : Int) == 24) = false := by simp; omega
    have t4 : ((o : Int) == 31) = false := by simp; omega
    clear hkn hy HKN HY e0 e1 e2 e3 e4 h1
    subst hk
    cases his <;> (go_wp2_with fail; go_meet; exact ⟨rfl, rfl⟩)
  case rest =>
    obtain ⟨rfl, rfl⟩ := hcut
    clear hkn hy
    go_wp2_with fail
    refine (pk_new ⟨#[120]⟩ 1 (by decide) 80 24 _ w.heap.size HB1.out.size).mono ?_
    rintro e w2 ⟨p, L, rfl, hp1, hb⟩
    have HP2 := Lib.hid hp1
    have HB2 : Hid (Below w.heap.size w w2) := Lib.hid (HB1.out.trans (hb.mono HB1.out.size))
    clear hb hp1
    obtain ⟨cm, hcm⟩ : ∃ c, c = cmdOn y := ⟨_, rfl⟩
    obtain ⟨nn, hnn⟩ : ∃ c : Nat, c = offC y := ⟨_, rfl⟩
    obtain ⟨oo, hoo⟩ : ∃ c, c = cmdOff y := ⟨_, rfl⟩
    go_upto_if 62 with fail
    go_cut [9, 10, 11] from 15 to 107 (fun u v x wx => u = .int .i64 cm ∧ v = .int .i64 (nn : Int) ∧ x = .int .i64 oo ∧ wx = w2)
    case first =>
      have hy := HY.out
      cases his
      · have e : y = true := hy
        subst e
        have f1 : cm = 253 := hcm
        have f2 : nn = 252 := hnn
        have f3 : oo = 254 := hoo
        subst f1 f2 f3
        clear hy hcm hnn hoo
        go_wp2_with fail
        go_meet
        exact ⟨rfl, rfl, rfl, rfl⟩
      · have e : y = false := hy
        subst e
        have f1 : cm = 251 := hcm
        have f2 : nn = 254 := hnn
        have f3 : oo = 252 := hoo
        subst f1 f2 f3
        clear hy hcm hnn hoo
        go_wp2_with fail
        go_meet
        exact ⟨rfl, rfl, rfl, rfl⟩
    case rest =>
      obtain ⟨rfl, rfl, rfl, rfl⟩ := hcut
      have n255 : nn ≤ 255 := by rw [hnn]; cases y <;> decide
      obtain ⟨O1, hO1⟩ : ∃ O : ByteArray, O = ⟨(optL (offC y) o).toArray⟩ := ⟨_, rfl⟩
      have HR1 := Lib.hid (fun W => rw_option nn o W n255 h1)
      rw [hnn, ← hO1, ← hnn] at HR1
      -- refused
      have HT0 : Hid (∀ W m, kn = false → Pk w.heap.size W p L ((⟨#[120]⟩ : ByteArray).extract 0 1) m → Rf m y o (0, false) → m.g < 10000 → m.sent < 10000 →
          Calls Try.prog 15 #[.pointer (some ⟨p, 0, none⟩), .agg #[.int .i64 2, .int .i64 cm, .int .i64 (o : Int), .string ⟨#[]⟩]] W fun e w' =>
            e = .returned (.string O1) ∧ ∃ m', Pk w.heap.size w' p L ((⟨#[120]⟩ : ByteArray).extract 0 1) m' ∧ Rf m' y o (0, false) ∧ m'.g ≤ m.g + 1 ∧ m'.sent ≤ m.sent + 1 ∧ Below w.heap.size W w') := Lib.hid (fun W m hk q hr hg hs => by
        have hd := does_refuse hr (by have := HKN.out; rw [hk] at this; exact of_decide_eq_false this.symm)
        obtain ⟨t1, t2⟩ := take_opt m cm o h1 ((⟨#[120]⟩ : ByteArray).extract 0 1).data.toList (⟨#[]⟩ : ByteArray).data.toList
        refine (pk_take q 2 cm o ⟨#[]⟩ (by omega) (by omega) (by omega) (by omega)).mono ?_
        rintro e w' ⟨rfl, a1, a2, a3⟩
        rw [t1, hcm] at a1
        rw [t2, hcm, hd.text, hO1]
        exact ⟨rfl, _, a1, hd.rf, hd.g, by rw [hd.sent]; exact Nat.le_refl _, a2⟩)
      -- agreed to, the first time
      have HT1 : Hid (∀ W m, kn = true → Pk w.heap.size W p L ((⟨#[120]⟩ : ByteArray).extract 0 1) m → Rf m y o (0, false) → m.g < 10000 → m.sent < 10000 →
          Calls Try.prog 15 #[.pointer (some ⟨p, 0, none⟩), .agg #[.int .i64 2, .int .i64 cm, .int .i64 (o : Int), .string ⟨#[]⟩]] W fun e w' =>
            ∃ T, e = .returned (.string T) ∧ ∃ m', Pk w.heap.size w' p L ((⟨#[120]⟩ : ByteArray).extract 0 1) m' ∧ Rf m' y o (1, false) ∧ m'.g ≤ m.g + 1 ∧ m'.sent ≤ m.sent + 1 ∧ Below w.heap.size W w') := Lib.hid (fun W m hk q hr hg hs => by
        have hd := does_agree hr (by have := HKN.out; rw [hk] at this; exact of_decide_eq_true this.symm)
        obtain ⟨t1, t2⟩ := take_opt m cm o h1 ((⟨#[120]⟩ : ByteArray).extract 0 1).data.toList (⟨#[]⟩ : ByteArray).data.toList
        refine (pk_take q 2 cm o ⟨#[]⟩ (by omega) (by omega) (by omega) (by omega)).mono ?_
        rintro e w' ⟨rfl, a1, a2, a3⟩
        rw [t1, hcm] at a1
        exact ⟨_, rfl, _, a1, hd.rf, hd.g, by rw [hd.sent]; exact Nat.le_refl _, a2⟩)
      -- and again
      have HT2 : Hid (∀ W m, Pk w.heap.size W p L ((⟨#[120]⟩ : ByteArray).extract 0 1) m → Rf m y o (1, false) → m.g < 10000 → m.sent < 10000 →
          Calls Try.prog 15 #[.pointer (some ⟨p, 0, none⟩), .agg #[.int .i64 2, .int .i64 cm, .int .i64 (o : Int), .string ⟨#[]⟩]] W fun e w' =>
            e = .returned (.string ⟨#[]⟩) ∧ ∃ m', Pk w.heap.size w' p L ((⟨#[120]⟩ : ByteArray).extract 0 1) m' ∧ Rf m' y o (1, false) ∧ m'.g ≤ m.g + 1 ∧ m'.sent ≤ m.sent + 1 ∧ Below w.heap.size W w') := Lib.hid (fun W m q hr hg hs => by
        have hd := does_stay hr
        obtain ⟨t1, t2⟩ := take_opt m cm o h1 ((⟨#[120]⟩ : ByteArray).extract 0 1).data.toList (⟨#[]⟩ : ByteArray).data.toList
        refine (pk_take q 2 cm o ⟨#[]⟩ (by omega) (by omega) (by omega) (by omega)).mono ?_
        rintro e w' ⟨rfl, a1, a2, a3⟩
        rw [t1, hcm] at a1
        rw [t2, hcm, hd.text]
        exact ⟨rfl, _, a1, hd.rf, hd.g, by rw [hd.sent]; omega, a2⟩)
      -- off
      have HU : Hid (∀ W m v, Pk w.heap.size W p L ((⟨#[120]⟩ : ByteArray).extract 0 1) m → Rf m y o v → m.g < 10000 → m.sent < 10000 →
          Calls Try.prog 15 #[.pointer (some ⟨p, 0, none⟩), .agg #[.int .i64 2, .int .i64 oo, .int .i64 (o : Int), .string ⟨#[]⟩]] W fun e w' =>
            ∃ T, e = .returned (.string T) ∧ (v = (0, false) → T = ⟨#[]⟩) ∧ Below w.heap.size W w') := Lib.hid (fun W m v q hr hg hs => by
        obtain ⟨t1, t2⟩ := take_opt m oo o h1 ((⟨#[120]⟩ : ByteArray).extract 0 1).data.toList (⟨#[]⟩ : ByteArray).data.toList
        refine (pk_take q 2 oo o ⟨#[]⟩ (by omega) (by omega) (by omega) (by omega)).mono ?_
        rintro e w' ⟨rfl, a1, a2, a3⟩
        refine ⟨_, rfl, fun hv => ?_, a2⟩
        subst hv
        rw [t2, hoo, (does_none hr).text])
      have H0 : Hid (∃ m, Pk w.heap.size wc p L ((⟨#[120]⟩ : ByteArray).extract 0 1) m ∧ Rf m y o (sideAt kn 0) ∧ m.g ≤ 0 ∧ m.sent ≤ 0) := Lib.hid ⟨_, HP2.out, by unfold sideAt; rw [if_neg (by simp)]; exact Rf.new _ _ _ _, by decide, by decide⟩
      clear hO1 HP2 hcm hnn hoo n255 HY HKN
      go_wp2_with fail
      go_loopw [12] (fun i wr => ∃ k : Nat, i = .int .i64 k ∧ k ≤ n ∧ Hid (∃ m, Pk w.heap.size wr p L ((⟨#[120]⟩ : ByteArray).extract 0 1) m ∧ Rf m y o (sideAt kn k) ∧ m.g ≤ k ∧ m.sent ≤ k) ∧ Hid (Below w.heap.size w wr)) (fun i _ => n - (intOf i).toNat)
      case atStart => exact ⟨0, rfl, by omega, H0, HB2⟩
      case round =>
        obtain ⟨k, rfl, hk, hm, hw⟩ := hrel
        clear H0 HB2
        obtain ⟨m, q, hr, hg, hs⟩ := hm.out
        by_cases hlt : k < n
        · have hki : decide ((k : Int) < (n : Int)) = true := by simp; omega
          cases kn
          · have HC := Lib.hid (HT0.out _ m rfl q (by simpa [sideAt] using hr) (by omega) (by omega))
            clear q hr hm
            go_wp2_with fail
            refine HC.out.mono ?_
            rintro e w3 ⟨rfl, m3, q, hr, hg3, hs3, hb⟩
            have HW3 := Lib.hid (hw.out.trans hb)
            have HM3 := Lib.hid (And.intro q hr)
            clear q hr hb HC
            go_wp2_with fail
            refine (HR1.out _).mono ?_
            rintro e w4 ⟨rfl, hb⟩
            have HM4 := Lib.hid (HM3.out.1.below hb)
            have HW4 := Lib.hid (HW3.out.trans (hb.mono HW3.out.size))
            clear hb
            go_wp2_with fail
            go_roundw
            case rel => exact ⟨k + 1, by go_num, by omega, Lib.hid ⟨m3, HM4.out, by simpa [sideAt] using HM3.out.2, by omega, by omega⟩, HW4⟩
            case measure => simp [intOf]; omega
          · by_cases hk0 : k = 0
            · subst hk0
              have HC := Lib.hid (HT1.out _ m rfl q (by simpa [sideAt] using hr) (by omega) (by omega))
              clear q hr hm
              go_wp2_with fail
              refine HC.out.mono ?_
              rintro e w3 ⟨T, rfl, m3, q, hr, hg3, hs3, hb⟩
              have HW3 := Lib.hid (hw.out.trans hb)
              have HM3 := Lib.hid (And.intro q hr)
              clear q hr hb HC
              go_wp2_with fail
              go_roundw
              case rel => exact ⟨1, by go_num, by omega, Lib.hid ⟨m3, HM3.out.1, by simpa [sideAt] using HM3.out.2, by omega, by omega⟩, HW3⟩
              case measure => simp [intOf]; omega
            · have HC := Lib.hid (HT2.out _ m q (by simpa [sideAt, Nat.pos_of_ne_zero hk0] using hr) (by omega) (by omega))
              have hk1 : (0 : Int) < (k : Int) := by omega
              clear q hr hm hk0
              go_wp2_with fail
              refine HC.out.mono ?_
              rintro e w3 ⟨rfl, m3, q, hr, hg3, hs3, hb⟩
              have HW3 := Lib.hid (hw.out.trans hb)
              have HM3 := Lib.hid (And.intro q hr)
              clear q hr hb HC
              go_wp2_with fail
              go_roundw
              case rel => exact ⟨k + 1, by go_num, by omega, Lib.hid ⟨m3, HM3.out.1, by simpa [sideAt] using HM3.out.2, by omega, by omega⟩, HW3⟩
              case measure => simp [intOf]; omega
        · have hki : decide ((k : Int) < (n : Int)) = false := by simp; omega
          have hkn : k = n := by omega
          have HC := Lib.hid (HU.out _ m _ q hr (by omega) (by omega))
          clear q hr hm hg hs
          subst hkn
          go_wp2_with fail
          refine HC.out.mono ?_
          rintro e w3 ⟨T, rfl, hT, hb⟩
          have HW3 := Lib.hid (hw.out.trans hb)
          clear hb HC
          cases kn
          · have e := hT (by simp [sideAt])
            subst e
            clear hT
            go_wp2_with fail
            go_ret
            exact ⟨rfl, HW3.out⟩
          · by_cases hk0 : k = 0
            · subst hk0
              have e := hT (by simp [sideAt])
              subst e
              clear hT
              go_wp2_with fail
              go_ret
              exact ⟨rfl, HW3.out⟩
            · have hk1 : (0 : Int) < (k : Int) := by omega
              clear hT hk0
              go_wp2_with fail
              go_ret
              exact ⟨rfl, HW3.out⟩

set_option maxHeartbeats 800000 in
theorem refuses_out (o n : Int) (his : Bool) (h : o < 0 ∨ 255 < o ∨ n < 0 ∨ 60 < n) (w : World) :
    Calls Try.prog 4 #[.int .i64 o, .int .i64 n, .bool his] w fun e w' => e = .returned (.bool true) ∧ Below w.heap.size w w' := by
  have hs : (decide (o < 0) = true) ∨ (decide (o < 0) = false ∧ decide (255 < o) = true) ∨ (decide (o < 0) = false ∧ decide (255 < o) = false ∧ decide (n < 0) = true) ∨ (decide (o < 0) = false ∧ decide (255 < o) = false ∧ decide (n < 0) = false ∧ decide (60 < n) = true) := by
    simp; omega
  clear h
  rcases hs with d1 | ⟨d1, d2⟩ | ⟨d1, d2, d3⟩ | ⟨d1, d2, d3, d4⟩
  all_goals
    go_enter Try.func4, Try.ntmps4
    go_wp2_with fail
    refine (alive_any _).mono ?_
    rintro e w1 ⟨rfl, hb⟩
    go_wp2_with fail
    go_ret
    exact ⟨rfl, hb⟩

theorem walk_PactRefuses (o : Int) (wo : (Lit.int .i64 o).wf = true) (n : Int) (wn : (Lit.int .i64 n).wf = true) (his : Bool) (w : World) :
    Calls Try.prog 4 #[.int .i64 o, .int .i64 n, .bool his] w fun e w' => e = .returned (.bool true) ∧ Below w.heap.size w w' := by
  by_cases h : o < 0 ∨ 255 < o ∨ n < 0 ∨ 60 < n
  · exact refuses_out o n his h w
  · obtain ⟨k, rfl⟩ : ∃ k : Nat, n = (k : Int) := ⟨n.toNat, by omega⟩
    obtain ⟨j, rfl⟩ : ∃ j : Nat, o = (j : Int) := ⟨o.toNat, by omega⟩
    exact refuses_good j k his w (by omega) (by omega)

end Go.Proofs.Ytmkgcmnimpkmjaa
