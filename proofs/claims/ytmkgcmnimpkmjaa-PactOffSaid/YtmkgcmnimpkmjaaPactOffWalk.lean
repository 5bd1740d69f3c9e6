/- Law PactOff: the walk. Own work. -/
import Derived.Test.YtmkgcmnimpkmjaaPk
import Derived.Test.YtmkgcmnimpkmjaaPactLawM
import Derived.Test.YtmkgcmnimpkmjaaRefWS
import Derived.Deep.CutRange
namespace Go.Proofs.Ytmkgcmnimpkmjaa
set_option linter.unusedVariables false
set_option linter.unusedSimpArgs false
open Go.RowKit

/-- Which option it is. -/
def OneOf (k : Nat) : Prop := k = 0 ∨ k = 3 ∨ k = 24 ∨ k = 31

/-- What the size's text is. -/
def sizeTxt (k : Nat) : List UInt8 := if k = 31 then [255, 250, 31, 1, 44, 0, 7, 255, 240] else []

theorem size_is {m : Pm} (h1 : m.w = 300) (h2 : m.h = 7) (k : Nat) : (if true = true ∧ k = 31 then sizeL m else []) = sizeTxt k := by
  unfold sizeTxt sizeL
  rw [h1, h2]
  by_cases e : k = 31
  · rw [if_pos ⟨rfl, e⟩, if_pos e]; decide
  · rw [if_neg (fun x => e x.2), if_neg e]

set_option maxRecDepth 100000 in
set_option maxHeartbeats 3200000 in
theorem off_good (o : Int) (n : Nat) (w : World) (h2 : n ≤ 30) (h0 : -9223372036854775808 ≤ o) (h1 : o ≤ 9223372036854775807) :
    Calls Try.prog 7 #[.int .i64 o, .int .i64 n] w fun e w' => e = .returned (.bool true) ∧ Below w.heap.size w w' := by
  have d1 : decide ((n : Int) < 0) = false := by simp
  have d2 : decide (30 < (n : Int)) = false := by simp; omega
  obtain ⟨c, hc⟩ : ∃ c : Nat, wrap64 (o.tmod 4 + 4) = (c : Int) := by
    refine ⟨(o.tmod 4 + 4).toNat, ?_⟩
    have := Int.tmod_lt_of_pos o (show (0 : Int) < 4 by omega)
    have := Int.lt_tmod_of_pos o (show (0 : Int) < 4 by omega)
    unfold wrap64
    omega
  obtain ⟨j, hj, hj4⟩ : ∃ j : Nat, (c : Int).tmod 4 = (j : Int) ∧ j < 4 := ⟨c % 4, by rw [Int.tmod_eq_emod_of_nonneg (by omega)]; omega, by omega⟩
  clear h0 h1
  go_enter Try.func7, Try.ntmps7
  go_wp2_with (go_at_call 8; refine (alive_any _).mono ?_; rintro r w1 ⟨rfl, hb⟩)
  obtain ⟨kk, hkk, hone⟩ : ∃ kk : Nat, (([Value.int IntKind.i64 0, Value.int IntKind.i64 3, Value.int IntKind.i64 24, Value.int IntKind.i64 31] : List Value)[j]'(by simpa using hj4)) = Value.int .i64 (kk : Int) ∧ OneOf kk := by
    rcases j with _ | _ | _ | _ | j
    · exact ⟨0, rfl, .inl rfl⟩
    · exact ⟨3, rfl, .inr (.inl rfl)⟩
    · exact ⟨24, rfl, .inr (.inr (.inl rfl))⟩
    · exact ⟨31, rfl, .inr (.inr (.inr rfl))⟩
    · omega
  rw [hkk]
  have k255 : kk ≤ 255 := by unfold OneOf at hone; omega
  have hag : (kk : Int) ∈ agreedL true := by unfold OneOf at hone; rcases hone with rfl | rfl | rfl | rfl <;> decide
  obtain ⟨W0, hW0⟩ : ∃ W0, W0 = w1.alloc (.cells #[.int .i64 0, .int .i64 3, .int .i64 24, .int .i64 31] 3) := ⟨_, rfl⟩
  have HB0 : Hid (Below w.heap.size w W0) := Lib.hid (by rw [hW0]; exact hb.alloc hb.size _)
  rw [← hW0]
  clear hb hW0
  refine (pk_new ⟨#[120]⟩ 1 (by decide) 300 7 W0 w.heap.size HB0.out.size).mono ?_
  rintro e w2 ⟨p, L, rfl, h1, hb⟩
  have HP2 := Lib.hid h1
  have HB2 : Hid (Below w.heap.size w w2) := Lib.hid (HB0.out.trans (hb.mono HB0.out.size))
  clear hb h1 hc hj hkk hj4
  obtain ⟨SZ, hSZ⟩ : ∃ SZ : ByteArray, SZ = ⟨(sizeTxt kk).toArray⟩ := ⟨_, rfl⟩
  go_upto_if 36 with fail
  go_cut [8] from 13 to 75 (fun v wx => v = .string SZ ∧ wx = w2)
  case first =>
    by_cases e31 : kk = 31
    · have t31 : ((kk : Int) == 31) = true := by simp; omega
      have HS := Lib.hid (show SZ = ⟨#[255, 250, 31, 1, 44, 0, 7, 255, 240]⟩ by rw [hSZ, sizeTxt, if_pos e31])
      clear e31 hSZ
      go_wp2_with fail
      go_meet
      exact ⟨by rw [HS.out], rfl⟩
    · have t31 : ((kk : Int) == 31) = false := by simp; omega
      have HS := Lib.hid (show SZ = ⟨#[]⟩ by rw [hSZ, sizeTxt, if_neg e31])
      clear e31 hSZ
      go_wp2_with fail
      go_meet
      exact ⟨by rw [HS.out], rfl⟩
  case rest =>
    obtain ⟨rfl, rfl⟩ := hcut
    have z0 : SZ.size ≤ 9 := by rw [hSZ, size_mk]; unfold sizeTxt; split <;> simp
    obtain ⟨O1, hO1⟩ : ∃ O : ByteArray, O = ⟨(optL 251 kk).toArray⟩ := ⟨_, rfl⟩
    obtain ⟨O2, hO2⟩ : ∃ O : ByteArray, O = ⟨(optL 252 kk).toArray⟩ := ⟨_, rfl⟩
    have z1 : O1.size = 3 := by rw [hO1]; rfl
    have z2 : O1.size + SZ.size ≤ 9223372036854775807 := by omega
    have HR1 := Lib.hid (fun W => rw_option 251 kk W (by omega) k255)
    have HR2 := Lib.hid (fun W => rw_option 252 kk W (by omega) k255)
    rw [← hO1] at HR1
    rw [← hO2] at HR2
    have HT : Hid (∀ W m, Pk w.heap.size W p L ((⟨#[120]⟩ : ByteArray).extract 0 1) m → Rf m true kk (0, false) → m.g < 10000 → m.sent < 10000 → m.w = 300 → m.h = 7 →
        Calls Try.prog 15 #[.pointer (some ⟨p, 0, none⟩), .agg #[.int .i64 2, .int .i64 253, .int .i64 (kk : Int), .string ⟨#[]⟩]] W fun e w' =>
          e = .returned (.string (O1 ++ SZ)) ∧ ∃ m', Pk w.heap.size w' p L ((⟨#[120]⟩ : ByteArray).extract 0 1) m' ∧ Rf m' true kk (1, false) ∧ m'.g ≤ m.g + 1 ∧ m'.sent = m.sent + 1 ∧ m'.w = 300 ∧ m'.h = 7 ∧ Below w.heap.size W w') := Lib.hid (fun W m q hr hg hs hw hh => by
      have hd := does_agree hr hag
      obtain ⟨t1, t2⟩ := take_opt m 253 kk k255 ((⟨#[120]⟩ : ByteArray).extract 0 1).data.toList (⟨#[]⟩ : ByteArray).data.toList
      refine (pk_take q 2 253 kk ⟨#[]⟩ (by omega) (by omega) (by omega) (by omega)).mono ?_
      rintro e w' ⟨rfl, a1, a2, a3⟩
      rw [t1] at a1
      rw [t2, show m.optionT 253 kk = _ from hd.text, size_is hw hh, hO1, hSZ, mk_add]
      exact ⟨rfl, _, a1, hd.rf, hd.g, hd.sent, hd.w.trans hw, hd.h.trans hh, a2⟩)
    have HU : Hid (∀ W m, Pk w.heap.size W p L ((⟨#[120]⟩ : ByteArray).extract 0 1) m → Rf m true kk (1, false) → m.g < 10000 → m.sent < 10000 → m.w = 300 → m.h = 7 →
        Calls Try.prog 15 #[.pointer (some ⟨p, 0, none⟩), .agg #[.int .i64 2, .int .i64 254, .int .i64 (kk : Int), .string ⟨#[]⟩]] W fun e w' =>
          e = .returned (.string O2) ∧ ∃ m', Pk w.heap.size w' p L ((⟨#[120]⟩ : ByteArray).extract 0 1) m' ∧ Rf m' true kk (0, false) ∧ m'.g ≤ m.g + 1 ∧ m'.sent = m.sent + 1 ∧ m'.w = 300 ∧ m'.h = 7 ∧ Below w.heap.size W w') := Lib.hid (fun W m q hr hg hs hw hh => by
      have hd := does_off hr
      obtain ⟨t1, t2⟩ := take_opt m 254 kk k255 ((⟨#[120]⟩ : ByteArray).extract 0 1).data.toList (⟨#[]⟩ : ByteArray).data.toList
      refine (pk_take q 2 254 kk ⟨#[]⟩ (by omega) (by omega) (by omega) (by omega)).mono ?_
      rintro e w' ⟨rfl, a1, a2, a3⟩
      rw [t1] at a1
      rw [t2, show m.optionT 254 kk = _ from hd.text, hO2]
      exact ⟨rfl, _, a1, hd.rf, hd.g, hd.sent, hd.w.trans hw, hd.h.trans hh, a2⟩)
    have HV : Hid (∀ W m, Pk w.heap.size W p L ((⟨#[120]⟩ : ByteArray).extract 0 1) m → Rf m true kk (0, false) → m.g < 10000 → m.sent < 10000 → m.w = 300 → m.h = 7 →
        Calls Try.prog 15 #[.pointer (some ⟨p, 0, none⟩), .agg #[.int .i64 2, .int .i64 254, .int .i64 (kk : Int), .string ⟨#[]⟩]] W fun e w' =>
          e = .returned (.string ⟨#[]⟩) ∧ ∃ m', Pk w.heap.size w' p L ((⟨#[120]⟩ : ByteArray).extract 0 1) m' ∧ Rf m' true kk (0, false) ∧ m'.g ≤ m.g + 1 ∧ m'.sent = m.sent ∧ m'.w = 300 ∧ m'.h = 7 ∧ Below w.heap.size W w') := Lib.hid (fun W m q hr hg hs hw hh => by
      have hd := does_none hr
      obtain ⟨t1, t2⟩ := take_opt m 254 kk k255 ((⟨#[120]⟩ : ByteArray).extract 0 1).data.toList (⟨#[]⟩ : ByteArray).data.toList
      refine (pk_take q 2 254 kk ⟨#[]⟩ (by omega) (by omega) (by omega) (by omega)).mono ?_
      rintro e w' ⟨rfl, a1, a2, a3⟩
      rw [t1] at a1
      rw [t2, show m.optionT 254 kk = _ from hd.text]
      exact ⟨rfl, _, a1, hd.rf, hd.g, hd.sent, hd.w.trans hw, hd.h.trans hh, a2⟩)
    have H0 : Hid (∃ m, Pk w.heap.size wc p L ((⟨#[120]⟩ : ByteArray).extract 0 1) m ∧ Rf m true kk (0, false) ∧ m.g ≤ 0 ∧ m.sent = 0 ∧ m.w = 300 ∧ m.h = 7) := Lib.hid ⟨_, HP2.out, Rf.new _ _ _ _, by decide, by decide, by decide, by decide⟩
    clear hSZ hO1 hO2 z0 z1 HP2 hag k255 hone
    go_wp2_with fail
    go_loopw [9] (fun i wr => ∃ k : Nat, i = .int .i64 k ∧ k ≤ n ∧ Hid (∃ m, Pk w.heap.size wr p L ((⟨#[120]⟩ : ByteArray).extract 0 1) m ∧ Rf m true kk (0, false) ∧ m.g ≤ 3 * k ∧ m.sent = 2 * k ∧ m.w = 300 ∧ m.h = 7) ∧ Hid (Below w.heap.size w wr)) (fun i _ => n - (intOf i).toNat)
    case atStart => exact ⟨0, rfl, by omega, H0, HB2⟩
    case round =>
      obtain ⟨k, rfl, hk, hm, hw⟩ := hrel
      clear H0 HB2
      by_cases hlt : k < n
      · have hki : decide ((k : Int) < (n : Int)) = true := by simp; omega
        obtain ⟨m, q, hr, hg, hs, hwd, hht⟩ := hm.out
        have HC1 := Lib.hid (HT.out _ m q hr (by omega) (by omega) hwd hht)
        have HB1 := Lib.hid (And.intro hg hs)
        clear q hr hg hs hwd hht hm
        go_wp2_with fail
        refine HC1.out.mono ?_
        rintro e w3 ⟨rfl, m3, q, hr, hg, hs, hwd, hht, hb⟩
        have HW3 := Lib.hid (hw.out.trans (hb.mono (Nat.le_refl _)))
        have HC2 := Lib.hid (HU.out _ m3 q hr (by have := HB1.out; omega) (by have := HB1.out; omega) hwd hht)
        have HB2 := Lib.hid (And.intro hg hs)
        clear q hr hg hs hwd hht hb hw HC1
        go_wp2_with fail
        refine HC2.out.mono ?_
        rintro e w4 ⟨rfl, m4, q, hr, hg, hs, hwd, hht, hb⟩
        have HW4 := Lib.hid (HW3.out.trans hb)
        have HC3 := Lib.hid (HV.out _ m4 q hr (by have := HB1.out; have := HB2.out; omega) (by have := HB1.out; have := HB2.out; omega) hwd hht)
        have HB3 := Lib.hid (And.intro hg hs)
        clear q hr hg hs hwd hht hb HW3 HC2
        go_wp2_with fail
        refine HC3.out.mono ?_
        rintro e w5 ⟨rfl, m5, q, hr, hg, hs, hwd, hht, hb⟩
        have HW5 := Lib.hid (HW4.out.trans hb)
        have HM5 := Lib.hid (And.intro q (And.intro hr (And.intro hwd hht)))
        have HB4 := Lib.hid (And.intro hg hs)
        clear q hr hg hs hwd hht hb HW4 HC3
        go_wp2_with fail
        refine (HR1.out _).mono ?_
        rintro e w6 ⟨rfl, hb⟩
        have HM6 := Lib.hid (HM5.out.1.below hb)
        have HW6 := Lib.hid (HW5.out.trans (hb.mono HW5.out.size))
        clear hb
        go_wp2_with fail
        refine (HR2.out _).mono ?_
        rintro e w7 ⟨rfl, hb⟩
        have HM7 := Lib.hid (HM6.out.below hb)
        have HW7 := Lib.hid (HW6.out.trans (hb.mono HW6.out.size))
        clear hb
        go_wp2_with fail
        go_roundw
        case rel => exact ⟨k + 1, by go_num, by omega, Lib.hid ⟨m5, HM7.out, HM5.out.2.1, by have := HB1.out; have := HB2.out; have := HB3.out; have := HB4.out; omega, by have := HB1.out; have := HB2.out; have := HB3.out; have := HB4.out; omega, HM5.out.2.2.1, HM5.out.2.2.2⟩, HW7⟩
        case measure => simp [intOf]; omega
      · have hki : decide ((k : Int) < (n : Int)) = false := by simp; omega
        obtain ⟨m, q, hr, hg, hs, hwd, hht⟩ := hm.out
        have hps := psent p L _ _ 0 _ wr q.ac
        rw [hs] at hps
        have HPS := Lib.hid hps
        clear q hr hg hs hwd hht hm hps
        go_wp2_with fail
        refine HPS.out.mono ?_
        rintro e w3 ⟨rfl, rfl⟩
        go_wp2_with fail
        go_ret
        exact ⟨by rw [show (2 * (k : Int) == 2 * (n : Int)) = true by simp; omega]; rfl, hw.out⟩

set_option maxHeartbeats 800000 in
theorem off_out (o n : Int) (h : n < 0 ∨ 30 < n) (w : World) :
    Calls Try.prog 7 #[.int .i64 o, .int .i64 n] w fun e w' => e = .returned (.bool true) ∧ Below w.heap.size w w' := by
  rcases h with h | h
  · have d1 : decide (n < 0) = true := by simp; omega
    clear h
    go_enter Try.func7, Try.ntmps7
    go_wp2_with fail
    refine (alive_any _).mono ?_
    rintro e w1 ⟨rfl, hb⟩
    go_wp2_with fail
    go_ret
    exact ⟨rfl, hb⟩
  · have d1 : decide (n < 0) = false := by simp; omega
    have d2 : decide (30 < n) = true := by simp; omega
    clear h
    go_enter Try.func7, Try.ntmps7
    go_wp2_with fail
    refine (alive_any _).mono ?_
    rintro e w1 ⟨rfl, hb⟩
    go_wp2_with fail
    go_ret
    exact ⟨rfl, hb⟩

theorem walk_PactOff (o : Int) (wo : (Lit.int .i64 o).wf = true) (n : Int) (wn : (Lit.int .i64 n).wf = true) (w : World) :
    Calls Try.prog 7 #[.int .i64 o, .int .i64 n] w fun e w' => e = .returned (.bool true) ∧ Below w.heap.size w w' := by
  by_cases h : n < 0 ∨ 30 < n
  · exact off_out o n h w
  · obtain ⟨k, rfl⟩ : ∃ k : Nat, n = (k : Int) := ⟨n.toNat, by omega⟩
    obtain ⟨h0, h1⟩ := wf_bounds wo
    exact off_good o k w (by omega) h0 h1

end Go.Proofs.Ytmkgcmnimpkmjaa
