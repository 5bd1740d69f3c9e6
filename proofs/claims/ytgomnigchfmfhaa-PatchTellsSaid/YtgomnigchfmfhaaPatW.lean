/- patch: the document's Valid, Size. By program (rgn/XPatW.py). Own work. -/
import Derived.Test.YtgomnigchfmfhaaPatV
import Derived.IntWalk
namespace Go.Proofs.Ytgomnigchfmfhaa
set_option linter.unusedVariables false
set_option linter.unusedSimpArgs false
open Go.RowKit

set_option maxRecDepth 100000 in
set_option maxHeartbeats 12800000 in
theorem ref_Valid (s : Scr) (A : Option Addr) (c : Nat) (w : World) (hA : s.at' w A) (hn8 : s.n ≤ 1099511627776) :
    Calls Try.prog 8 #[s.v A c] w fun e w' => e = .returned (.bool (validB s)) ∧ Below w.heap.size w w' := by
  obtain ⟨W0, hW0, hb0, q1⟩ := scr_box w (s.cs A c) 24
  obtain ⟨p, hp⟩ : ∃ p, p = w.heap.size := ⟨_, rfl⟩
  rw [← hp] at q1
  have HB0 := Lib.hid hb0
  have Q1 := Lib.hid q1
  have HA := Lib.hid (hA.keep (Keep.of_below _ hb0))
  have HL := Lib.hid (validB_iff s)
  have HE := Lib.hid (fun V => ends_any s.W s.H V)
  generalize validB s = vb at HL ⊢
  have a0 := cell_at q1 0; have a1 := cell_at q1 1; have a2 := cell_at q1 2; have a3 := cell_at q1 3; have a4 := cell_at q1 4; have a5 := cell_at q1 5
  clear hb0 q1 hA
  obtain ⟨W, H, n, F, X, Y, hi⟩ := s
  simp only [Scr.v, Scr.cs, Scr.at'] at hW0 a0 a1 a2 a3 a4 a5 HA HE Q1 hn8 ⊢
  simp at a0 a1 a2 a3 a4 a5
  obtain ⟨We, hWe⟩ : ∃ We, min (max W 2) 40 = We := ⟨_, rfl⟩
  obtain ⟨He, hHe⟩ : ∃ He, min (max H 1) 20 = He := ⟨_, rfl⟩
  rw [hWe, hHe] at HE

  by_cases hw : We = W
  case neg =>
    have z1 : (We != W) = true := by simpa using hw
    have z2 : (We == W) = false := by simpa using hw
    have HF : Hid (vb = false) := Lib.hid (by cases hq : vb with | false => rfl | true => exact absurd (HL.out.1 hq) (fun h => by have e : min (max W 2) 40 = W := h.w; omega))
    clear hWe hHe
    clear HL HA
    go_enter Try.func8, Try.ntmps8
    go_upto_region 1 with fail
    rw [← hW0, ← hp]
    clear hW0 hp
    go_wp2_with fail
    refine (HE.out _).mono ?_
    rintro e w1 ⟨rfl, hw1⟩
    rw [hw1]
    clear hw1 w1
    go_wp2_with fail
    go_ret
    exact ⟨by rw [HF.out]; rfl, HB0.out⟩
  subst hw
  by_cases hh : He = H
  case neg =>
    have z0 : (We != We) = false := by simp
    have z1 : (He != H) = true := by simpa using hh
    have z2 : (He == H) = false := by simpa using hh
    have HF : Hid (vb = false) := Lib.hid (by cases hq : vb with | false => rfl | true => exact absurd (HL.out.1 hq) (fun h => by have e : min (max H 1) 20 = H := h.h; omega))
    clear hWe hHe
    clear HL HA
    go_enter Try.func8, Try.ntmps8
    go_upto_region 1 with fail
    rw [← hW0, ← hp]
    clear hW0 hp
    go_wp2_with fail
    refine (HE.out _).mono ?_
    rintro e w1 ⟨rfl, hw1⟩
    rw [hw1]
    clear hw1 w1
    go_wp2_with fail
    go_ret
    exact ⟨by rw [HF.out]; rfl, HB0.out⟩
  subst hh
  obtain ⟨wn, hwn⟩ : ∃ wn : Nat, We = (wn : Int) := ⟨We.toNat, by omega⟩
  obtain ⟨hn, hhn⟩ : ∃ hn : Nat, He = (hn : Int) := ⟨He.toNat, by omega⟩
  subst hwn hhn
  have w40 : 2 ≤ wn ∧ wn ≤ 40 := by omega
  have h20 : 1 ≤ hn ∧ hn ≤ 20 := by omega
  have h8 : wn * hn ≤ 800 := Nat.mul_le_mul w40.2 h20.2
  obtain ⟨P, hP⟩ : ∃ P, P = wn * hn := ⟨_, rfl⟩
  have hPi : (wn : Int) * (hn : Int) = (P : Int) := by rw [hP]; exact (Int.natCast_mul wn hn).symm
  have hwr : IntKind.i64.wrap ((wn : Int) * (hn : Int)) = (P : Int) := by rw [hPi]; exact IntWalk.i64_in _ (by omega)
  have z0 : ((wn : Int) != (wn : Int)) = false := by simp
  have z9 : ((hn : Int) != (hn : Int)) = false := by simp
  have HPI := Lib.hid hPi
  clear hPi hP h8 hWe hHe
  by_cases hnp : n = P
  case neg =>
    have z1 : ((n : Int) != (P : Int)) = true := by simp; omega
    have z2 : ((n : Int) == (P : Int)) = false := by simp; omega
    have HF : Hid (vb = false) := Lib.hid (by cases hq : vb with | false => rfl | true => exact absurd (HL.out.1 hq) (fun h => by have e : (n : Int) = (wn : Int) * (hn : Int) := h.n; rw [HPI.out] at e; omega))
    clear HL HA
    go_enter Try.func8, Try.ntmps8
    go_upto_region 1 with fail
    rw [← hW0, ← hp]
    clear hW0 hp
    go_wp2_with fail
    refine (HE.out _).mono ?_
    rintro e w1 ⟨rfl, hw1⟩
    rw [hw1]
    clear hw1 w1
    go_wp2_with fail
    go_ret
    exact ⟨by rw [HF.out]; rfl, HB0.out⟩
  subst hnp
  have z10 : ((n : Int) != (n : Int)) = false := by simp
  by_cases hx0 : X < 0
  case pos =>
    have HF : Hid (vb = false) := Lib.hid (by cases hq : vb with | false => rfl | true => exact absurd (HL.out.1 hq) (fun h => by have e : 0 ≤ X := h.x.1; omega))
    clear HL HA
    go_enter Try.func8, Try.ntmps8
    go_upto_region 1 with fail
    rw [← hW0, ← hp]
    clear hW0 hp
    go_wp2_with fail
    refine (HE.out _).mono ?_
    rintro e w1 ⟨rfl, hw1⟩
    rw [hw1]
    clear hw1 w1
    go_wp2_with fail
    go_ret
    exact ⟨by rw [HF.out]; rfl, HB0.out⟩
  by_cases hxw : X ≥ (wn : Int)
  case pos =>
    have HF : Hid (vb = false) := Lib.hid (by cases hq : vb with | false => rfl | true => exact absurd (HL.out.1 hq) (fun h => by have e : X < (wn : Int) := h.x.2; omega))
    clear HL HA
    go_enter Try.func8, Try.ntmps8
    go_upto_region 1 with fail
    rw [← hW0, ← hp]
    clear hW0 hp
    go_wp2_with fail
    refine (HE.out _).mono ?_
    rintro e w1 ⟨rfl, hw1⟩
    rw [hw1]
    clear hw1 w1
    go_wp2_with fail
    go_ret
    exact ⟨by rw [HF.out]; rfl, HB0.out⟩
  by_cases hy0 : Y < 0
  case pos =>
    have HF : Hid (vb = false) := Lib.hid (by cases hq : vb with | false => rfl | true => exact absurd (HL.out.1 hq) (fun h => by have e : 0 ≤ Y := h.y.1; omega))
    clear HL HA
    go_enter Try.func8, Try.ntmps8
    go_upto_region 1 with fail
    rw [← hW0, ← hp]
    clear hW0 hp
    go_wp2_with fail
    refine (HE.out _).mono ?_
    rintro e w1 ⟨rfl, hw1⟩
    rw [hw1]
    clear hw1 w1
    go_wp2_with fail
    go_ret
    exact ⟨by rw [HF.out]; rfl, HB0.out⟩
  by_cases hyh : Y ≥ (hn : Int)
  case pos =>
    have HF : Hid (vb = false) := Lib.hid (by cases hq : vb with | false => rfl | true => exact absurd (HL.out.1 hq) (fun h => by have e : Y < (hn : Int) := h.y.2; omega))
    clear HL HA
    go_enter Try.func8, Try.ntmps8
    go_upto_region 1 with fail
    rw [← hW0, ← hp]
    clear hW0 hp
    go_wp2_with fail
    refine (HE.out _).mono ?_
    rintro e w1 ⟨rfl, hw1⟩
    rw [hw1]
    clear hw1 w1
    go_wp2_with fail
    go_ret
    exact ⟨by rw [HF.out]; rfl, HB0.out⟩

  have HX : Hid ((0 ≤ X ∧ X < (wn : Int)) ∧ 0 ≤ Y ∧ Y < (hn : Int)) := Lib.hid ⟨⟨by omega, by omega⟩, by omega, by omega⟩
  have HW : Hid (min (max (wn : Int) 2) 40 = (wn : Int) ∧ min (max (hn : Int) 1) 20 = (hn : Int)) := Lib.hid ⟨by omega, by omega⟩
  go_enter Try.func8, Try.ntmps8
  go_upto_region 1 with fail
  rw [← hW0, ← hp]
  clear hW0 hp
  go_wp2_with fail
  refine (HE.out _).mono ?_
  rintro e w1 ⟨rfl, hw1⟩
  rw [hw1]
  clear hw1 w1
  go_wp2_with fail
  go_loopw [5] (fun i wr => ∃ (k : Nat), i = .int .i64 k ∧ k ≤ n ∧ Hid (Below W0.heap.size W0 wr) ∧ Hid (∀ j, j < k → okC (F j))) (fun i _ => n - (intOf i).toNat)
  case atStart => exact ⟨0, rfl, by omega, Lib.hid (Below.refl _ _), Lib.hid (fun j hj => by omega)⟩
  case round =>
    obtain ⟨k, rfl, hk, HB, HC⟩ := hrel
    have K := Keep.of_below (fun _ => False) HB.out
    have b2 : wr.cell? ⟨p, 2, none⟩ = some (.slice A n c) := by have := cell_at (K.heap Q1.out (fun x => x)) 2; simpa using this
    by_cases hlt : k < n
    · obtain ⟨g1, o1, rfl, _, hc1⟩ := (HA.out.keep K).2 (by omega)
      obtain ⟨x0, x1, x2, x3, x4, x5⟩ := six_src hc1 hlt
      have hki : ((k : Int) < (n : Int)) := by omega
      have hk0 : (0 : Int) ≤ (k : Int) := by omega
      have HE1 : Hid (okC (F k) → ∀ j, j < k + 1 → okC (F j)) := Lib.hid (fun e j hj => by
        by_cases h : j = k
        · subst h; exact e
        · exact HC.out j (by omega))
      have HE2 : Hid (¬ okC (F k) → vb = false) := Lib.hid (fun e => by cases hq : vb with | false => rfl | true => exact absurd ((HL.out.1 hq).c k hlt) e)
      generalize F k = r at x0 x1 x2 x3 x4 x5 HE1 HE2
      obtain ⟨r0, ra⟩ := r
      have HV := Lib.hid (fun V => ref_valid ra V (decide ra.ok) rfl)
      clear hc1 K
      by_cases hr0 : r0 < 0
      · have HF := Lib.hid (HE2.out (fun h => by have := h.1.1; simp only at this; omega))
        obtain ⟨r1, r2, r3, r4, r5⟩ := ra
        simp only at x0 x1 x2 x3 x4 x5
        clear HE1 HE2
        go_wp2_with fail
        go_ret
        exact ⟨by rw [HF.out]; rfl, HB0.out.trans (HB.out.mono HB0.out.size)⟩
      by_cases hr1 : r0 > 1114111
      · have HF := Lib.hid (HE2.out (fun h => by have := h.1.2; simp only at this; omega))
        obtain ⟨r1, r2, r3, r4, r5⟩ := ra
        simp only at x0 x1 x2 x3 x4 x5
        clear HE1 HE2
        go_wp2_with fail
        go_ret
        exact ⟨by rw [HF.out]; rfl, HB0.out.trans (HB.out.mono HB0.out.size)⟩
      by_cases ho : ra.ok
      · have HE3 := Lib.hid (HE1.out ⟨⟨by simp only; omega, by simp only; omega⟩, ho⟩)
        rw [decide_eq_true ho] at HV
        clear ho HE1 HE2
        obtain ⟨r1, r2, r3, r4, r5⟩ := ra
        simp only [At.v] at x0 x1 x2 x3 x4 x5 HV
        go_wp2_with fail
        refine (HV.out _).mono ?_
        rintro e w2 ⟨rfl, hb⟩
        have HB2 : Hid (Below W0.heap.size W0 w2) := Lib.hid (HB.out.trans (hb.mono HB.out.size))
        clear hb x0 x1 x2 x3 x4 x5
        go_wp2_with fail
        go_roundw
        case rel => exact ⟨k + 1, by go_num, by omega, HB2, HE3⟩
        case measure => simp [intOf]; omega
      · have HF := Lib.hid (HE2.out (fun h => ho h.2))
        rw [decide_eq_false ho] at HV
        clear ho HE1 HE2
        obtain ⟨r1, r2, r3, r4, r5⟩ := ra
        simp only [At.v] at x0 x1 x2 x3 x4 x5 HV
        go_wp2_with fail
        refine (HV.out _).mono ?_
        rintro e w2 ⟨rfl, hb⟩
        have HB2 : Hid (Below W0.heap.size W0 w2) := Lib.hid (HB.out.trans (hb.mono HB.out.size))
        clear hb x0 x1 x2 x3 x4 x5
        go_wp2_with fail
        go_ret
        exact ⟨by rw [HF.out]; rfl, HB0.out.trans (HB2.out.mono HB0.out.size)⟩
    · obtain rfl : k = n := by omega
      have hki : ¬ ((k : Int) < (k : Int)) := by omega
      have HF : Hid (vb = true) := Lib.hid (HL.out.2 ⟨HW.out.1, HW.out.2, HPI.out.symm, HX.out.1, HX.out.2, HC.out⟩)
      go_wp2_with fail
      go_ret
      exact ⟨by rw [HF.out]; rfl, HB0.out.trans (HB.out.mono HB0.out.size)⟩

set_option maxRecDepth 100000 in
set_option maxHeartbeats 6400000 in
theorem ref_Size (a b : Scr) (A B : Option Addr) (c d : Nat) (w : World) (hA : a.at' w A) (hB : b.at' w B) (hn : sizeB a b = true → a.n = b.n) (hn8 : b.n ≤ 1000) :
    Calls Try.prog 14 #[a.v A c, b.v B d] w fun e w' => e = .returned (.int .i64 (cntN (chg a b) b.n : Nat)) ∧ Below w.heap.size w w' := by
  obtain ⟨W0, hW0, hb0, q1, q2⟩ := scr_boxes w (a.cs A c) (b.cs B d) 24
  obtain ⟨p, hp⟩ : ∃ p, p = w.heap.size := ⟨_, rfl⟩
  rw [← hp] at q1 q2
  have HB0 := Lib.hid hb0
  have Q1 := Lib.hid q1
  have Q2 := Lib.hid q2
  have HCH : Hid (∀ V (k : Nat), Below w.heap.size w V → k < b.n → Calls Try.prog 35 #[a.v A c, b.v B d, .int .i64 k] V fun e w' => e = .returned (.bool (chg a b k)) ∧ Below V.heap.size V w') := Lib.hid (fun V k kk hk =>
    ref_changed a b A B c d k V (hA.keep (Keep.of_below _ kk)) (hB.keep (Keep.of_below _ kk)) hn hk)
  clear hA hB hb0 q1 q2 hn
  generalize chg a b = ch at HCH ⊢
  have HLE := Lib.hid (fun k => cntN_le ch k)
  obtain ⟨W, H, n, F, X, Y, hi⟩ := a
  obtain ⟨W', H', n', F', X', Y', hi'⟩ := b
  simp only [Scr.v, Scr.cs] at hW0 HCH Q1 Q2 hn8 ⊢
  go_enter Try.func14, Try.ntmps14
  go_upto_region 1 with fail
  rw [← hW0, ← hp]
  clear hW0 hp
  go_wp2_with fail
  go_loopw [5, 6] (fun s i wr => ∃ (k t : Nat), k ≤ n' ∧ i = .int .i64 k ∧ s = .int .i64 t ∧ Hid (t = cntN ch k) ∧ t ≤ k ∧ Hid (Below W0.heap.size W0 wr)) (fun _ i _ => n' - (intOf i).toNat)
  case atStart => exact ⟨0, 0, by omega, rfl, rfl, Lib.hid rfl, by omega, Lib.hid (Below.refl _ _)⟩
  case round =>
    obtain ⟨k, t, hk, rfl, rfl, HT, ht, HB⟩ := hrel
    have K := Keep.of_below (fun _ => False) HB.out
    have R1 := Lib.hid (K.heap Q1.out (fun x => x))
    have R2 := Lib.hid (K.heap Q2.out (fun x => x))
    have a0 := cell_at R1.out 0; have a1 := cell_at R1.out 1; have a2 := cell_at R1.out 2; have a3 := cell_at R1.out 3; have a4 := cell_at R1.out 4; have a5 := cell_at R1.out 5
    have b0 := cell_at R2.out 0; have b1 := cell_at R2.out 1; have b2 := cell_at R2.out 2; have b3 := cell_at R2.out 3; have b4 := cell_at R2.out 4; have b5 := cell_at R2.out 5
    simp at a0 a1 a2 a3 a4 a5 b0 b1 b2 b3 b4 b5
    have HBW : Hid (Below w.heap.size w wr) := Lib.hid (HB0.out.trans (HB.out.mono HB0.out.size))
    clear K
    by_cases hlt : k < n'
    · have hki : ((k : Int) < (n' : Int)) := by omega
      have hk0 : (0 : Int) ≤ (k : Int) := by omega
      go_wp2_with fail
      refine (HCH.out _ k HBW.out hlt).mono ?_
      rintro e w3 ⟨rfl, hb⟩
      have HB3 : Hid (Below W0.heap.size W0 w3) := Lib.hid (HB.out.trans (hb.mono HB.out.size))
      clear hb a0 a1 a2 a3 a4 a5 b0 b1 b2 b3 b4 b5
      obtain ⟨cb, hcb⟩ : ∃ cb, ch k = cb := ⟨_, rfl⟩
      have HC1 : Hid (cntN ch (k + 1) = t + if cb = true then 1 else 0) := Lib.hid (by rw [HT.out, ← hcb]; rfl)
      rw [hcb]
      clear hcb
      cases cb
      all_goals
        go_wp2_with fail
        go_roundw
        case rel => first | exact ⟨k + 1, t, by omega, by go_num, rfl, Lib.hid (by rw [HC1.out]; simp), by omega, HB3⟩ | exact ⟨k + 1, t + 1, by omega, by go_num, by go_num, Lib.hid (by rw [HC1.out]; simp), by omega, HB3⟩
        case measure => simp [intOf]; omega
    · obtain rfl : k = n' := by omega
      have hki : ¬ ((k : Int) < (k : Int)) := by omega
      go_wp2_with fail
      go_ret
      exact ⟨by rw [← HT.out]; rfl, HBW.out⟩

end Go.Proofs.Ytgomnigchfmfhaa
