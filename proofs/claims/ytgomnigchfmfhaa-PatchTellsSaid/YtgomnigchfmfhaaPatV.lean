/- patch: the document's changed, Same, Valid, Size. By program (rgn/XPatV.py). Own work. -/
import Derived.Test.YtgomnigchfmfhaaPat4
namespace Go.Proofs.Ytgomnigchfmfhaa
set_option linter.unusedVariables false
set_option linter.unusedSimpArgs false
open Go.RowKit

theorem chg_not {a b : Scr} {k : Nat} (h : a.W ≠ b.W ∨ a.H ≠ b.H) : chg a b k = true := chg_size (by unfold sizeB; exact decide_eq_false (fun e => by rcases h with h | h; exact h e.1; exact h e.2)) k
theorem scr_bb {w W0 : World} {p : Nat} {x y : Array Value} {t : TypeId} (q1 : W0.heap[p]? = some (.cells x t (0, 0))) (q2 : W0.heap[p + 1]? = some (.cells y t (0, 0))) : (∀ i, W0.cell? ⟨p, i, none⟩ = x[i]?) ∧ (∀ i, W0.cell? ⟨p + 1, i, none⟩ = y[i]?) :=
  ⟨fun i => cell_at q1 i, fun i => cell_at q2 i⟩

set_option maxRecDepth 100000 in
set_option maxHeartbeats 12800000 in
theorem ref_changed (a b : Scr) (A B : Option Addr) (c d : Nat) (k : Nat) (w : World) (hA : a.at' w A) (hB : b.at' w B) (hn : sizeB a b = true → a.n = b.n) (hk2 : k < b.n) :
    Calls Try.prog 35 #[a.v A c, b.v B d, .int .i64 k] w fun e w' => e = .returned (.bool (chg a b k)) ∧ Below w.heap.size w w' := by
  obtain ⟨W0, hW0, hb0, q1, q2⟩ := scr_boxes w (a.cs A c) (b.cs B d) 24
  obtain ⟨p, hp⟩ : ∃ p, p = w.heap.size := ⟨_, rfl⟩
  rw [← hp] at q1 q2
  have HB0 := Lib.hid hb0
  have a0 := cell_at q1 0; have a1 := cell_at q1 1; have a2 := cell_at q1 2; have a3 := cell_at q1 3; have a4 := cell_at q1 4; have a5 := cell_at q1 5
  have b0 := cell_at q2 0; have b1 := cell_at q2 1; have b2 := cell_at q2 2; have b3 := cell_at q2 3; have b4 := cell_at q2 4; have b5 := cell_at q2 5
  have HA := Lib.hid (hA.keep (Keep.of_below _ hb0))
  have HB := Lib.hid (hB.keep (Keep.of_below _ hb0))
  have HR : Hid ((a.W ≠ b.W ∨ a.H ≠ b.H → chg a b k = true) ∧ (a.W = b.W → a.H = b.H → a.F k = b.F k → chg a b k = false) ∧ (a.F k ≠ b.F k → chg a b k = true)) := Lib.hid ⟨chg_not, fun h1 h2 h3 => by
    rw [chg_same (show sizeB a b = true from by unfold sizeB; exact decide_eq_true ⟨h1, h2⟩), decide_eq_true h3]; rfl, fun h => by
    unfold chg; rw [decide_eq_false h, Bool.and_false]; rfl⟩
  have HK1 : Hid (a.W = b.W → a.H = b.H → k < a.n) := Lib.hid (fun h1 h2 => by rw [hn (by unfold sizeB; exact decide_eq_true ⟨h1, h2⟩)]; exact hk2)
  have hki2 : ((k : Int) < (b.n : Int)) := by omega
  have hk0 : (0 : Int) ≤ (k : Int) := by omega
  clear hb0 q1 q2 hA hB hn
  obtain ⟨W, H, n, F, X, Y, hi⟩ := a
  obtain ⟨W', H', n', F', X', Y', hi'⟩ := b
  simp only [Scr.v, Scr.cs, Scr.at'] at hW0 a0 a1 a2 a3 a4 a5 b0 b1 b2 b3 b4 b5 HA HB HR HK1 hki2 hk2 ⊢
  simp at a0 a1 a2 a3 a4 a5 b0 b1 b2 b3 b4 b5
  obtain ⟨res, hres⟩ : ∃ res, res = chg ⟨W, H, n, F, X, Y, hi⟩ ⟨W', H', n', F', X', Y', hi'⟩ k := ⟨_, rfl⟩
  rw [← hres] at HR ⊢
  clear hres

  by_cases hw : W = W'
  · subst hw
    have e1 : (W == W) = true := by simp
    by_cases hh : H = H'
    · subst hh
      have e2 : (H == H) = true := by simp
      have hk1 := HK1.out rfl rfl
      have hki1 : ((k : Int) < (n : Int)) := by omega
      obtain ⟨g1, o1, rfl, -, hc1⟩ := HA.out.2 (by omega)
      obtain ⟨g2, o2, rfl, -, hc2⟩ := HB.out.2 (by omega)
      obtain ⟨x0, x1, x2, x3, x4, x5⟩ := six_src hc1 hk1
      obtain ⟨y0, y1, y2, y3, y4, y5⟩ := six_src hc2 hk2
      have HR1 := Lib.hid (HR.out.2.1 rfl rfl)
      have HR2 := Lib.hid HR.out.2.2
      clear hc1 hc2 hk1 hk2 HA HB HR HK1
      generalize F k = r at x0 x1 x2 x3 x4 x5 HR1 HR2
      generalize F' k = s at y0 y1 y2 y3 y4 y5 HR1 HR2
      obtain ⟨r0, ⟨r1, r2, r3, r4, r5⟩⟩ := r
      obtain ⟨s0, ⟨s1, s2, s3, s4, s5⟩⟩ := s
      simp only at x0 x1 x2 x3 x4 x5 y0 y1 y2 y3 y4 y5
      by_cases hrs : (⟨r0, ⟨r1, r2, r3, r4, r5⟩⟩ : CellM) = ⟨s0, ⟨s1, s2, s3, s4, s5⟩⟩
      · have HF := Lib.hid (HR1.out hrs)
        clear HR1 HR2
        injection hrs with e0 f1
        injection f1 with f1 f2 f3 f4 f5
        subst e0 f1 f2 f3 f4 f5

        go_enter Try.func35, Try.ntmps35
        go_upto_region 1 with fail
        rw [← hW0, ← hp]
        clear hW0 hp
        go_wp2_with fail
        go_quiet (fail)
        go_wp2_with fail
        go_ret
        exact ⟨by rw [HF.out]; rfl, by repeat (first | exact HB0.out | refine Below.drewN' ?_ _)⟩

      · have HF := Lib.hid (HR2.out hrs)
        have h6 := cell_ne6 hrs
        clear hrs HR1 HR2
        rcases h6 with e0 | ⟨rfl, e0 | ⟨rfl, e0 | ⟨rfl, e0 | ⟨rfl, e0 | ⟨rfl, e0⟩⟩⟩⟩⟩
        all_goals
          go_enter Try.func35, Try.ntmps35
          go_upto_region 1 with fail
          rw [← hW0, ← hp]
          clear hW0 hp
          go_wp2_with fail
          go_quiet (fail)
          go_wp2_with fail
          go_ret
          exact ⟨by rw [HF.out]; rfl, by repeat (first | exact HB0.out | refine Below.drewN' ?_ _)⟩

    · have HF := Lib.hid (HR.out.1 (.inr hh))
      have e2 : (H == H') = false := by simpa using hh
      have e3 : (H != H') = true := by simpa using hh
      clear hh HR HA HB HK1
      go_enter Try.func35, Try.ntmps35
      go_upto_region 1 with fail
      rw [← hW0, ← hp]
      clear hW0 hp
      go_wp2_with fail
      go_quiet (fail)
      go_wp2_with fail
      go_ret
      exact ⟨by rw [HF.out]; rfl, by repeat (first | exact HB0.out | refine Below.drewN' ?_ _)⟩

  · have HF := Lib.hid (HR.out.1 (.inl hw))
    have e1 : (W == W') = false := by simpa using hw
    have e3 : (W != W') = true := by simpa using hw
    clear hw HR HA HB HK1
    go_enter Try.func35, Try.ntmps35
    go_upto_region 1 with fail
    rw [← hW0, ← hp]
    clear hW0 hp
    go_wp2_with fail
    go_quiet (fail)
    go_wp2_with fail
    go_ret
    exact ⟨by rw [HF.out]; rfl, by repeat (first | exact HB0.out | refine Below.drewN' ?_ _)⟩

set_option maxRecDepth 100000 in
set_option maxHeartbeats 12800000 in
theorem ref_Same (a b : Scr) (A B : Option Addr) (c d : Nat) (w : World) (hA : a.at' w A) (hB : b.at' w B) (hn8 : a.n ≤ 1099511627776) :
    Calls Try.prog 11 #[a.v A c, b.v B d] w fun e w' => e = .returned (.bool (likeB a b)) ∧ Below w.heap.size w w' := by
  obtain ⟨W0, hW0, hb0, q1, q2⟩ := scr_boxes w (a.cs A c) (b.cs B d) 24
  obtain ⟨p, hp⟩ : ∃ p, p = w.heap.size := ⟨_, rfl⟩
  rw [← hp] at q1 q2
  have HB0 := Lib.hid hb0
  have a0 := cell_at q1 0; have a1 := cell_at q1 1; have a2 := cell_at q1 2; have a3 := cell_at q1 3; have a4 := cell_at q1 4; have a5 := cell_at q1 5
  have b0 := cell_at q2 0; have b1 := cell_at q2 1; have b2 := cell_at q2 2; have b3 := cell_at q2 3; have b4 := cell_at q2 4; have b5 := cell_at q2 5
  have HA := Lib.hid (hA.keep (Keep.of_below _ hb0))
  have HB := Lib.hid (hB.keep (Keep.of_below _ hb0))
  have HL := Lib.hid (likeB_iff a b)
  generalize likeB a b = lb at HL ⊢
  clear hb0 q1 q2 hA hB
  obtain ⟨W, H, n, F, X, Y, hi⟩ := a
  obtain ⟨W', H', n', F', X', Y', hi'⟩ := b
  simp only [Scr.v, Scr.cs, Scr.at'] at hW0 a0 a1 a2 a3 a4 a5 b0 b1 b2 b3 b4 b5 HA HB hn8 ⊢
  simp at a0 a1 a2 a3 a4 a5 b0 b1 b2 b3 b4 b5

  by_cases hw : W = W'
  · subst hw
    have ew : (W == W) = true := by simp
    by_cases hh : H = H'
    · subst hh
      have eh : (H == H) = true := by simp
      by_cases hx : X = X'
      · subst hx
        have ex : (X == X) = true := by simp
        by_cases hy : Y = Y'
        · subst hy
          have ey : (Y == Y) = true := by simp
          by_cases hd : hi = hi'
          · subst hd
            have ed : (hi == hi) = true := by simp
            by_cases hn : n = n'
            · subst hn
              have en : ((n : Int) == (n : Int)) = true := by simp
              go_enter Try.func11, Try.ntmps11
              go_upto_region 1 with fail
              rw [← hW0, ← hp]
              clear hW0 hp
              go_wp2_with fail
              go_loopw [5] (fun i wr => ∃ (k q : Nat), i = .int .i64 k ∧ k ≤ n ∧ wr = W0.drewN q ∧ Hid (∀ j, j < k → F j = F' j)) (fun i _ => n - (intOf i).toNat)
              case atStart => exact ⟨0, 0, rfl, by omega, rfl, Lib.hid (fun j hj => by omega)⟩
              case round =>
                obtain ⟨k, q, rfl, hk, rfl, HE⟩ := hrel
                by_cases hlt : k < n
                · obtain ⟨g1, o1, rfl, _, hc1⟩ := HA.out.2 (by omega)
                  obtain ⟨g2, o2, rfl, _, hc2⟩ := HB.out.2 (by omega)
                  obtain ⟨x10, x11, x12, x13, x14, x15⟩ := six_src hc1 hlt
                  obtain ⟨x20, x21, x22, x23, x24, x25⟩ := six_src hc2 hlt
                  have hki : ((k : Int) < (n : Int)) := by omega
                  have hk0 : (0 : Int) ≤ (k : Int) := by omega
                  have HE1 : Hid (F k = F' k → ∀ j, j < k + 1 → F j = F' j) := Lib.hid (fun e j hj => by
                    by_cases h : j = k
                    · subst h; exact e
                    · exact HE.out j (by omega))
                  have HE2 : Hid (F k ≠ F' k → lb = false) := Lib.hid (fun e => by cases hq : lb with | false => rfl | true => exact absurd ((HL.out.1 hq).c k hlt) e)
                  generalize F k = r at x10 x11 x12 x13 x14 x15 HE1 HE2
                  generalize F' k = s at x20 x21 x22 x23 x24 x25 HE1 HE2
                  clear hc1 hc2
                  by_cases hrs : r = s
                  · subst hrs
                    have HE3 := Lib.hid (HE1.out rfl)
                    clear HE1 HE2
                    obtain ⟨r0, ⟨r1, r2, r3, r4, r5⟩⟩ := r
                    simp only at x10 x11 x12 x13 x14 x15 x20 x21 x22 x23 x24 x25
                    go_wp2_with fail
                    go_quiet (fail)
                    go_wp2_with fail
                    go_roundw
                    case rel => exact ⟨k + 1, _, by go_num, by omega, rfl, HE3⟩
                    case measure => simp [intOf]; omega
                  · have HF := Lib.hid (HE2.out hrs)
                    clear HE2 HE1
                    obtain ⟨r0, ⟨r1, r2, r3, r4, r5⟩⟩ := r
                    obtain ⟨s0, ⟨s1, s2, s3, s4, s5⟩⟩ := s
                    have h6 := cell_ne6 hrs
                    simp only at x10 x11 x12 x13 x14 x15 x20 x21 x22 x23 x24 x25
                    clear hrs
                    rcases h6 with e0 | ⟨rfl, e0 | ⟨rfl, e0 | ⟨rfl, e0 | ⟨rfl, e0 | ⟨rfl, e0⟩⟩⟩⟩⟩
                    all_goals
                      go_wp2_with fail
                      go_quiet (fail)
                      go_wp2_with fail
                      go_ret
                      exact ⟨by rw [HF.out]; rfl, by repeat (first | exact HB0.out | refine Below.drewN' ?_ _)⟩
                · obtain rfl : k = n := by omega
                  have hki : ¬ ((k : Int) < (k : Int)) := by omega
                  have HF : Hid (lb = true) := Lib.hid (HL.out.2 ⟨rfl, rfl, rfl, rfl, rfl, rfl, HE.out⟩)
                  go_wp2_with fail
                  go_ret
                  exact ⟨by rw [HF.out]; rfl, by repeat (first | exact HB0.out | refine Below.drewN' ?_ _)⟩
            · have HF : Hid (lb = false) := Lib.hid (by cases hq : lb with | false => rfl | true => exact absurd (HL.out.1 hq).n hn)
              have en : ((n : Int) == (n' : Int)) = false := by simp; omega
              have zn : ((n : Int) != (n' : Int)) = true := by simp; omega
              clear hn HL HA HB
              go_enter Try.func11, Try.ntmps11
              go_upto_region 1 with fail
              rw [← hW0, ← hp]
              clear hW0 hp
              go_wp2_with fail
              go_ret
              exact ⟨by rw [HF.out]; rfl, HB0.out⟩
          · have HF : Hid (lb = false) := Lib.hid (by cases hq : lb with | false => rfl | true => exact absurd (HL.out.1 hq).d hd)
            have ed : (hi == hi') = false := by simpa using hd
            have zd : (hi != hi') = true := by simpa using hd
            clear hd HL HA HB
            go_enter Try.func11, Try.ntmps11
            go_upto_region 1 with fail
            rw [← hW0, ← hp]
            clear hW0 hp
            go_wp2_with fail
            go_ret
            exact ⟨by rw [HF.out]; rfl, HB0.out⟩
        · have HF : Hid (lb = false) := Lib.hid (by cases hq : lb with | false => rfl | true => exact absurd (HL.out.1 hq).y hy)
          have ey : (Y == Y') = false := by simpa using hy
          have zy : (Y != Y') = true := by simpa using hy
          clear hy HL HA HB
          go_enter Try.func11, Try.ntmps11
          go_upto_region 1 with fail
          rw [← hW0, ← hp]
          clear hW0 hp
          go_wp2_with fail
          go_ret
          exact ⟨by rw [HF.out]; rfl, HB0.out⟩
      · have HF : Hid (lb = false) := Lib.hid (by cases hq : lb with | false => rfl | true => exact absurd (HL.out.1 hq).x hx)
        have ex : (X == X') = false := by simpa using hx
        have zx : (X != X') = true := by simpa using hx
        clear hx HL HA HB
        go_enter Try.func11, Try.ntmps11
        go_upto_region 1 with fail
        rw [← hW0, ← hp]
        clear hW0 hp
        go_wp2_with fail
        go_ret
        exact ⟨by rw [HF.out]; rfl, HB0.out⟩
    · have HF : Hid (lb = false) := Lib.hid (by cases hq : lb with | false => rfl | true => exact absurd (HL.out.1 hq).h hh)
      have eh : (H == H') = false := by simpa using hh
      have zh : (H != H') = true := by simpa using hh
      clear hh HL HA HB
      go_enter Try.func11, Try.ntmps11
      go_upto_region 1 with fail
      rw [← hW0, ← hp]
      clear hW0 hp
      go_wp2_with fail
      go_ret
      exact ⟨by rw [HF.out]; rfl, HB0.out⟩
  · have HF : Hid (lb = false) := Lib.hid (by cases hq : lb with | false => rfl | true => exact absurd (HL.out.1 hq).w hw)
    have ew : (W == W') = false := by simpa using hw
    have zw : (W != W') = true := by simpa using hw
    clear hw HL HA HB
    go_enter Try.func11, Try.ntmps11
    go_upto_region 1 with fail
    rw [← hW0, ← hp]
    clear hW0 hp
    go_wp2_with fail
    go_ret
    exact ⟨by rw [HF.out]; rfl, HB0.out⟩

end Go.Proofs.Ytgomnigchfmfhaa
