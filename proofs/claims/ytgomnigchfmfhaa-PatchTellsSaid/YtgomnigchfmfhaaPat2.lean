/- patch: slices.Equal of cells, Same. Own work. -/
import Derived.Test.YtgomnigchfmfhaaPat1
namespace Go.Proofs.Ytgomnigchfmfhaa
set_option linter.unusedVariables false
set_option linter.unusedSimpArgs false
open Go.RowKit

theorem flatF_row (F : Nat → CellM) (n k i : Nat) (v : Value) (hk : k < n) (hv : (cellCs (F k))[i]? = some v) : (flatF F n)[k * 6 + i]? = some v := by
  have hi := cellCs_lt hv
  exact (flatF_at F n _ v).2 ⟨by omega, by rw [show (k * 6 + i) / 6 = k from by omega, show (k * 6 + i) % 6 = i from by omega]; exact hv⟩
/-- Are n cells alike? -/
def eqF (F G : Nat → CellM) : Nat → Bool
  | 0 => true
  | n + 1 => eqF F G n && decide (F n = G n)
theorem eqF_iff (F G : Nat → CellM) (n : Nat) : eqF F G n = true ↔ ∀ k, k < n → F k = G k := by
  induction n with
  | zero => exact ⟨fun _ k hk => by omega, fun _ => rfl⟩
  | succ n ih =>
    simp only [eqF, Bool.and_eq_true, ih, decide_eq_true_eq]
    constructor
    · rintro ⟨h1, h2⟩ k hk
      by_cases e : k = n
      · subst e; exact h2
      · exact h1 k (by omega)
    · intro h
      exact ⟨fun k hk => h k (by omega), h n (by omega)⟩
/-- Cells that differ, in the walk's spelling. -/
theorem cell_ne {c d : CellM} (h : c ≠ d) : (c.r == d.r && (c.a.fg == d.a.fg && (c.a.bg == d.a.bg && (c.a.b == d.a.b && (c.a.u == d.a.u && c.a.i == d.a.i))))) = false := by
  cases hq : (c.r == d.r && (c.a.fg == d.a.fg && (c.a.bg == d.a.bg && (c.a.b == d.a.b && (c.a.u == d.a.u && c.a.i == d.a.i))))) with
  | false => rfl
  | true =>
    simp only [Bool.and_eq_true, beq_iff_eq] at hq
    obtain ⟨h1, h2, h3, h4, h5, h6⟩ := hq
    refine absurd ?_ h
    obtain ⟨r, ⟨f, g, b, u, i⟩⟩ := c
    obtain ⟨r', ⟨f', g', b', u', i'⟩⟩ := d
    simp only at h1 h2 h3 h4 h5 h6
    rw [h1, h2, h3, h4, h5, h6]

/-- Cells that differ do so in a first field. -/
theorem cell_ne6 {r0 r1 r2 s0 s1 s2 : Int} {r3 r4 r5 s3 s4 s5 : Bool} (h : (⟨r0, ⟨r1, r2, r3, r4, r5⟩⟩ : CellM) ≠ ⟨s0, ⟨s1, s2, s3, s4, s5⟩⟩) :
    (r0 == s0) = false ∨ (r0 = s0 ∧ ((r1 == s1) = false ∨ (r1 = s1 ∧ ((r2 == s2) = false ∨ (r2 = s2 ∧ ((r3 == s3) = false ∨ (r3 = s3 ∧ ((r4 == s4) = false ∨ (r4 = s4 ∧ (r5 == s5) = false))))))))) := by
  by_cases h0 : r0 = s0
  · refine .inr ⟨h0, ?_⟩
    by_cases h1 : r1 = s1
    · refine .inr ⟨h1, ?_⟩
      by_cases h2 : r2 = s2
      · refine .inr ⟨h2, ?_⟩
        by_cases h3 : r3 = s3
        · refine .inr ⟨h3, ?_⟩
          by_cases h4 : r4 = s4
          · refine .inr ⟨h4, ?_⟩
            by_cases h5 : r5 = s5
            · exact absurd (by rw [h0, h1, h2, h3, h4, h5]) h
            · exact beq_eq_false_iff_ne.2 h5
          · exact .inl (beq_eq_false_iff_ne.2 h4)
        · exact .inl (beq_eq_false_iff_ne.2 h3)
      · exact .inl (beq_eq_false_iff_ne.2 h2)
    · exact .inl (beq_eq_false_iff_ne.2 h1)
  · exact .inl (beq_eq_false_iff_ne.2 h0)

/-- The six cells of place k. -/
structure SixS (w : World) (g o : Nat) (k : Nat) (c : CellM) : Prop where
  x0 : w.cell? ⟨g, o + k * 6, none⟩ = some (.int .i32 c.r)
  x1 : w.cell? ⟨g, o + k * 6 + 1, none⟩ = some (.int .i64 c.a.fg)
  x2 : w.cell? ⟨g, o + k * 6 + 2, none⟩ = some (.int .i64 c.a.bg)
  x3 : w.cell? ⟨g, o + k * 6 + 3, none⟩ = some (.bool c.a.b)
  x4 : w.cell? ⟨g, o + k * 6 + 4, none⟩ = some (.bool c.a.u)
  x5 : w.cell? ⟨g, o + k * 6 + 5, none⟩ = some (.bool c.a.i)
theorem six_src {w : World} {g o n k : Nat} {F : Nat → CellM} (hc : ∀ j v, (flatF F n)[j]? = some v → w.cell? ⟨g, o + j, none⟩ = some v) (hk : k < n) : SixS w g o k (F k) :=
  ⟨hc _ _ (flatF_row F n k 0 _ hk rfl), hc _ _ (flatF_row F n k 1 _ hk rfl), hc _ _ (flatF_row F n k 2 _ hk rfl), hc _ _ (flatF_row F n k 3 _ hk rfl), hc _ _ (flatF_row F n k 4 _ hk rfl), hc _ _ (flatF_row F n k 5 _ hk rfl)⟩

set_option maxRecDepth 100000 in
set_option maxHeartbeats 3200000 in
theorem cells_Equal (A B : Option Addr) (n m c d : Nat) (F G : Nat → CellM) (w : World) (hA : Src w A (n * 6) (flatF F n)) (hB : Src w B (m * 6) (flatF G m)) (hn : n ≤ 1099511627776) :
    Calls Try.prog 34 #[.slice A n c, .slice B m d] w fun e w' => e = .returned (.bool (decide (n = m) && eqF F G n)) ∧ Below w.heap.size w w' := by
  by_cases hnm : n = m
  · subst hnm
    rw [show (decide (n = n) && eqF F G n) = eqF F G n from by simp]
    have HA := Lib.hid hA
    have HB := Lib.hid hB
    clear hA hB
    go_enter Try.func34, Try.ntmps34
    go_wp2_with fail
    go_loopw [13] (fun i wr => ∃ (k q : Nat), i = .int .i64 k ∧ k ≤ n ∧ wr = w.drewN q ∧ Hid (∀ j, j < k → F j = G j)) (fun i _ => n - (intOf i).toNat)
    case atStart => exact ⟨0, 0, rfl, by omega, rfl, Lib.hid (fun j hj => by omega)⟩
    case round =>
      obtain ⟨k, q, rfl, hk, rfl, HE⟩ := hrel
      by_cases hlt : k < n
      · obtain ⟨g1, o1, rfl, _, hc1⟩ := HA.out.2 (by omega)
        obtain ⟨g2, o2, rfl, _, hc2⟩ := HB.out.2 (by omega)
        obtain ⟨x10, x11, x12, x13, x14, x15⟩ := six_src hc1 hlt
        obtain ⟨x20, x21, x22, x23, x24, x25⟩ := six_src hc2 hlt
        have hki : ((k : Int) < (n : Int)) := by omega
        have hk0 : (0 : Int) ≤ (k : Int) := by omega
        have HE1 : Hid (F k = G k → ∀ j, j < k + 1 → F j = G j) := Lib.hid (fun e j hj => by
          by_cases h : j = k
          · subst h; exact e
          · exact HE.out j (by omega))
        have HE2 : Hid (F k ≠ G k → eqF F G n = false) := Lib.hid (fun e => by
          cases h : eqF F G n with
          | false => rfl
          | true => exact absurd ((eqF_iff F G n).1 h k hlt) e)
        generalize F k = r at x10 x11 x12 x13 x14 x15 HE1 HE2
        generalize G k = s at x20 x21 x22 x23 x24 x25 HE1 HE2
        clear hc1 hc2
        by_cases hrs : r = s
        · subst hrs
          have HE3 := Lib.hid (HE1.out rfl)
          clear HE1 HE2
          obtain ⟨r0, ⟨r1, r2, r3, r4, r5⟩⟩ := r
          simp only at x10 x11 x12 x13 x14 x15 x20 x21 x22 x23 x24 x25
          go_wp2_with fail
          go_quiet (fail)
          go_wp2_with fail
          go_roundw
          case rel => exact ⟨k + 1, _, by go_num, by omega, rfl, HE3⟩
          case measure => simp [intOf]; omega
        · have HF := Lib.hid (HE2.out hrs)
          clear HE2 HE1
          obtain ⟨r0, ⟨r1, r2, r3, r4, r5⟩⟩ := r
          obtain ⟨s0, ⟨s1, s2, s3, s4, s5⟩⟩ := s
          have h6 := cell_ne6 hrs
          simp only at x10 x11 x12 x13 x14 x15 x20 x21 x22 x23 x24 x25
          clear hrs
          rcases h6 with e0 | ⟨rfl, e0 | ⟨rfl, e0 | ⟨rfl, e0 | ⟨rfl, e0 | ⟨rfl, e0⟩⟩⟩⟩⟩
          all_goals
            go_wp2_with fail
            go_quiet (fail)
            go_wp2_with fail
            go_ret
            exact ⟨by rw [HF.out]; rfl, by repeat (first | exact Below.refl _ _ | refine Below.drewN' ?_ _)⟩
      · obtain rfl : k = n := by omega
        have hki : ¬ ((k : Int) < (k : Int)) := by omega
        go_wp2_with fail
        go_ret
        exact ⟨by rw [(eqF_iff F G k).2 HE.out]; rfl, by repeat (first | exact Below.refl _ _ | refine Below.drewN' ?_ _)⟩
  · rw [show (decide (n = m) && eqF F G n) = false from by simp [hnm]]
    have hx : ((n : Int) == (m : Int)) = false := by simp; omega
    have hy : ((n : Int) != (m : Int)) = true := by simp; omega
    clear hA hB
    go_enter Try.func34, Try.ntmps34
    go_wp2_with fail
    go_ret
    exact ⟨rfl, Below.refl _ _⟩

/-- Are two screens alike? -/
def likeB (a b : Scr) : Bool := sizeB a b && (decide (a.X = b.X) && (decide (a.Y = b.Y) && (decide (a.hid = b.hid) && (decide (a.n = b.n) && eqF a.F b.F a.n))))
theorem likeB_iff (a b : Scr) : likeB a b = true ↔ a.Like b := by
  simp only [likeB, sizeB, Bool.and_eq_true, decide_eq_true_eq, eqF_iff]
  exact ⟨fun ⟨⟨h1, h2⟩, h3, h4, h5, h6, h7⟩ => ⟨h1, h2, h3, h4, h5, h6, h7⟩, fun h => ⟨⟨h.w, h.h⟩, h.x, h.y, h.d, h.n, h.c⟩⟩
theorem scr_boxes (w : World) (x y : Array Value) (t : TypeId) : ∃ W0, W0 = (w.alloc (.cells x t)).alloc (.cells y t) ∧ Below w.heap.size w W0 ∧ W0.heap[w.heap.size]? = some (.cells x t (0, 0)) ∧ W0.heap[w.heap.size + 1]? = some (.cells y t (0, 0)) := by
  refine ⟨_, rfl, ((Below.refl _ w).alloc (Nat.le_refl _) _).alloc (by simp) _, (Lib.alloc_old _ _ _ (by simp)).trans (heap_alloc_new w _), ?_⟩
  have := heap_alloc_new (w.alloc (.cells x t)) (.cells y t)
  simpa using this

set_option maxRecDepth 100000 in
set_option maxHeartbeats 3200000 in
theorem patch_Same (a b : Scr) (A B : Option Addr) (c d : Nat) (w : World) (hA : a.at' w A) (hB : b.at' w B) (hn : a.n ≤ 1099511627776) :
    Calls Try.prog 10 #[a.v A c, b.v B d] w fun e w' => e = .returned (.bool (likeB a b)) ∧ Below w.heap.size w w' := by
  obtain ⟨W0, hW0, hb0, q1, q2⟩ := scr_boxes w (a.cs A c) (b.cs B d) 24
  have HS := Lib.hid (fun V => patch_sameSize a b A B c d V)
  have HE : Hid (∀ V, Below w.heap.size w V → Calls Try.prog 34 #[.slice A a.n c, .slice B b.n d] V fun e w' => e = .returned (.bool (decide (a.n = b.n) && eqF a.F b.F a.n)) ∧ Below V.heap.size V w') :=
    Lib.hid (fun V k => cells_Equal A B a.n b.n c d a.F b.F V (hA.keep (Keep.of_below _ k)) (hB.keep (Keep.of_below _ k)) hn)
  have HB0 := Lib.hid hb0
  have hlike : Hid (likeB a b = (sizeB a b && (decide (a.X = b.X) && (decide (a.Y = b.Y) && (decide (a.hid = b.hid) && (decide (a.n = b.n) && eqF a.F b.F a.n)))))) := Lib.hid rfl
  generalize (decide (a.n = b.n) && eqF a.F b.F a.n) = eb at HE hlike
  generalize likeB a b = lb at hlike
  generalize sizeB a b = sb at HS hlike
  have Q1 := Lib.hid q1
  have Q2 := Lib.hid q2
  clear hb0 hA hB hn q1 q2
  obtain ⟨W, H, n, F, X, Y, hi⟩ := a
  obtain ⟨W', H', n', F', X', Y', hi'⟩ := b
  simp only [Scr.v, Scr.cs] at hW0 HS HE Q1 Q2 hlike ⊢
  go_enter Try.func10, Try.ntmps10
  go_upto_region 1 with fail
  rw [← hW0]
  clear hW0
  obtain ⟨p, hp⟩ : ∃ p, p = w.heap.size := ⟨_, rfl⟩
  rw [← hp] at Q1 Q2
  rw [← hp]
  have HP := Lib.hid hp
  clear hp
  have a0 := cell_at Q1.out 0; have a1 := cell_at Q1.out 1; have a2 := cell_at Q1.out 2; have a3 := cell_at Q1.out 3; have a4 := cell_at Q1.out 4; have a5 := cell_at Q1.out 5
  have b0 := cell_at Q2.out 0; have b1 := cell_at Q2.out 1; have b2 := cell_at Q2.out 2; have b3 := cell_at Q2.out 3; have b4 := cell_at Q2.out 4; have b5 := cell_at Q2.out 5
  simp at a0 a1 a2 a3 a4 a5 b0 b1 b2 b3 b4 b5
  have l1 : p < W0.heap.size := lt_heap Q1.out
  have l2 : p + 1 < W0.heap.size := lt_heap Q2.out
  go_wp2_with fail
  refine (HS.out _).mono ?_
  rintro e w1 ⟨rfl, hb⟩
  have HB1 : Hid (Below w.heap.size w w1) := Lib.hid (HB0.out.trans (hb.mono HB0.out.size))
  have K1 := Keep.of_below (fun _ => False) hb
  have Q1' := Lib.hid (K1.heap Q1.out (fun x => x))
  have Q2' := Lib.hid (K1.heap Q2.out (fun x => x))
  clear a0 a1 a2 a3 a4 a5 b0 b1 b2 b3 b4 b5 l1 l2 hb K1 Q1 Q2 HS
  have a0 := cell_at Q1'.out 0; have a1 := cell_at Q1'.out 1; have a2 := cell_at Q1'.out 2; have a3 := cell_at Q1'.out 3; have a4 := cell_at Q1'.out 4; have a5 := cell_at Q1'.out 5
  have b0 := cell_at Q2'.out 0; have b1 := cell_at Q2'.out 1; have b2 := cell_at Q2'.out 2; have b3 := cell_at Q2'.out 3; have b4 := cell_at Q2'.out 4; have b5 := cell_at Q2'.out 5
  simp at a0 a1 a2 a3 a4 a5 b0 b1 b2 b3 b4 b5
  have hbb := Lib.hid hlike.out
  cases sb
  · go_wp2_with fail
    go_ret
    exact ⟨by rw [hlike.out]; rfl, HB1.out⟩
  by_cases e1 : X = X'
  · subst e1
    have f1 : (X == X) = true := by simp
    by_cases e2 : Y = Y'
    · subst e2
      have f2 : (Y == Y) = true := by simp
      by_cases e3 : hi = hi'
      · subst e3
        have f3 : (hi == hi) = true := by simp
        go_wp2_with fail
        refine (HE.out _ HB1.out).mono ?_
        rintro e w2 ⟨rfl, hb⟩
        have HB2 : Hid (Below w.heap.size w w2) := Lib.hid (HB1.out.trans (hb.mono HB1.out.size))
        clear hb
        cases eb
        all_goals
          go_wp2_with fail
          go_ret
          exact ⟨by rw [hlike.out]; simp, HB2.out⟩
      · have f3 : (hi == hi') = false := by simpa using e3
        have f4 := Lib.hid (decide_eq_false e3)
        clear e3
        go_wp2_with fail
        go_ret
        exact ⟨by rw [hlike.out, f4.out]; simp, HB1.out⟩
    · have f3 : (Y == Y') = false := by simpa using e2
      have f4 := Lib.hid (decide_eq_false e2)
      clear e2
      go_wp2_with fail
      go_ret
      exact ⟨by rw [hlike.out, f4.out]; simp, HB1.out⟩
  · have f3 : (X == X') = false := by simpa using e1
    have f4 := Lib.hid (decide_eq_false e1)
    clear e1
    go_wp2_with fail
    go_ret
    exact ⟨by rw [hlike.out, f4.out]; simp, HB1.out⟩

end Go.Proofs.Ytgomnigchfmfhaa
