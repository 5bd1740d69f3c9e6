/- patch: Valid, Blank, changed. Own work. -/
import Derived.Test.YtgomnigchfmfhaaPat2
namespace Go.Proofs.Ytgomnigchfmfhaa
set_option linter.unusedVariables false
set_option linter.unusedSimpArgs false
open Go.RowKit

/-- May all of n cells be? -/
def okF (F : Nat → CellM) : Nat → Bool
  | 0 => true
  | n + 1 => okF F n && decide (okC (F n))
theorem okF_iff (F : Nat → CellM) (n : Nat) : okF F n = true ↔ ∀ k, k < n → okC (F k) := by
  induction n with
  | zero => exact ⟨fun _ k hk => by omega, fun _ => rfl⟩
  | succ n ih =>
    simp only [okF, Bool.and_eq_true, ih, decide_eq_true_eq]
    constructor
    · rintro ⟨h1, h2⟩ k hk
      by_cases e : k = n
      · subst e; exact h2
      · exact h1 k (by omega)
    · intro h
      exact ⟨fun k hk => h k (by omega), h n (by omega)⟩

set_option maxRecDepth 100000 in
set_option maxHeartbeats 3200000 in
theorem cells_Index (A : Option Addr) (n c : Nat) (F : Nat → CellM) (w : World) (hA : Src w A (n * 6) (flatF F n)) (hn : n ≤ 1099511627776) :
    Calls Try.prog 55 #[.slice A n c, .func (.func 32) #[] #[]] w fun e w' => (∃ i : Int, e = .returned (.int .i64 i) ∧ (decide (i ≥ 0) = !okF F n)) ∧ Below w.heap.size w w' := by
  have HA := Lib.hid hA
  clear hA
  go_enter Try.func55, Try.ntmps55
  go_wp2_with fail
  go_loopw [8] (fun i wr => ∃ (k : Nat), i = .int .i64 k ∧ k ≤ n ∧ Hid (Below w.heap.size w wr) ∧ Hid (∀ j, j < k → okC (F j))) (fun i _ => n - (intOf i).toNat)
  case atStart => exact ⟨0, rfl, by omega, Below.refl _ _, fun j hj => by omega⟩
  case round =>
    obtain ⟨k, rfl, hk, HB, HE⟩ := hrel
    by_cases hlt : k < n
    · obtain ⟨g1, o1, rfl, _, hc1⟩ := (HA.out.keep (Keep.of_below (fun _ => False) HB.out)).2 (by omega)
      obtain ⟨x10, x11, x12, x13, x14, x15⟩ := six_src hc1 hlt
      have hki : ((k : Int) < (n : Int)) := by omega
      have hk0 : (0 : Int) ≤ (k : Int) := by omega
      have HW := Lib.hid (fun V => patch_isWrong (F k) V)
      have HE1 : Hid (okC (F k) → ∀ j, j < k + 1 → okC (F j)) := Lib.hid (fun e j hj => by
        by_cases h : j = k
        · subst h; exact e
        · exact HE.out j (by omega))
      have HE2 : Hid (¬ okC (F k) → okF F n = false) := Lib.hid (fun e => by
        cases h : okF F n with
        | false => rfl
        | true => exact absurd ((okF_iff F n).1 h k hlt) e)
      generalize F k = r at x10 x11 x12 x13 x14 x15 HE1 HE2 HW
      clear hc1
      by_cases hr : okC r
      · have HE3 := Lib.hid (HE1.out hr)
        rw [decide_eq_true hr] at HW
        clear HE1 HE2 hr
        obtain ⟨r0, ⟨r1, r2, r3, r4, r5⟩⟩ := r
        simp only [CellM.v] at x10 x11 x12 x13 x14 x15 HW
        go_wp2_with fail
        refine (HW.out _).mono ?_
        rintro e w1 ⟨rfl, hb⟩
        have HB1 : Hid (Below w.heap.size w w1) := Lib.hid (HB.out.trans (hb.mono HB.out.size))
        clear hb x10 x11 x12 x13 x14 x15
        go_wp2_with fail
        go_roundw
        case rel => exact ⟨k + 1, by go_num, by omega, HB1, HE3⟩
        case measure => simp [intOf]; omega
      · have HF := Lib.hid (HE2.out hr)
        rw [decide_eq_false hr] at HW
        clear HE1 HE2 hr
        obtain ⟨r0, ⟨r1, r2, r3, r4, r5⟩⟩ := r
        simp only [CellM.v] at x10 x11 x12 x13 x14 x15 HW
        go_wp2_with fail
        refine (HW.out _).mono ?_
        rintro e w1 ⟨rfl, hb⟩
        have HB1 : Hid (Below w.heap.size w w1) := Lib.hid (HB.out.trans (hb.mono HB.out.size))
        clear hb x10 x11 x12 x13 x14 x15
        go_wp2_with fail
        go_ret
        exact ⟨⟨(k : Int), rfl, by rw [HF.out]; simp⟩, HB1.out⟩
    · obtain rfl : k = n := by omega
      have hki : ¬ ((k : Int) < (k : Int)) := by omega
      go_wp2_with fail
      go_ret
      exact ⟨⟨-1, rfl, by rw [(okF_iff F k).2 HE.out]; rfl⟩, HB.out⟩

set_option maxRecDepth 100000 in
theorem cells_Contains (A : Option Addr) (n c : Nat) (F : Nat → CellM) (w : World) (hA : Src w A (n * 6) (flatF F n)) (hn : n ≤ 1099511627776) :
    Calls Try.prog 31 #[.slice A n c, .func (.func 32) #[] #[]] w fun e w' => e = .returned (.bool (!okF F n)) ∧ Below w.heap.size w w' := by
  have HI := Lib.hid (cells_Index A n c F w hA hn)
  clear hA
  go_enter Try.func31, Try.ntmps31
  go_wp2_with fail
  refine HI.out.mono ?_
  rintro e w1 ⟨⟨i, rfl, hi⟩, hb⟩
  have HB := Lib.hid hb
  have HX := Lib.hid hi
  clear hb hi HI
  go_wp2_with fail
  go_ret
  exact ⟨by rw [← HX.out]; rfl, HB.out⟩

/-- What Valid tells. -/
def validB (s : Scr) : Bool := decide (min (max s.W 2) 40 = s.W ∧ min (max s.H 1) 20 = s.H ∧ (s.n : Int) = s.W * s.H) && (decide (0 ≤ s.X ∧ s.X < s.W) && (decide (0 ≤ s.Y ∧ s.Y < s.H) && okF s.F s.n))
theorem validB_iff (s : Scr) : validB s = true ↔ s.Ok := by
  simp only [validB, Bool.and_eq_true, decide_eq_true_eq, okF_iff]
  exact ⟨fun ⟨⟨h1, h2, h3⟩, h4, h5, h6⟩ => ⟨h1, h2, h3, h4, h5, h6⟩, fun h => ⟨⟨h.w, h.h, h.n⟩, h.x, h.y, h.c⟩⟩
theorem grid_Of_any (s : Scr) (A : Option Addr) (c : Nat) (w : World) (hA : s.at' w A) :
    Calls Try.prog 29 #[s.v A c] w fun e w' => (∃ a : Option Addr, e = .returned (.tuple #[.pointer a, .int .i64 (if min (max s.W 2) 40 = s.W ∧ min (max s.H 1) 20 = s.H ∧ (s.n : Int) = s.W * s.H then 0 else 1)])) ∧ Below w.heap.size w w' := by
  by_cases h1 : min (max s.W 2) 40 = s.W
  · by_cases h2 : min (max s.H 1) 20 = s.H
    · by_cases h3 : (s.n : Int) = s.W * s.H
      · rw [if_pos ⟨h1, h2, h3⟩]
        obtain ⟨W, eW⟩ : ∃ W : Nat, s.W = W := ⟨s.W.toNat, by omega⟩
        obtain ⟨H, eH⟩ : ∃ H : Nat, s.H = H := ⟨s.H.toNat, by omega⟩
        have hn : s.n = W * H := by rw [eW, eH] at h3; exact Int.ofNat.inj (by simpa using h3)
        have := of_ok W H A s.n c s.X s.Y s.hid s.F w (by omega) (by omega) hn hA
        rw [Scr.v, eW, eH]
        refine this.mono ?_
        rintro e w' ⟨p', g', c', rfl, -, -, -, hb⟩
        exact ⟨⟨_, rfl⟩, hb⟩
      · rw [if_neg (fun e => h3 e.2.2)]
        exact (of_err3 s.W s.H A s.n c s.X s.Y s.hid w h1 h2 h3).mono fun e w' h => ⟨⟨none, h.1⟩, h.2⟩
    · rw [if_neg (fun e => h2 e.2.1)]
      exact (of_err2 s.W s.H A s.n c s.X s.Y s.hid w h1 h2).mono fun e w' h => ⟨⟨none, h.1⟩, h.2⟩
  · rw [if_neg (fun e => h1 e.1)]
    exact (of_err1 s.W s.H A s.n c s.X s.Y s.hid w h1).mono fun e w' h => ⟨⟨none, h.1⟩, h.2⟩

theorem scr_box (w : World) (x : Array Value) (t : TypeId) : ∃ W0, W0 = w.alloc (.cells x t) ∧ Below w.heap.size w W0 ∧ W0.heap[w.heap.size]? = some (.cells x t (0, 0)) :=
  ⟨_, rfl, (Below.refl _ w).alloc (Nat.le_refl _) _, heap_alloc_new w _⟩
theorem int_ok (a b : Int) : (a != b) = !(a == b) := rfl

set_option maxRecDepth 100000 in
set_option maxHeartbeats 3200000 in
theorem patch_Valid (s : Scr) (A : Option Addr) (c : Nat) (w : World) (hA : s.at' w A) (hn : s.n ≤ 1099511627776) :
    Calls Try.prog 9 #[s.v A c] w fun e w' => e = .returned (.bool (validB s)) ∧ Below w.heap.size w w' := by
  obtain ⟨W0, hW0, hb0, q1⟩ := scr_box w (s.cs A c) 24
  have HO := Lib.hid (grid_Of_any s A c W0 (hA.keep (Keep.of_below _ hb0)))
  have HC : Hid (∀ V, Below w.heap.size w V → Calls Try.prog 31 #[.slice A s.n c, .func (.func 32) #[] #[]] V fun e w' => e = .returned (.bool (!okF s.F s.n)) ∧ Below V.heap.size V w') :=
    Lib.hid (fun V k => cells_Contains A s.n c s.F V (hA.keep (Keep.of_below _ k)) hn)
  have HX := Lib.hid (fun V => patch_isPlace s.X s.W V)
  have HY := Lib.hid (fun V => patch_isPlace s.Y s.H V)
  have HB0 := Lib.hid hb0
  have HV : Hid (validB s = (decide (min (max s.W 2) 40 = s.W ∧ min (max s.H 1) 20 = s.H ∧ (s.n : Int) = s.W * s.H) && (decide (0 ≤ s.X ∧ s.X < s.W) && (decide (0 ≤ s.Y ∧ s.Y < s.H) && okF s.F s.n)))) := Lib.hid rfl
  generalize validB s = vb at HV ⊢
  generalize okF s.F s.n = bf at HV HC
  generalize decide (0 ≤ s.X ∧ s.X < s.W) = bx at HV HX
  generalize decide (0 ≤ s.Y ∧ s.Y < s.H) = bY at HV HY
  have Q1 := Lib.hid q1
  clear hb0 hA hn q1
  by_cases hE : min (max s.W 2) 40 = s.W ∧ min (max s.H 1) 20 = s.H ∧ (s.n : Int) = s.W * s.H
  · rw [if_pos hE] at HO
    rw [decide_eq_true hE] at HV
    clear hE
    obtain ⟨W, H, n, F, X, Y, hi⟩ := s
    simp only [Scr.v, Scr.cs] at hW0 HO HC HX HY Q1 ⊢
    go_enter Try.func9, Try.ntmps9
    go_upto_region 1 with fail
    rw [← hW0]
    clear hW0
    obtain ⟨p, hp⟩ : ∃ p, p = w.heap.size := ⟨_, rfl⟩
    rw [← hp] at Q1
    rw [← hp]
    clear hp
    have a0 := cell_at Q1.out 0; have a1 := cell_at Q1.out 1; have a2 := cell_at Q1.out 2; have a3 := cell_at Q1.out 3; have a4 := cell_at Q1.out 4; have a5 := cell_at Q1.out 5
    simp at a0 a1 a2 a3 a4 a5
    have l1 : p < W0.heap.size := lt_heap Q1.out
    go_wp2_with fail
    refine HO.out.mono ?_
    rintro e w1 ⟨⟨P, rfl⟩, hb⟩
    have HB1 : Hid (Below w.heap.size w w1) := Lib.hid (HB0.out.trans (hb.mono HB0.out.size))
    have Q1' := Lib.hid ((Keep.of_below (fun _ => False) hb).heap Q1.out (fun x => x))
    clear a0 a1 a2 a3 a4 a5 l1 hb Q1 HO
    have a0 := cell_at Q1'.out 0; have a1 := cell_at Q1'.out 1; have a2 := cell_at Q1'.out 2; have a3 := cell_at Q1'.out 3; have a4 := cell_at Q1'.out 4; have a5 := cell_at Q1'.out 5
    simp at a0 a1 a2 a3 a4 a5
    go_wp2_with fail
    refine (HX.out _).mono ?_
    rintro e w2 ⟨rfl, rfl⟩
    cases bx
    · go_wp2_with fail
      go_ret
      exact ⟨by rw [HV.out]; rfl, HB1.out⟩
    go_wp2_with fail
    refine (HY.out _).mono ?_
    rintro e w3 ⟨rfl, rfl⟩
    cases bY
    · go_wp2_with fail
      go_ret
      exact ⟨by rw [HV.out]; rfl, HB1.out⟩
    go_wp2_with fail
    refine (HC.out _ HB1.out).mono ?_
    rintro e w4 ⟨rfl, hb⟩
    have HB4 : Hid (Below w.heap.size w w4) := Lib.hid (HB1.out.trans (hb.mono HB1.out.size))
    clear hb
    cases bf
    all_goals
      go_wp2_with fail
      go_ret
      exact ⟨by rw [HV.out]; rfl, HB4.out⟩
  · rw [if_neg hE] at HO
    rw [decide_eq_false hE] at HV
    clear hE
    obtain ⟨W, H, n, F, X, Y, hi⟩ := s
    simp only [Scr.v, Scr.cs] at hW0 HO HC HX HY Q1 ⊢
    go_enter Try.func9, Try.ntmps9
    go_upto_region 1 with fail
    rw [← hW0]
    clear hW0
    obtain ⟨p, hp⟩ : ∃ p, p = w.heap.size := ⟨_, rfl⟩
    rw [← hp] at Q1
    rw [← hp]
    clear hp
    have a0 := cell_at Q1.out 0; have a1 := cell_at Q1.out 1; have a2 := cell_at Q1.out 2; have a3 := cell_at Q1.out 3; have a4 := cell_at Q1.out 4; have a5 := cell_at Q1.out 5
    simp at a0 a1 a2 a3 a4 a5
    go_wp2_with fail
    refine HO.out.mono ?_
    rintro e w1 ⟨⟨P, rfl⟩, hb⟩
    have HB1 : Hid (Below w.heap.size w w1) := Lib.hid (HB0.out.trans (hb.mono HB0.out.size))
    clear a0 a1 a2 a3 a4 a5 hb Q1 HO
    go_wp2_with fail
    go_ret
    exact ⟨by rw [HV.out]; rfl, HB1.out⟩

end Go.Proofs.Ytgomnigchfmfhaa
