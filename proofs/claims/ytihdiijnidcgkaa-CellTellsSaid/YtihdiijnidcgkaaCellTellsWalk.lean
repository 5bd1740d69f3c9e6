/- Law CellTells: the walk. By program (rgn/XCellTellsWalk.py). Own work. -/
import Derived.Test.YtihdiijnidcgkaaCellBoth
import Derived.Test.YtihdiijnidcgkaaHolds
import Derived.Test.YtihdiijnidcgkaaAnyD
import Derived.Test.YtihdiijnidcgkaaBookI
import Derived.Deep.Cut
import Derived.Deep.CutRange
namespace Go.Proofs.Ytihdiijnidcgkaa
set_option linter.unusedVariables false
set_option linter.unusedSimpArgs false
open Go.RowKit

def lentIH (g c : Nat) (xs : List Int) : Hold := ⟨fun b => b = g, fun w => Lent w 3 g c (xs.map (Value.int .i64)) (.int .i64 (-77))⟩
theorem lentIH_cl (g c : Nat) (xs : List Int) : ClosedBy (lentIH g c xs).s (lentIH g c xs).p := fun S w w' k hs h => Lent.keep h k (hs g rfl)
def lentCH (g c : Nat) (xs : List CellM) : Hold := ⟨fun b => b = g, fun w => LentC w g c xs⟩
theorem lentCH_cl (g c : Nat) (xs : List CellM) : ClosedBy (lentCH g c xs).s (lentCH g c xs).p := fun S w w' k hs h => LentC.keep h k (hs g rfl)

set_option maxRecDepth 100000 in
set_option maxHeartbeats 1600000 in
theorem cellTells_early (a : At) (A : Option Addr) (n cap : Nat) (c : CellM) (B : ByteArray) (C : Option Addr) (m mcap : Nat) (w : World) (h : (n : Int) > 60 ∨ (¬ (n : Int) > 60 ∧ (B.size : Int) > 200) ∨ (¬ (n : Int) > 60 ∧ ¬ (B.size : Int) > 200 ∧ (m : Int) > 100)) :
    Calls Try.prog 3 #[a.v, .slice A n cap, c.v, .string B, .slice C m mcap] w fun e w' => e = .returned (.bool true) ∧ Below w.heap.size w w' := by
  simp only [At.v, CellM.v]
  rcases h with h | ⟨h0, h⟩ | ⟨h0, h1, h⟩
  all_goals
    go_enter Try.func3, Try.ntmps3
    go_wp2_with fail
    refine (alive_any _).mono ?_
    rintro e w1 ⟨rfl, hb⟩
    have HB1 : Hid (Below w.heap.size w w1) := Lib.hid ((((Below.refl _ w).alloc (Nat.le_refl _) _).alloc (by simp) _).trans (hb.mono (by simp; omega)))
    clear hb
    go_wp2_with fail
    go_ret
    exact ⟨rfl, HB1.out⟩

set_option maxRecDepth 100000 in
set_option maxHeartbeats 6400000 in
theorem walk_CellTells (a : At) (wa : a.wf) (A : Option Addr) (n cap : Nat) (l : List Int) (c : CellM) (wc : c.wf) (B : ByteArray) (wB : B.size ≤ maxLen) (C : Option Addr) (m mcap : Nat) (cs : List CellM) (w : World) (hl : Ints w A n l) (hc : CellsL w C m cs) :
    Calls Try.prog 3 #[a.v, .slice A n cap, c.v, .string B, .slice C m mcap] w fun e w' => e = .returned (.bool true) ∧ Below w.heap.size w w' := by
  by_cases h1 : (n : Int) > 60
  · exact cellTells_early a A n cap c B C m mcap w (.inl h1)
  by_cases h2 : (B.size : Int) > 200
  · exact cellTells_early a A n cap c B C m mcap w (.inr (.inl ⟨h1, h2⟩))
  by_cases h3 : (m : Int) > 100
  · exact cellTells_early a A n cap c B C m mcap w (.inr (.inr ⟨h1, h2, h3⟩))
  have hn60 : (n : Int) ≤ 60 := by omega
  have hB200 : (B.size : Int) ≤ 200 := by omega
  have hm100 : (m : Int) ≤ 100 := by omega
  have d1 : decide (60 < (n : Int)) = false := by simp; omega
  have d2 : decide (200 < (B.size : Int)) = false := by simp; omega
  have d3 : decide (100 < (m : Int)) = false := by simp; omega
  have HLB := Lib.hid hl.2.2.1
  have HLS := Lib.hid (src_ints hl)
  have HCS : Hid (Src w C (m * 6) (flatL cs)) := Lib.hid hc.1
  have HLN : Hid (l.length = n) := Lib.hid hl.1
  have HCN : Hid (cs.length = m) := Lib.hid hc.2.1
  obtain ⟨cx, cy, k, e1, e2, S4, hs4, hway, hRd, hRf⟩ := reads_one B (by omega)
  obtain ⟨LL, vb, hLay, hvb, hRefL, hLn⟩ := lays_one c wc.1
  have HRd := Lib.hid hRd
  have HRf := Lib.hid hRf
  have HWay := Lib.hid hway
  have hs4i : (S4.size : Int) ≤ 200 := by omega
  have HLay := Lib.hid hLay
  have HVB := Lib.hid (fun V => ref_valid c.a V vb hvb)
  have HRefL := Lib.hid hRefL
  have HLn := Lib.hid hLn
  clear hs4 hway hRd hRf hLay hvb hRefL hLn
  obtain ⟨f, g, b, u, i⟩ := a
  obtain ⟨r, ⟨cf, cg, cb, cu, ci⟩⟩ := c
  have hr32 : -2147483648 ≤ r ∧ r ≤ 2147483647 := wc.1
  obtain ⟨xr, ⟨xf, xg, xb, xu, xi⟩⟩ := cx
  obtain ⟨yr, ⟨yf, yg, yb, yu, yi⟩⟩ := cy
  clear hl hc wa wc wB h1 h2 h3
  simp only [CellM.v] at HRd HRf HLay
  simp only [At.v] at HVB
  simp only [At.v, CellM.v]
  obtain ⟨pa, hpa⟩ : ∃ p, p = w.heap.size := ⟨_, rfl⟩
  obtain ⟨pc, hpc⟩ : ∃ p, p = w.heap.size + 1 := ⟨_, rfl⟩
  obtain ⟨w0, hw0⟩ : ∃ w0, w0 = (w.alloc (.cells #[.int .i64 f, .int .i64 g, .bool b, .bool u, .bool i] 23)).alloc (.cells #[.int .i32 r, .int .i64 cf, .int .i64 cg, .bool cb, .bool cu, .bool ci] 26) := ⟨_, rfl⟩
  have ST0 : Hid (Star w w0 [boxH pa [.int .i64 f, .int .i64 g, .bool b, .bool u, .bool i], boxH pc [.int .i32 r, .int .i64 cf, .int .i64 cg, .bool cb, .bool cu, .bool ci]]) := Lib.hid (by
    have h := star_box (star_box (Star.nil (Below.refl _ w)) [.int .i64 f, .int .i64 g, .bool b, .bool u, .bool i] 23) [.int .i32 r, .int .i64 cf, .int .i64 cg, .bool cb, .bool cu, .bool ci] 26
    rw [show (w.alloc (.cells ([.int .i64 f, .int .i64 g, .bool b, .bool u, .bool i] : List Value).toArray 23)).heap.size = pc from by rw [hpc]; simp, ← hpa] at h
    rw [hw0]
    exact h)
  have HW0 := Lib.hid hw0
  have HPA := Lib.hid hpa
  have HPC := Lib.hid hpc
  clear hw0 hpa hpc
  go_enter Try.func3, Try.ntmps3
  go_wp2_with fail
  rw [← HW0.out]
  rw [← HPC.out, ← HPA.out]
  refine (alive_any _).mono ?_
  rintro e w1 ⟨rfl, hb⟩
  have ST1 := Lib.hid (ST0.out.below hb)
  clear hb ST0 HW0
  go_wp2_with fail
  refine (lent_Ints A n cap l w1 (HLS.out.below ST1.out.be) (by omega)).mono ?_
  rintro e w2 ⟨gm, mc, rfl, hlent, hgm, hb⟩
  have ST2 := Lib.hid (ST1.out.new (lentIH gm mc l) (Keep.of_below _ hb) (fun b e => by rw [show b = gm from e]; exact ⟨hgm, hlent.lt⟩) hlent (lentIH_cl _ _ _))
  clear hlent hgm hb ST1
  go_wp2_with fail
  refine (lent_Cells C m mcap cs w2 (HCS.out.below ST2.out.be) (by omega)).mono ?_
  rintro e w3 ⟨gn, nc, rfl, hlent, hgn, hb⟩
  have ST3 : Hid (Star w w3 [boxH pa [.int .i64 f, .int .i64 g, .bool b, .bool u, .bool i], boxH pc [.int .i32 r, .int .i64 cf, .int .i64 cg, .bool cb, .bool cu, .bool ci], lentIH gm mc l, lentCH gn nc cs]) := Lib.hid (ST2.out.new (lentCH gn nc cs) (Keep.of_below _ hb) (fun b e => by rw [show b = gn from e]; exact ⟨hgn, hlent.lt⟩) hlent (lentCH_cl _ _ _))
  clear hlent hgn hb ST2
  have hbx3 : Cells w3 pc [.int .i32 r, .int .i64 cf, .int .i64 cg, .bool cb, .bool cu, .bool ci] := ST3.out.get 1 rfl
  have x0 := (hbx3 0 _ rfl).1
  have x1 := (hbx3 1 _ rfl).1
  have x2 := (hbx3 2 _ rfl).1
  have x3 := (hbx3 3 _ rfl).1
  have x4 := (hbx3 4 _ rfl).1
  have x5 := (hbx3 5 _ rfl).1
  clear hbx3
  go_wp2_with fail
  refine (HLay.out _).mono ?_
  rintro e w4 ⟨rfl, hb⟩
  have ST4 := Lib.hid (ST3.out.below hb)
  clear hb ST3
  clear x0 x1 x2 x3 x4 x5
  have hbx4 : Cells w4 pc [.int .i32 r, .int .i64 cf, .int .i64 cg, .bool cb, .bool cu, .bool ci] := ST4.out.get 1 rfl
  have x0 := (hbx4 0 _ rfl).1
  have x1 := (hbx4 1 _ rfl).1
  have x2 := (hbx4 2 _ rfl).1
  have x3 := (hbx4 3 _ rfl).1
  have x4 := (hbx4 4 _ rfl).1
  have x5 := (hbx4 5 _ rfl).1
  clear hbx4
  go_upto_if 46 with (refine (HVB.out _).mono ?_; rintro e w5 ⟨rfl, hb⟩; have ST5 := Lib.hid (ST4.out.below hb); clear hb)
  clear x0 x1 x2 x3 x4 x5
  go_cut [14] from 47 to 57 (fun _ wx => Hid (Star w wx [boxH pa [.int .i64 f, .int .i64 g, .bool b, .bool u, .bool i], boxH pc [.int .i32 r, .int .i64 cf, .int .i64 cg, .bool cb, .bool cu, .bool ci], lentIH gm mc l, lentCH gn nc cs]))
  case first =>
    cases vb with
    | false =>
      have hL := HLn.out rfl
      subst hL
      go_wp2_with fail
      go_meet
      exact ST5
    | true =>
      have hbx5 : Cells w5 pc [.int .i32 r, .int .i64 cf, .int .i64 cg, .bool cb, .bool cu, .bool ci] := ST5.out.get 1 rfl
      have x0 := (hbx5 0 _ rfl).1
      have x1 := (hbx5 1 _ rfl).1
      have x2 := (hbx5 2 _ rfl).1
      have x3 := (hbx5 3 _ rfl).1
      have x4 := (hbx5 4 _ rfl).1
      have x5 := (hbx5 5 _ rfl).1
      clear hbx5
      by_cases hneg : r < 0
      · have HL2 := HRefL
        simp only [CellM.v, if_pos hneg] at HL2
        go_wp2_with fail
        refine (HL2.out trivial _).mono ?_
        rintro e w6 ⟨rfl, hb⟩
        have ST6 : Hid (Star w w6 [boxH pa [.int .i64 f, .int .i64 g, .bool b, .bool u, .bool i], boxH pc [.int .i32 r, .int .i64 cf, .int .i64 cg, .bool cb, .bool cu, .bool ci], lentIH gm mc l, lentCH gn nc cs]) := Lib.hid ((ST5.out.alloc _).below hb)
        clear hb
        go_wp2_with fail
        go_meet
        exact ST6
      · have HL2 := HRefL
        simp only [CellM.v, if_neg hneg] at HL2
        go_wp2_with fail
        refine (HL2.out trivial _).mono ?_
        rintro e w6 ⟨rfl, hb⟩
        have ST6 : Hid (Star w w6 [boxH pa [.int .i64 f, .int .i64 g, .bool b, .bool u, .bool i], boxH pc [.int .i32 r, .int .i64 cf, .int .i64 cg, .bool cb, .bool cu, .bool ci], lentIH gm mc l, lentCH gn nc cs]) := Lib.hid ((ST5.out.alloc _).below hb)
        clear hb
        go_wp2_with fail
        go_meet
        exact ST6
  case rest =>
    have ST3 : Hid (Star w wc [boxH pa [.int .i64 f, .int .i64 g, .bool b, .bool u, .bool i], boxH pc [.int .i32 r, .int .i64 cf, .int .i64 cg, .bool cb, .bool cu, .bool ci], lentIH gm mc l, lentCH gn nc cs]) := hcut
    clear hcut
    go_wp2_with fail
    refine (HRd.out _).mono ?_
    rintro e w4 ⟨rfl, hb⟩
    have ST4 := Lib.hid (ST3.out.below hb)
    clear hb ST3
    obtain ⟨px, hpx⟩ : ∃ px, px = w4.heap.size := ⟨_, rfl⟩
    obtain ⟨w5, hw5⟩ : ∃ w5, w5 = w4.alloc (.cells #[.int .i32 xr, .int .i64 xf, .int .i64 xg, .bool xb, .bool xu, .bool xi] 26) := ⟨_, rfl⟩
    obtain ⟨pg, hpg⟩ : ∃ pg, pg = w4.heap.size + 1 := ⟨_, rfl⟩
    obtain ⟨w6, hw6⟩ : ∃ w6, w6 = w5.alloc (.cells #[.string B, .int .i64 0] 38) := ⟨_, rfl⟩
    have HX5 : w5.heap[px]? = some (.cells #[.int .i32 xr, .int .i64 xf, .int .i64 xg, .bool xb, .bool xu, .bool xi] 26 (0, 0)) := by rw [hw5, hpx]; exact heap_alloc_new w4 _
    have HX6 : Hid (w6.heap[px]? = some (.cells #[.int .i32 xr, .int .i64 xf, .int .i64 xg, .bool xb, .bool xu, .bool xi] 26 (0, 0))) := Lib.hid (by rw [hw6]; exact heap_alloc HX5 _)
    have HG6 : Hid (RefAt w6 pg B 0) := Lib.hid (by
      have := heap_alloc_new w5 (.cells #[.string B, .int .i64 0] 38)
      rw [show w5.heap.size = pg from by rw [hw5, hpg]; simp] at this
      rw [hw6]
      exact this)
    have ST6 : Hid (Star w w6 [boxH pa [.int .i64 f, .int .i64 g, .bool b, .bool u, .bool i], boxH pc [.int .i32 r, .int .i64 cf, .int .i64 cg, .bool cb, .bool cu, .bool ci], lentIH gm mc l, lentCH gn nc cs]) := Lib.hid (by rw [hw6, hw5]; exact (ST4.out.alloc _).alloc _)
    have HNX : Hid (px ≠ pg ∧ w4.heap.size ≤ px ∧ w4.heap.size ≤ pg) := Lib.hid (by omega)
    have HP4 : Hid (∀ a ∈ ([boxH pa [.int .i64 f, .int .i64 g, .bool b, .bool u, .bool i], boxH pc [.int .i32 r, .int .i64 cf, .int .i64 cg, .bool cb, .bool cu, .bool ci], lentIH gm mc l, lentCH gn nc cs] : List Hold), ∀ b, a.s b → ¬ b = pg) := Lib.hid (fun a ha b hb e => by have := ST4.out.hi a ha b hb; have := HNX.out.2.2; omega)
    have HO4 : Hid (w.heap.size ≤ pg) := Lib.hid (by have := ST4.out.be.size; omega)
    have HW5 := Lib.hid hw5
    have HW6 := Lib.hid hw6
    have HPX := Lib.hid hpx
    have HPG := Lib.hid hpg
    clear hw5 hw6 hpx hpg HX5 ST4
    go_upto_region 15 with fail
    rw [← HW5.out, ← HW6.out, ← HPG.out, ← HPX.out]
    go_wp2_with fail
    refine (HRf.out pg w6 HG6.out).mono ?_
    rintro e w7 ⟨rfl, ⟨tt, hg7, ht7⟩, hk7⟩
    have hx7 := hk7.heap HX6.out HNX.out.1
    have ST7 : Hid (Star w w7 [boxH pa [.int .i64 f, .int .i64 g, .bool b, .bool u, .bool i], boxH pc [.int .i32 r, .int .i64 cf, .int .i64 cg, .bool cb, .bool cu, .bool ci], lentIH gm mc l, lentCH gn nc cs]) := Lib.hid (ST6.out.far_of hk7 (fun b hb e => by have := HO4.out; have := ST6.out.be.size; omega) HP4.out)
    have HX7 := Lib.hid hx7
    have HG7 := Lib.hid hg7
    have HT7 := Lib.hid ht7
    have g1 := hg7.c1
    clear hx7 hg7 hk7 ht7 HX6 HG6 ST6 HW5 HW6 HRf HRd HP4 HO4
    obtain ⟨w8, hw8⟩ : ∃ w8, w8 = w7.alloc (.cells #[.int .i32 yr, .int .i64 yf, .int .i64 yg, .bool yb, .bool yu, .bool yi] 26) := ⟨_, rfl⟩
    have HX8 := Lib.hid (heap_alloc HX7.out (.cells #[.int .i32 yr, .int .i64 yf, .int .i64 yg, .bool yb, .bool yu, .bool yi] 26))
    have HY8 := Lib.hid (heap_alloc_new w7 (.cells #[.int .i32 yr, .int .i64 yf, .int .i64 yg, .bool yb, .bool yu, .bool yi] 26))
    have HG8 := Lib.hid (heap_alloc HG7.out (.cells #[.int .i32 yr, .int .i64 yf, .int .i64 yg, .bool yb, .bool yu, .bool yi] 26))
    have ST8 := Lib.hid (ST7.out.alloc (.cells #[.int .i32 yr, .int .i64 yf, .int .i64 yg, .bool yb, .bool yu, .bool yi] 26))
    obtain ⟨py, hpy⟩ : ∃ py, py = w7.heap.size := ⟨_, rfl⟩
    rw [← hw8] at HX8 HY8 HG8 ST8
    rw [← hpy] at HY8
    have HW8 := Lib.hid hw8
    have HPY := Lib.hid hpy
    clear hw8 hpy HX7 HG7 ST7
    have g8 : w8.cell? ⟨pg, 1, none⟩ = some (.int .i64 e2) := cell_at HG8.out 1
    go_upto_region 16 with fail
    rw [← HW8.out, ← HPY.out]
    clear g1
    go_upto_if 73 with fail
    obtain ⟨w7, hw7⟩ : ∃ w7, w7 = w8 := ⟨_, rfl⟩
    rw [← hw7] at HX8 HY8 HG8 ST8 g8
    rw [← hw7]
    clear hw7 HW8
    go_cut [10] from 74 to 103 (fun _ wx => wx = w7)
    case first =>
      have c0 := cell_at HX8.out 0
      have c1 := cell_at HX8.out 1
      have c2 := cell_at HX8.out 2
      have c3 := cell_at HX8.out 3
      have c4 := cell_at HX8.out 4
      have c5 := cell_at HX8.out 5
      have g0 : w7.cell? ⟨pg, 0, none⟩ = some (.string tt) := cell_at HG8.out 0
      rcases HWay.out with ⟨he1, he2, hx, hk0⟩ | ⟨he1, he2, hx, hk0⟩
      · have be1 : (e1 == 0) = false := by simpa using he1
        have be2 : (e2 == 0) = false := by simpa using he2
        injection hx with hx1 hx2
        injection hx2 with hx2 hx3 hx4 hx5 hx6
        subst hx1 hx2 hx3 hx4 hx5 hx6 hk0
        clear he1 he2 HWay
        go_wp2_with fail
        go_meet
        rfl
      · have htt := HT7.out he2
        injection hx with hx1 hx2
        injection hx2 with hx2 hx3 hx4 hx5 hx6
        subst hx1 hx2 hx3 hx4 hx5 hx6 he1 he2 htt
        have d0 := cell_at HY8.out 0
        have d1' := cell_at HY8.out 1
        have d2' := cell_at HY8.out 2
        have d3' := cell_at HY8.out 3
        have d4 := cell_at HY8.out 4
        have d5 := cell_at HY8.out 5
        have hki : k = (B.size : Int) - (tt.size : Int) := hk0
        subst hki
        clear hk0 HWay
        go_wp2_with fail
        go_meet
        rfl
    case rest =>
      rw [show wc = w7 from hcut]
      clear hcut
      have HS : Hid (∀ V, Keep (fun _ => False) w7 V → Keep (fun _ => False) w7 V ∧ V.cell? ⟨pa, 0, none⟩ = some (.int .i64 f) ∧ V.cell? ⟨pa, 1, none⟩ = some (.int .i64 g) ∧ V.cell? ⟨pa, 2, none⟩ = some (.bool b) ∧ V.cell? ⟨pa, 3, none⟩ = some (.bool u) ∧ V.cell? ⟨pa, 4, none⟩ = some (.bool i)) := Lib.hid (fun V hk => by
        have h : Cells V pa [.int .i64 f, .int .i64 g, .bool b, .bool u, .bool i] := (ST8.out.quiet hk).get 0 rfl
        exact ⟨hk, (h 0 _ rfl).1, (h 1 _ rfl).1, (h 2 _ rfl).1, (h 3 _ rfl).1, (h 4 _ rfl).1⟩)
      obtain ⟨av, hav⟩ : ∃ av, decide (At.ok ⟨f, g, b, u, i⟩) = av := ⟨_, rfl⟩
      have HVa := Lib.hid (fun V => cell_valid ⟨f, g, b, u, i⟩ V av hav)
      have HVr := Lib.hid (fun V => ref_valid ⟨f, g, b, u, i⟩ V av hav)
      have HSg : Hid (∀ V, Keep (fun _ => False) w7 V → _) := Lib.hid (fun V hk => cell_sgr ⟨f, g, b, u, i⟩ (some ⟨gm, 0, none⟩) n mc l V (by
        have h : Lent V 3 gm mc (l.map (Value.int .i64)) (.int .i64 (-77)) := (ST8.out.quiet hk).get 2 rfl
        have := h.src
        rwa [List.length_map, HLN.out] at this) (by
        have h : Lent V 3 gm mc (l.map (Value.int .i64)) (.int .i64 (-77)) := (ST8.out.quiet hk).get 2 rfl
        have := h.cap.1
        rw [List.length_map, HLN.out] at this
        omega) (by omega) HLB.out)
      have HSr : Hid (∀ V, Keep (fun _ => False) w7 V → _) := Lib.hid (fun V hk => ref_sgr ⟨f, g, b, u, i⟩ A n cap l V (HLS.out.below ((ST8.out.quiet hk).be)) (by omega) HLB.out)
      obtain ⟨⟨sf, sg, sb, su, si⟩, hsg⟩ : ∃ z, sgrL ⟨f, g, b, u, i⟩ l = z := ⟨_, rfl⟩
      rw [hsg] at HSg HSr
      have HBl := Lib.hid (fun V => cell_blank ⟨f, g, b, u, i⟩ V)
      have HBr := Lib.hid (fun V => ref_blank ⟨f, g, b, u, i⟩ V)
      obtain ⟨T, hT⟩ : ∃ T, showL cs = T := ⟨_, rfl⟩
      have HSh : Hid (∀ V, Keep (fun _ => False) w7 V → _) := Lib.hid (fun V hk => cell_show (some ⟨gn, 0, none⟩) m nc cs V (by
        have h : LentC V gn nc cs := (ST8.out.quiet hk).get 3 rfl
        have := h.src
        rwa [HCN.out] at this) (by omega))
      have HShr : Hid (∀ V, Keep (fun _ => False) w7 V → _) := Lib.hid (fun V hk => ref_show C m mcap cs V (HCS.out.below ((ST8.out.quiet hk).be)) (by omega))
      rw [hT] at HSh HShr
      have HSti : Hid (∀ V, Keep (fun _ => False) w7 V → _) := Lib.hid (fun V hk => stays_Ints gm mc A n cap l V ((ST8.out.quiet hk).get 2 rfl) (HLS.out.below ((ST8.out.quiet hk).be)) (by omega))
      have HStc : Hid (∀ V, Keep (fun _ => False) w7 V → _) := Lib.hid (fun V hk => stays_Cells gn nc C m mcap cs V ((ST8.out.quiet hk).get 3 rfl) (HCS.out.below ((ST8.out.quiet hk).be)) (by omega))
      simp only [At.v, CellM.v] at HVa HVr HSg HSr HBl HBr
      have HBE : Hid (Below w.heap.size w w7) := Lib.hid ST8.out.be
      clear hav hsg hT ST8 HLS HCS HLN HCN HLB
      go_upto_region 21 with fail
      refine wp_region_det (fun V => Keep (fun _ => False) w7 V ∧ V.cell? ⟨pa, 0, none⟩ = some (.int .i64 f) ∧ V.cell? ⟨pa, 1, none⟩ = some (.int .i64 g) ∧ V.cell? ⟨pa, 2, none⟩ = some (.bool b) ∧ V.cell? ⟨pa, 3, none⟩ = some (.bool u) ∧ V.cell? ⟨pa, 4, none⟩ = some (.bool i)) (by kernel_rfl) (HS.out _ ((Keep.refl _ w7).drew)) ?_
      (try simp only [List.getElem_toArray])
      refine wpAnyD_take (i := 0) (oi := _) (v := ?vz0) rfl (by kernel_rfl) (by kernel_rfl) (by kernel_rfl) (fun _ _ _ _ _ => Iff.rfl) (YieldsIf.does (Or.inl ⟨by rfl, ?hyz0⟩)) ?restz0
      case hyz0 => (intro w hSw; (try dsimp only at hSw); (try simp only [List.getElem_toArray, List.getElem_cons_zero, List.getElem_cons_succ]); go_simp; (try with_reducible rfl))
      (try simp only [Act.put, List.setIfInBounds_toArray, List.set_cons_zero, List.set_cons_succ, List.getElem_toArray, List.getElem_cons_zero, List.getElem_cons_succ])
      refine wpAnyD_take (i := 1) (oi := _) (v := .bool av) rfl (by kernel_rfl) (by kernel_rfl) (by kernel_rfl) (fun _ _ _ _ _ => Iff.rfl) (Or.inl ⟨by rfl, ?hyz1⟩) ?restz1
      case hyz1 =>
        intro V hSV K hK
        (try simp only [List.getElem_toArray, List.getElem_cons_zero, List.getElem_cons_succ])
        go_simp
        refine (HVa.out V).mono ?_
        rintro e V2 ⟨rfl, hb⟩
        exact hK _ (HS.out _ (hSV.1.trans (Keep.of_below _ hb) (fun _ _ x => x)))
      (try simp only [Act.put, List.setIfInBounds_toArray, List.set_cons_zero, List.set_cons_succ, List.getElem_toArray, List.getElem_cons_zero, List.getElem_cons_succ])
      refine wpAnyD_take (i := 2) (oi := _) (v := ?vz2) rfl (by kernel_rfl) (by kernel_rfl) (by kernel_rfl) (fun _ _ _ _ _ => Iff.rfl) (YieldsIf.does (Or.inl ⟨by rfl, ?hyz2⟩)) ?restz2
      case hyz2 => (intro w hSw; (try dsimp only at hSw); (try simp only [List.getElem_toArray, List.getElem_cons_zero, List.getElem_cons_succ]); go_simp; (try with_reducible rfl))
      (try simp only [Act.put, List.setIfInBounds_toArray, List.set_cons_zero, List.set_cons_succ, List.getElem_toArray, List.getElem_cons_zero, List.getElem_cons_succ])
      refine wpAnyD_take (i := 3) (oi := _) (v := .bool av) rfl (by kernel_rfl) (by kernel_rfl) (by kernel_rfl) (fun _ _ _ _ _ => Iff.rfl) (Or.inl ⟨by rfl, ?hyz3⟩) ?restz3
      case hyz3 =>
        intro V hSV K hK
        (try simp only [List.getElem_toArray, List.getElem_cons_zero, List.getElem_cons_succ])
        go_simp
        refine (HVr.out V).mono ?_
        rintro e V2 ⟨rfl, hb⟩
        exact hK _ (HS.out _ (hSV.1.trans (Keep.of_below _ hb) (fun _ _ x => x)))
      (try simp only [Act.put, List.setIfInBounds_toArray, List.set_cons_zero, List.set_cons_succ, List.getElem_toArray, List.getElem_cons_zero, List.getElem_cons_succ])
      refine wpAnyD_take (i := 4) (oi := _) (v := ?vz4) rfl (by kernel_rfl) (by kernel_rfl) (by kernel_rfl) (fun _ _ _ _ _ => Iff.rfl) (YieldsIf.does (Or.inl ⟨by rfl, ?hyz4⟩)) ?restz4
      case hyz4 => (intro w hSw; (try dsimp only at hSw); (try simp only [List.getElem_toArray, List.getElem_cons_zero, List.getElem_cons_succ]); go_simp; (try with_reducible rfl))
      (try simp only [Act.put, List.setIfInBounds_toArray, List.set_cons_zero, List.set_cons_succ, List.getElem_toArray, List.getElem_cons_zero, List.getElem_cons_succ])
      refine wpAnyD_take (i := 5) (oi := _) (v := ?vz5) rfl (by kernel_rfl) (by kernel_rfl) (by kernel_rfl) (fun _ _ _ _ _ => Iff.rfl) (YieldsIf.does (Or.inl ⟨by rfl, ?hyz5⟩)) ?restz5
      case hyz5 => (intro w hSw; (try dsimp only at hSw); (try simp only [List.getElem_toArray, List.getElem_cons_zero, List.getElem_cons_succ]); go_simp; (try with_reducible rfl))
      (try simp only [Act.put, List.setIfInBounds_toArray, List.set_cons_zero, List.set_cons_succ, List.getElem_toArray, List.getElem_cons_zero, List.getElem_cons_succ])
      refine wpAnyD_take (i := 6) (oi := _) (v := ?vz6) rfl (by kernel_rfl) (by kernel_rfl) (by kernel_rfl) (fun _ _ _ _ _ => Iff.rfl) (YieldsIf.does (Or.inl ⟨by rfl, ?hyz6⟩)) ?restz6
      case hyz6 => (intro w hSw; (try dsimp only at hSw); (try simp only [List.getElem_toArray, List.getElem_cons_zero, List.getElem_cons_succ]); go_simp; (try with_reducible rfl))
      (try simp only [Act.put, List.setIfInBounds_toArray, List.set_cons_zero, List.set_cons_succ, List.getElem_toArray, List.getElem_cons_zero, List.getElem_cons_succ])
      refine wpAnyD_take (i := 7) (oi := _) (v := ?vz7) rfl (by kernel_rfl) (by kernel_rfl) (by kernel_rfl) (fun _ _ _ _ _ => Iff.rfl) (YieldsIf.does (Or.inl ⟨by rfl, ?hyz7⟩)) ?restz7
      case hyz7 => (intro w hSw; (try dsimp only at hSw); (try simp only [List.getElem_toArray, List.getElem_cons_zero, List.getElem_cons_succ]); go_simp; (try with_reducible rfl))
      (try simp only [Act.put, List.setIfInBounds_toArray, List.set_cons_zero, List.set_cons_succ, List.getElem_toArray, List.getElem_cons_zero, List.getElem_cons_succ])
      refine wpAnyD_take (i := 8) (oi := _) (v := .agg #[.int .i64 sf, .int .i64 sg, .bool sb, .bool su, .bool si]) rfl (by kernel_rfl) (by kernel_rfl) (by kernel_rfl) (fun _ _ _ _ _ => Iff.rfl) (Or.inl ⟨by rfl, ?hyz8⟩) ?restz8
      case hyz8 =>
        intro V hSV K hK
        (try simp only [List.getElem_toArray, List.getElem_cons_zero, List.getElem_cons_succ])
        go_simp
        refine (HSg.out V hSV.1).mono ?_
        rintro e V2 ⟨rfl, hb⟩
        exact hK _ (HS.out _ (hSV.1.trans (Keep.of_below _ hb) (fun _ _ x => x)))
      (try simp only [Act.put, List.setIfInBounds_toArray, List.set_cons_zero, List.set_cons_succ, List.getElem_toArray, List.getElem_cons_zero, List.getElem_cons_succ])
      refine wpAnyD_take (i := 9) (oi := _) (v := ?vz9) rfl (by kernel_rfl) (by kernel_rfl) (by kernel_rfl) (fun _ _ _ _ _ => Iff.rfl) (YieldsIf.does (Or.inl ⟨by rfl, ?hyz9⟩)) ?restz9
      case hyz9 => (intro w hSw; (try dsimp only at hSw); (try simp only [List.getElem_toArray, List.getElem_cons_zero, List.getElem_cons_succ]); go_simp; (try with_reducible rfl))
      (try simp only [Act.put, List.setIfInBounds_toArray, List.set_cons_zero, List.set_cons_succ, List.getElem_toArray, List.getElem_cons_zero, List.getElem_cons_succ])
      refine wpAnyD_take (i := 10) (oi := _) (v := ?vz10) rfl (by kernel_rfl) (by kernel_rfl) (by kernel_rfl) (fun _ _ _ _ _ => Iff.rfl) (YieldsIf.does (Or.inl ⟨by rfl, ?hyz10⟩)) ?restz10
      case hyz10 => (intro w hSw; (try dsimp only at hSw); (try simp only [List.getElem_toArray, List.getElem_cons_zero, List.getElem_cons_succ]); go_simp; (try with_reducible rfl))
      (try simp only [Act.put, List.setIfInBounds_toArray, List.set_cons_zero, List.set_cons_succ, List.getElem_toArray, List.getElem_cons_zero, List.getElem_cons_succ])
      refine wpAnyD_take (i := 11) (oi := _) (v := .agg #[.int .i64 sf, .int .i64 sg, .bool sb, .bool su, .bool si]) rfl (by kernel_rfl) (by kernel_rfl) (by kernel_rfl) (fun _ _ _ _ _ => Iff.rfl) (Or.inl ⟨by rfl, ?hyz11⟩) ?restz11
      case hyz11 =>
        intro V hSV K hK
        (try simp only [List.getElem_toArray, List.getElem_cons_zero, List.getElem_cons_succ])
        go_simp
        refine (HSr.out V hSV.1).mono ?_
        rintro e V2 ⟨rfl, hb⟩
        exact hK _ (HS.out _ (hSV.1.trans (Keep.of_below _ hb) (fun _ _ x => x)))
      (try simp only [Act.put, List.setIfInBounds_toArray, List.set_cons_zero, List.set_cons_succ, List.getElem_toArray, List.getElem_cons_zero, List.getElem_cons_succ])
      refine wpAnyD_take (i := 12) (oi := _) (v := ?vz12) rfl (by kernel_rfl) (by kernel_rfl) (by kernel_rfl) (fun _ _ _ _ _ => Iff.rfl) (YieldsIf.does (Or.inl ⟨by rfl, ?hyz12⟩)) ?restz12
      case hyz12 => (intro w hSw; (try dsimp only at hSw); (try simp only [List.getElem_toArray, List.getElem_cons_zero, List.getElem_cons_succ]); go_simp; (try with_reducible rfl))
      (try simp only [Act.put, List.setIfInBounds_toArray, List.set_cons_zero, List.set_cons_succ, List.getElem_toArray, List.getElem_cons_zero, List.getElem_cons_succ])
      refine wpAnyD_take (i := 13) (oi := _) (v := ?vz13) rfl (by kernel_rfl) (by kernel_rfl) (by kernel_rfl) (fun _ _ _ _ _ => Iff.rfl) (YieldsIf.does (Or.inl ⟨by rfl, ?hyz13⟩)) ?restz13
      case hyz13 => (intro w hSw; (try dsimp only at hSw); (try simp only [List.getElem_toArray, List.getElem_cons_zero, List.getElem_cons_succ]); go_simp; (try with_reducible rfl))
      (try simp only [Act.put, List.setIfInBounds_toArray, List.set_cons_zero, List.set_cons_succ, List.getElem_toArray, List.getElem_cons_zero, List.getElem_cons_succ])
      refine wpAnyD_take (i := 14) (oi := _) (v := ?vz14) rfl (by kernel_rfl) (by kernel_rfl) (by kernel_rfl) (fun _ _ _ _ _ => Iff.rfl) (YieldsIf.does (Or.inl ⟨by rfl, ?hyz14⟩)) ?restz14
      case hyz14 => (intro w hSw; (try dsimp only at hSw); (try simp only [List.getElem_toArray, List.getElem_cons_zero, List.getElem_cons_succ]); go_simp; (try with_reducible rfl))
      (try simp only [Act.put, List.setIfInBounds_toArray, List.set_cons_zero, List.set_cons_succ, List.getElem_toArray, List.getElem_cons_zero, List.getElem_cons_succ])
      refine wpAnyD_take (i := 15) (oi := _) (v := ?vz15) rfl (by kernel_rfl) (by kernel_rfl) (by kernel_rfl) (fun _ _ _ _ _ => Iff.rfl) (YieldsIf.does (Or.inl ⟨by rfl, ?hyz15⟩)) ?restz15
      case hyz15 => (intro w hSw; (try dsimp only at hSw); (try simp only [List.getElem_toArray, List.getElem_cons_zero, List.getElem_cons_succ]); go_simp; (try with_reducible rfl))
      (try simp only [Act.put, List.setIfInBounds_toArray, List.set_cons_zero, List.set_cons_succ, List.getElem_toArray, List.getElem_cons_zero, List.getElem_cons_succ])
      refine wpAnyD_take (i := 16) (oi := _) (v := .agg #[.int .i32 32, .int .i64 0, .int .i64 g, .bool false, .bool false, .bool false]) rfl (by kernel_rfl) (by kernel_rfl) (by kernel_rfl) (fun _ _ _ _ _ => Iff.rfl) (Or.inl ⟨by rfl, ?hyz16⟩) ?restz16
      case hyz16 =>
        intro V hSV K hK
        (try simp only [List.getElem_toArray, List.getElem_cons_zero, List.getElem_cons_succ])
        go_simp
        refine (HBl.out V).mono ?_
        rintro e V2 ⟨rfl, hb⟩
        exact hK _ (HS.out _ (hSV.1.trans (Keep.of_below _ hb) (fun _ _ x => x)))
      (try simp only [Act.put, List.setIfInBounds_toArray, List.set_cons_zero, List.set_cons_succ, List.getElem_toArray, List.getElem_cons_zero, List.getElem_cons_succ])
      refine wpAnyD_take (i := 17) (oi := _) (v := ?vz17) rfl (by kernel_rfl) (by kernel_rfl) (by kernel_rfl) (fun _ _ _ _ _ => Iff.rfl) (YieldsIf.does (Or.inl ⟨by rfl, ?hyz17⟩)) ?restz17
      case hyz17 => (intro w hSw; (try dsimp only at hSw); (try simp only [List.getElem_toArray, List.getElem_cons_zero, List.getElem_cons_succ]); go_simp; (try with_reducible rfl))
      (try simp only [Act.put, List.setIfInBounds_toArray, List.set_cons_zero, List.set_cons_succ, List.getElem_toArray, List.getElem_cons_zero, List.getElem_cons_succ])
      refine wpAnyD_take (i := 18) (oi := _) (v := .agg #[.int .i32 32, .int .i64 0, .int .i64 g, .bool false, .bool false, .bool false]) rfl (by kernel_rfl) (by kernel_rfl) (by kernel_rfl) (fun _ _ _ _ _ => Iff.rfl) (Or.inl ⟨by rfl, ?hyz18⟩) ?restz18
      case hyz18 =>
        intro V hSV K hK
        (try simp only [List.getElem_toArray, List.getElem_cons_zero, List.getElem_cons_succ])
        go_simp
        refine (HBr.out V).mono ?_
        rintro e V2 ⟨rfl, hb⟩
        exact hK _ (HS.out _ (hSV.1.trans (Keep.of_below _ hb) (fun _ _ x => x)))
      (try simp only [Act.put, List.setIfInBounds_toArray, List.set_cons_zero, List.set_cons_succ, List.getElem_toArray, List.getElem_cons_zero, List.getElem_cons_succ])
      refine wpAnyD_take (i := 19) (oi := _) (v := ?vz19) rfl (by kernel_rfl) (by kernel_rfl) (by kernel_rfl) (fun _ _ _ _ _ => Iff.rfl) (YieldsIf.does (Or.inl ⟨by rfl, ?hyz19⟩)) ?restz19
      case hyz19 => (intro w hSw; (try dsimp only at hSw); (try simp only [List.getElem_toArray, List.getElem_cons_zero, List.getElem_cons_succ]); go_simp; (try with_reducible rfl))
      (try simp only [Act.put, List.setIfInBounds_toArray, List.set_cons_zero, List.set_cons_succ, List.getElem_toArray, List.getElem_cons_zero, List.getElem_cons_succ])
      refine wpAnyD_take (i := 20) (oi := _) (v := ?vz20) rfl (by kernel_rfl) (by kernel_rfl) (by kernel_rfl) (fun _ _ _ _ _ => Iff.rfl) (YieldsIf.does (Or.inl ⟨by rfl, ?hyz20⟩)) ?restz20
      case hyz20 => (intro w hSw; (try dsimp only at hSw); (try simp only [List.getElem_toArray, List.getElem_cons_zero, List.getElem_cons_succ]); go_simp; (try with_reducible rfl))
      (try simp only [Act.put, List.setIfInBounds_toArray, List.set_cons_zero, List.set_cons_succ, List.getElem_toArray, List.getElem_cons_zero, List.getElem_cons_succ])
      refine wpAnyD_take (i := 21) (oi := _) (v := ?vz21) rfl (by kernel_rfl) (by kernel_rfl) (by kernel_rfl) (fun _ _ _ _ _ => Iff.rfl) (YieldsIf.does (Or.inl ⟨by rfl, ?hyz21⟩)) ?restz21
      case hyz21 => (intro w hSw; (try dsimp only at hSw); (try simp only [List.getElem_toArray, List.getElem_cons_zero, List.getElem_cons_succ]); go_simp; (try with_reducible rfl))
      (try simp only [Act.put, List.setIfInBounds_toArray, List.set_cons_zero, List.set_cons_succ, List.getElem_toArray, List.getElem_cons_zero, List.getElem_cons_succ])
      refine wpAnyD_take (i := 22) (oi := _) (v := ?vz22) rfl (by kernel_rfl) (by kernel_rfl) (by kernel_rfl) (fun _ _ _ _ _ => Iff.rfl) (YieldsIf.does (Or.inl ⟨by rfl, ?hyz22⟩)) ?restz22
      case hyz22 => (intro w hSw; (try dsimp only at hSw); (try simp only [List.getElem_toArray, List.getElem_cons_zero, List.getElem_cons_succ]); go_simp; (try with_reducible rfl))
      (try simp only [Act.put, List.setIfInBounds_toArray, List.set_cons_zero, List.set_cons_succ, List.getElem_toArray, List.getElem_cons_zero, List.getElem_cons_succ])
      refine wpAnyD_take (i := 23) (oi := _) (v := .string T) rfl (by kernel_rfl) (by kernel_rfl) (by kernel_rfl) (fun _ _ _ _ _ => Iff.rfl) (Or.inl ⟨by rfl, ?hyz23⟩) ?restz23
      case hyz23 =>
        intro V hSV K hK
        (try simp only [List.getElem_toArray, List.getElem_cons_zero, List.getElem_cons_succ])
        go_simp
        refine (HSh.out V hSV.1).mono ?_
        rintro e V2 ⟨rfl, hb⟩
        exact hK _ (HS.out _ (hSV.1.trans (Keep.of_below _ hb) (fun _ _ x => x)))
      (try simp only [Act.put, List.setIfInBounds_toArray, List.set_cons_zero, List.set_cons_succ, List.getElem_toArray, List.getElem_cons_zero, List.getElem_cons_succ])
      refine wpAnyD_take (i := 24) (oi := _) (v := ?vz24) rfl (by kernel_rfl) (by kernel_rfl) (by kernel_rfl) (fun _ _ _ _ _ => Iff.rfl) (YieldsIf.does (Or.inl ⟨by rfl, ?hyz24⟩)) ?restz24
      case hyz24 => (intro w hSw; (try dsimp only at hSw); (try simp only [List.getElem_toArray, List.getElem_cons_zero, List.getElem_cons_succ]); go_simp; (try with_reducible rfl))
      (try simp only [Act.put, List.setIfInBounds_toArray, List.set_cons_zero, List.set_cons_succ, List.getElem_toArray, List.getElem_cons_zero, List.getElem_cons_succ])
      refine wpAnyD_take (i := 25) (oi := _) (v := .string T) rfl (by kernel_rfl) (by kernel_rfl) (by kernel_rfl) (fun _ _ _ _ _ => Iff.rfl) (Or.inl ⟨by rfl, ?hyz25⟩) ?restz25
      case hyz25 =>
        intro V hSV K hK
        (try simp only [List.getElem_toArray, List.getElem_cons_zero, List.getElem_cons_succ])
        go_simp
        refine (HShr.out V hSV.1).mono ?_
        rintro e V2 ⟨rfl, hb⟩
        exact hK _ (HS.out _ (hSV.1.trans (Keep.of_below _ hb) (fun _ _ x => x)))
      (try simp only [Act.put, List.setIfInBounds_toArray, List.set_cons_zero, List.set_cons_succ, List.getElem_toArray, List.getElem_cons_zero, List.getElem_cons_succ])
      refine wpAnyD_take (i := 26) (oi := _) (v := ?vz26) rfl (by kernel_rfl) (by kernel_rfl) (by kernel_rfl) (fun _ _ _ _ _ => Iff.rfl) (YieldsIf.does (Or.inl ⟨by rfl, ?hyz26⟩)) ?restz26
      case hyz26 => (intro w hSw; (try dsimp only at hSw); (try simp only [List.getElem_toArray, List.getElem_cons_zero, List.getElem_cons_succ]); go_simp; (try with_reducible rfl))
      (try simp only [Act.put, List.setIfInBounds_toArray, List.set_cons_zero, List.set_cons_succ, List.getElem_toArray, List.getElem_cons_zero, List.getElem_cons_succ])
      refine wpAnyD_take (i := 27) (oi := _) (v := ?vz27) rfl (by kernel_rfl) (by kernel_rfl) (by kernel_rfl) (fun _ _ _ _ _ => Iff.rfl) (YieldsIf.does (Or.inl ⟨by rfl, ?hyz27⟩)) ?restz27
      case hyz27 => (intro w hSw; (try dsimp only at hSw); (try simp only [List.getElem_toArray, List.getElem_cons_zero, List.getElem_cons_succ]); go_simp; (try with_reducible rfl))
      (try simp only [Act.put, List.setIfInBounds_toArray, List.set_cons_zero, List.set_cons_succ, List.getElem_toArray, List.getElem_cons_zero, List.getElem_cons_succ])
      refine wpAnyD_take (i := 28) (oi := _) (v := ?vz28) rfl (by kernel_rfl) (by kernel_rfl) (by kernel_rfl) (fun _ _ _ _ _ => Iff.rfl) (YieldsIf.does (Or.inl ⟨by rfl, ?hyz28⟩)) ?restz28
      case hyz28 => (intro w hSw; (try dsimp only at hSw); (try simp only [List.getElem_toArray, List.getElem_cons_zero, List.getElem_cons_succ]); go_simp; (try with_reducible rfl))
      (try simp only [Act.put, List.setIfInBounds_toArray, List.set_cons_zero, List.set_cons_succ, List.getElem_toArray, List.getElem_cons_zero, List.getElem_cons_succ])
      refine wpAnyD_take (i := 29) (oi := _) (v := ?vz29) rfl (by kernel_rfl) (by kernel_rfl) (by kernel_rfl) (fun _ _ _ _ _ => Iff.rfl) (YieldsIf.does (Or.inl ⟨by rfl, ?hyz29⟩)) ?restz29
      case hyz29 => (intro w hSw; (try dsimp only at hSw); (try simp only [List.getElem_toArray, List.getElem_cons_zero, List.getElem_cons_succ]); go_simp; (try with_reducible rfl))
      (try simp only [Act.put, List.setIfInBounds_toArray, List.set_cons_zero, List.set_cons_succ, List.getElem_toArray, List.getElem_cons_zero, List.getElem_cons_succ])
      refine wpAnyD_take (i := 30) (oi := _) (v := ?vz30) rfl (by kernel_rfl) (by kernel_rfl) (by kernel_rfl) (fun _ _ _ _ _ => Iff.rfl) (YieldsIf.does (Or.inl ⟨by rfl, ?hyz30⟩)) ?restz30
      case hyz30 => (intro w hSw; (try dsimp only at hSw); (try simp only [List.getElem_toArray, List.getElem_cons_zero, List.getElem_cons_succ]); go_simp; (try with_reducible rfl))
      (try simp only [Act.put, List.setIfInBounds_toArray, List.set_cons_zero, List.set_cons_succ, List.getElem_toArray, List.getElem_cons_zero, List.getElem_cons_succ])
      refine wpAnyD_take (i := 31) (oi := _) (v := .bool true) rfl (by kernel_rfl) (by kernel_rfl) (by kernel_rfl) (fun _ _ _ _ _ => Iff.rfl) (Or.inl ⟨by rfl, ?hyz31⟩) ?restz31
      case hyz31 =>
        intro V hSV K hK
        (try simp only [List.getElem_toArray, List.getElem_cons_zero, List.getElem_cons_succ])
        go_simp
        refine (HSti.out V hSV.1).mono ?_
        rintro e V2 ⟨rfl, dk, rfl⟩
        exact hK _ (HS.out _ (hSV.1.drewN dk))
      (try simp only [Act.put, List.setIfInBounds_toArray, List.set_cons_zero, List.set_cons_succ, List.getElem_toArray, List.getElem_cons_zero, List.getElem_cons_succ])
      refine wpAnyD_take (i := 32) (oi := _) (v := ?vz32) rfl (by kernel_rfl) (by kernel_rfl) (by kernel_rfl) (fun _ _ _ _ _ => Iff.rfl) (YieldsIf.does (Or.inl ⟨by rfl, ?hyz32⟩)) ?restz32
      case hyz32 => (intro w hSw; (try dsimp only at hSw); (try simp only [List.getElem_toArray, List.getElem_cons_zero, List.getElem_cons_succ]); go_simp; (try with_reducible rfl))
      (try simp only [Act.put, List.setIfInBounds_toArray, List.set_cons_zero, List.set_cons_succ, List.getElem_toArray, List.getElem_cons_zero, List.getElem_cons_succ])
      refine wpAnyD_take (i := 33) (oi := _) (v := ?vz33) rfl (by kernel_rfl) (by kernel_rfl) (by kernel_rfl) (fun _ _ _ _ _ => Iff.rfl) (YieldsIf.does (Or.inl ⟨by rfl, ?hyz33⟩)) ?restz33
      case hyz33 => (intro w hSw; (try dsimp only at hSw); (try simp only [List.getElem_toArray, List.getElem_cons_zero, List.getElem_cons_succ]); go_simp; (try with_reducible rfl))
      (try simp only [Act.put, List.setIfInBounds_toArray, List.set_cons_zero, List.set_cons_succ, List.getElem_toArray, List.getElem_cons_zero, List.getElem_cons_succ])
      refine wpAnyD_take (i := 34) (oi := _) (v := ?vz34) rfl (by kernel_rfl) (by kernel_rfl) (by kernel_rfl) (fun _ _ _ _ _ => Iff.rfl) (YieldsIf.does (Or.inl ⟨by rfl, ?hyz34⟩)) ?restz34
      case hyz34 => (intro w hSw; (try dsimp only at hSw); (try simp only [List.getElem_toArray, List.getElem_cons_zero, List.getElem_cons_succ]); go_simp; (try with_reducible rfl))
      (try simp only [Act.put, List.setIfInBounds_toArray, List.set_cons_zero, List.set_cons_succ, List.getElem_toArray, List.getElem_cons_zero, List.getElem_cons_succ])
      refine wpAnyD_take (i := 35) (oi := _) (v := ?vz35) rfl (by kernel_rfl) (by kernel_rfl) (by kernel_rfl) (fun _ _ _ _ _ => Iff.rfl) (YieldsIf.does (Or.inl ⟨by rfl, ?hyz35⟩)) ?restz35
      case hyz35 => (intro w hSw; (try dsimp only at hSw); (try simp only [List.getElem_toArray, List.getElem_cons_zero, List.getElem_cons_succ]); go_simp; (try with_reducible rfl))
      (try simp only [Act.put, List.setIfInBounds_toArray, List.set_cons_zero, List.set_cons_succ, List.getElem_toArray, List.getElem_cons_zero, List.getElem_cons_succ])
      refine wpAnyD_take (i := 36) (oi := _) (v := .bool true) rfl (by kernel_rfl) (by kernel_rfl) (by kernel_rfl) (fun _ _ _ _ _ => Iff.rfl) (Or.inl ⟨by rfl, ?hyz36⟩) ?restz36
      case hyz36 =>
        intro V hSV K hK
        (try simp only [List.getElem_toArray, List.getElem_cons_zero, List.getElem_cons_succ])
        go_simp
        refine (HStc.out V hSV.1).mono ?_
        rintro e V2 ⟨rfl, dk, rfl⟩
        exact hK _ (HS.out _ (hSV.1.drewN dk))
      (try simp only [Act.put, List.setIfInBounds_toArray, List.set_cons_zero, List.set_cons_succ, List.getElem_toArray, List.getElem_cons_zero, List.getElem_cons_succ])
      refine wpAnyD_take (i := 37) (oi := _) (v := ?vz37) rfl (by kernel_rfl) (by kernel_rfl) (by kernel_rfl) (fun _ _ _ _ _ => Iff.rfl) (YieldsIf.does (Or.inl ⟨by rfl, ?hyz37⟩)) ?restz37
      case hyz37 => (intro w hSw; (try dsimp only at hSw); (try simp only [List.getElem_toArray, List.getElem_cons_zero, List.getElem_cons_succ]); go_simp; (try with_reducible rfl))
      (try simp only [Act.put, List.setIfInBounds_toArray, List.set_cons_zero, List.set_cons_succ, List.getElem_toArray, List.getElem_cons_zero, List.getElem_cons_succ])
      refine wpAnyD_take (i := 38) (oi := _) (v := ?vz38) rfl (by kernel_rfl) (by kernel_rfl) (by kernel_rfl) (fun _ _ _ _ _ => Iff.rfl) (YieldsIf.does (Or.inl ⟨by rfl, ?hyz38⟩)) ?restz38
      case hyz38 => (intro w hSw; (try dsimp only at hSw); (try simp only [List.getElem_toArray, List.getElem_cons_zero, List.getElem_cons_succ]); go_simp; (try with_reducible rfl))
      (try simp only [Act.put, List.setIfInBounds_toArray, List.set_cons_zero, List.set_cons_succ, List.getElem_toArray, List.getElem_cons_zero, List.getElem_cons_succ])
      refine wpAnyD_done (by kernel_rfl) (fun V hSV => ?_) _
      refine NoPanic.normal ?_
      have HBV : Hid (Below w.heap.size w V) := Lib.hid (HBE.out.trans (hSV.1.below HBE.out.size (fun _ _ x => x)))
      clear hSV
      go_wp2_with fail
      go_ret
      exact ⟨rfl, HBV.out⟩

end Go.Proofs.Ytihdiijnidcgkaa
