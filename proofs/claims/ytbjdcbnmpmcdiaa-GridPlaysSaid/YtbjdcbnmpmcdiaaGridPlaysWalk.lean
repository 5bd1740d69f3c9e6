/- Law GridPlays: the walk. By program (rgn/XGridPlaysWalk.py). Own work. -/
import Derived.Test.YtbjdcbnmpmcdiaaGridPlaysAt
import Derived.Test.YtbjdcbnmpmcdiaaAnyD
import Derived.Deep.Cut
import Derived.Deep.CutBlock
import Derived.Deep.CutRange
import Derived.IntWalk
namespace Go.Proofs.Ytbjdcbnmpmcdiaa
set_option linter.unusedVariables false
set_option linter.unusedSimpArgs false
open Go.RowKit

set_option maxRecDepth 100000 in
set_option maxHeartbeats 1600000 in
theorem gridPlays_early (a0 a1 : Int) (A : Option Addr) (N cap : Nat) (x y : Int) (w : World) (h : (N : Int) > 50) :
    Calls Try.prog 3 #[.int .i64 a0, .int .i64 a1, .slice A N cap, .int .i64 x, .int .i64 y] w fun e w' => e = .returned (.bool true) ∧ Below w.heap.size w w' := by
  go_enter Try.func3, Try.ntmps3
  go_wp2_with fail
  refine (alive_any _).mono ?_
  rintro e w1 ⟨rfl, hb⟩
  have HB := Lib.hid hb
  clear hb
  go_wp2_with fail
  go_ret
  exact ⟨rfl, HB.out⟩

set_option maxRecDepth 100000 in
set_option maxHeartbeats 6400000 in
theorem walk_GridPlays (a0 : Int) (wa0 : (Lit.int .i64 a0).wf = true) (a1 : Int) (wa1 : (Lit.int .i64 a1).wf = true) (A : Option Addr) (N cap : Nat) (ops : List GOp) (x : Int) (wx : (Lit.int .i64 x).wf = true) (y : Int) (wy : (Lit.int .i64 y).wf = true) (w : World) (h : Structs (GOpAt w) 11 w A N ops) :
    Calls Try.prog 3 #[.int .i64 a0, .int .i64 a1, .slice A N cap, .int .i64 x, .int .i64 y] w fun e w' => e = .returned (.bool true) ∧ Below w.heap.size w w' := by
  by_cases hN : (N : Int) > 50
  · exact gridPlays_early a0 a1 A N cap x y w hN
  obtain ⟨W0, hW0⟩ : ∃ W' : Nat, min (max a0 2) 40 = (W' : Int) := ⟨(min (max a0 2) 40).toNat, by omega⟩
  obtain ⟨H0, hH0⟩ : ∃ H' : Nat, min (max a1 1) 20 = (H' : Int) := ⟨(min (max a1 1) 20).toNat, by omega⟩
  have hN50 : N ≤ 50 := by omega
  have HOPS := Lib.hid h
  have HNEW := Lib.hid (fun V => grid_new V a0 a1 W0 H0 _ hW0 hH0 rfl)
  have HRNEW := Lib.hid (fun V => ref_new V a0 a1 W0 H0 hW0 hH0)
  clear h hW0 hH0 wx wy wa0 wa1
  go_enter Try.func3, Try.ntmps3
  go_wp2_with fail
  refine (alive_any _).mono ?_
  rintro e w1 ⟨rfl, hb1⟩
  have ST1 := Lib.hid (Star.nil hb1)
  clear hb1
  go_wp2_with fail
  refine (HNEW.out w1).mono ?_
  rintro e w2 ⟨rfl, hg2, hb2⟩
  have ST2 : Hid (Star w w2 ([] ++ [gridH (w1.heap.size + 1) w1.heap.size (W0 * H0) W0 H0 (W0 * H0) (linF W0 (fun _ _ => blankC))])) := Lib.hid (ST1.out.new (gridH (w1.heap.size + 1) w1.heap.size (W0 * H0) W0 H0 (W0 * H0) (linF W0 (fun _ _ => blankC))) (Keep.of_below _ hb2) (fun b e => by
    have h1 := hg2.lt
    have h2 := hg2.hg
    rcases e with e | e <;> omega) hg2 (gridH_cl _ _ _ _ _ _ _))
  obtain ⟨p0, hp0⟩ : ∃ p0, p0 = w1.heap.size + 1 := ⟨_, rfl⟩
  rw [← hp0] at ST2 ⊢
  clear hg2 hb2 ST1 hp0
  go_wp2_with fail
  refine (HRNEW.out w2).mono ?_
  rintro e w3 ⟨r, lb, lc, R, rfl, hrs, hr3, hb3⟩
  have ST3 : Hid (Star w w3 [gridH p0 w1.heap.size (W0 * H0) W0 H0 (W0 * H0) (linF W0 (fun _ _ => blankC)), rgridH r lb lc W0 H0 R (fun _ _ => blankC)]) := Lib.hid (ST2.out.new (rgridH r lb lc W0 H0 R (fun _ _ => blankC)) (Keep.of_below _ hb3) (fun b e => ⟨hrs b e, hr3.lt b e⟩) hr3 (rgridH_cl _ _ _ _ _ _ _))
  clear hrs hr3 hb3 ST2
  go_upto_region 8 with fail
  obtain ⟨w4, hw4⟩ : ∃ w4, w4 = w3.alloc (.cells #[.slice none 0 0, .slice none 0 0, .slice none 0 0, .slice none 0 0, .slice none 0 0, .slice none 0 0, .slice none 0 0, .slice none 0 0, .slice none 0 0, .slice none 0 0, .slice none 0 0, .slice none 0 0, .slice none 0 0, .slice none 0 0, .slice none 0 0, .slice none 0 0] 38) := ⟨_, rfl⟩
  rw [← hw4]
  obtain ⟨q, hq⟩ : ∃ q, q = w3.heap.size := ⟨_, rfl⟩
  have ST4 : Hid (Star w w4 [gridH p0 w1.heap.size (W0 * H0) W0 H0 (W0 * H0) (linF W0 (fun _ _ => blankC)), rgridH r lb lc W0 H0 R (fun _ _ => blankC), bookH q (fun _ _ => False) 0]) := Lib.hid (by
    have hbk := BoCellsTexts.made w4 w3.heap.size 38 (by rw [hw4]; exact heap_alloc_new w3 _)
    rw [hq]
    exact ST3.out.new (bookH w3.heap.size (fun _ _ => False) 0) (by rw [hw4]; exact (Keep.refl _ w3).alloc _) (fun b e => by
      rcases e with e | ⟨_, e⟩
      · subst e; exact ⟨Nat.le_refl _, by rw [hw4]; simp⟩
      · exact e.elim) hbk (bookH_cl _ _ _))
  rw [← hq]
  clear hw4 hq ST3
  have ST0 : Hid (∃ g c W H n lb lc R F own, Star w w4 [gridH p0 g c W H n (linF W F), rgridH r lb lc W H R F, bookH q own 0]) := Lib.hid ⟨_, _, _, _, _, _, _, _, _, _, ST4.out⟩
  clear ST4
  go_wp2_with fail
  go_loopw [11, 14] (fun sv i wr => ∃ k p : Nat, sv = .pointer (some ⟨p, 0, none⟩) ∧ i = .int .i64 k ∧ k ≤ N ∧ Hid (∃ g c W H n lb lc R F own, Star w wr [gridH p g c W H n (linF W F), rgridH r lb lc W H R F, bookH q own k])) (fun _ i _ => N - (intOf i).toNat)
  case atStart => exact ⟨0, p0, rfl, rfl, by omega, ST0⟩
  case round =>
    obtain ⟨k, p, rfl, rfl, hk, HI⟩ := hrel
    clear ST0
    by_cases hlt : k < N
    · obtain ⟨g, c, W, H, n, lb, lc, R, F, own, hst⟩ := HI.out
      have ST := Lib.hid hst
      obtain ⟨b, off, o, rfl, hbl, _, ho⟩ := HOPS.out.at hlt
      obtain ⟨K, oX, oY, oN, ⟨xr, ⟨xf, xg, xb, xu, xi⟩⟩, oA, on, oc, oL⟩ := o
      have hki : ((k : Int) < (N : Int)) := by omega
      have hk0 : (0 : Int) ≤ (k : Int) := by omega
      have dd : ∀ i v, ([.int .i64 K, .int .i64 oX, .int .i64 oY, .int .i64 oN, .int .i32 xr, .int .i64 xf, .int .i64 xg, .bool xb, .bool xu, .bool xi, .slice oA on oc] : List Value)[i]? = some v → wr.cell? ⟨b, off + k * 11 + i, none⟩ = some v := fun i v hv => (hst.be.cell (p := ⟨b, off + k * 11 + i, none⟩) hbl).trans (ho.at' i v hv)
      have d0 := dd 0 _ rfl
      have d1 := dd 1 _ rfl
      have d2 := dd 2 _ rfl
      have d3 := dd 3 _ rfl
      have d4 := dd 4 _ rfl
      have d5 := dd 5 _ rfl
      have d6 := dd 6 _ rfl
      have d7 := dd 7 _ rfl
      have d8 := dd 8 _ rfl
      have d9 := dd 9 _ rfl
      have d10 := dd 10 _ rfl
      rw [Nat.add_zero] at d0
      have hol : CellsL w oA on oL := ho.l
      have HSRC : Hid (∀ V, Below w.heap.size w V → Src V oA (on * 6) (flatL oL)) := Lib.hid (fun V hV => hol.1.below hV)
      have HLEN : Hid (oL.length = on) := Lib.hid hol.2.1
      have HSRCF : Hid (∀ V, Below w.heap.size w V → Src V oA (on * 6) (flatF (getF oL) on)) := Lib.hid (fun V hV => by
        have := HSRC.out V hV
        have hl := HLEN.out
        rw [← getF_flat, hl] at this
        exact this)
      have HOLD : Hid (0 < on → ∀ b, blk oA = some b → b < w.heap.size) := Lib.hid (fun h0 b hb => by
        obtain ⟨b', o', e, hlt', _⟩ := hol.1.2 (by omega)
        subst e
        simp [blk] at hb
        omega)
      clear ho hol dd HI hst
      obtain ⟨W1, hW1⟩ : ∃ W1, W1 = wr.alloc (.cells #[.int .i64 K, .int .i64 oX, .int .i64 oY, .int .i64 oN, .int .i32 xr, .int .i64 xf, .int .i64 xg, .bool xb, .bool xu, .bool xi, .slice oA on oc] 45) := ⟨_, rfl⟩
      obtain ⟨ob, hob⟩ : ∃ ob, ob = wr.heap.size := ⟨_, rfl⟩
      have STA : Hid (Star w W1 [gridH p g c W H n (linF W F), rgridH r lb lc W H R F, bookH q own k, boxH ob [.int .i64 K, .int .i64 oX, .int .i64 oY, .int .i64 oN, .int .i32 xr, .int .i64 xf, .int .i64 xg, .bool xb, .bool xu, .bool xi, .slice oA on oc]]) := Lib.hid (by
        rw [hW1, hob]
        exact star_box ST.out [.int .i64 K, .int .i64 oX, .int .i64 oY, .int .i64 oN, .int .i32 xr, .int .i64 xf, .int .i64 xg, .bool xb, .bool xu, .bool xi, .slice oA on oc] 45)
      have HWE : Hid (W1 = wr.alloc (.cells #[.int .i64 K, .int .i64 oX, .int .i64 oY, .int .i64 oN, .int .i32 xr, .int .i64 xf, .int .i64 xg, .bool xb, .bool xu, .bool xi, .slice oA on oc] 45)) := Lib.hid hW1
      clear hW1 ST
      go_upto_region 11 with fail
      rw [← hob, ← HWE.out]
      clear d0 d1 d2 d3 d4 d5 d6 d7 d8 d9 d10 HWE hob
      have x1 : W1.cell? ⟨ob, 10, none⟩ = some (.slice oA on oc) := ((STA.out.get 3 rfl : Cells W1 ob _) 10 _ rfl).1
      by_cases hlong : (on : Int) > 60
      · go_wp2_with fail
        go_ret
        exact ⟨rfl, STA.out.be⟩
      have hon60 : on ≤ 60 := by omega
      go_wp2_with fail
      refine (lent_Cells oA on oc oL W1 (HSRC.out _ STA.out.be) (by omega)).mono ?_
      rintro e W2 ⟨gm, mc, rfl, hlent, hgm, hbW⟩
      have STB : Hid (Star w W2 [gridH p g c W H n (linF W F), rgridH r lb lc W H R F, bookH q own k, boxH ob [.int .i64 K, .int .i64 oX, .int .i64 oY, .int .i64 oN, .int .i32 xr, .int .i64 xf, .int .i64 xg, .bool xb, .bool xu, .bool xi, .slice oA on oc], lentH gm mc oL]) := Lib.hid (STA.out.new (lentH gm mc oL) (Keep.of_below _ hbW) (fun b e => by rw [show b = gm from e]; exact ⟨hgm, hlent.lt⟩) hlent (lentH_cl _ _ _))
      clear hlent hgm hbW STA x1
      have x0 : W2.cell? ⟨ob, 0, none⟩ = some (.int .i64 K) := ((STB.out.get 3 rfl : Cells W2 ob _) 0 _ rfl).1
      go_upto_block 2 with fail
      go_cut [11, 17] from 60 to 208 (fun sv _ wx => ∃ p' : Nat, sv = .pointer (some ⟨p', 0, none⟩) ∧ Hid (∃ g c W H n lb lc R F, Star w wx [gridH p' g c W H n (linF W F), rgridH r lb lc W H R F, bookH q own k, boxH ob [.int .i64 K, .int .i64 oX, .int .i64 oY, .int .i64 oN, .int .i32 xr, .int .i64 xf, .int .i64 xg, .bool xb, .bool xu, .bool xi, .slice oA on oc], lentH gm mc oL]))
      case first =>
        as_aux_lemma =>
          by_cases hK1 : K = 1
          · subst hK1
            have HSB : Hid (∀ V, Cells V ob [.int .i64 1, .int .i64 oX, .int .i64 oY, .int .i64 oN, .int .i32 xr, .int .i64 xf, .int .i64 xg, .bool xb, .bool xu, .bool xi, .slice oA on oc] → (fun V => V.cell? ⟨ob, 1, none⟩ = some (.int .i64 oX) ∧ V.cell? ⟨ob, 2, none⟩ = some (.int .i64 oY) ∧ V.cell? ⟨ob, 10, none⟩ = some (.slice oA on oc)) V) := Lib.hid (fun V h => ⟨(h 1 _ rfl).1, (h 2 _ rfl).1, (h 10 _ rfl).1⟩)
            have STD := Lib.hid STB.out.drew
            have hlc : LentC W2.drew gm mc oL := STD.out.get 4 rfl
            have HSL : Hid (Src W2.drew (some ⟨gm, 0, none⟩) (on * 6) (flatF (getF oL) on)) := Lib.hid (by
              have := hlc.src
              have hl := HLEN.out
              rw [← getF_flat, hl] at this
              exact this)
            have HC1 := Lib.hid (lin_set (STD.out.get 0 rfl : GridAt W2.drew p g c W H n (linF W F)) oX oY (some ⟨gm, 0, none⟩) on mc (getF oL) HSL.out (by omega))
            obtain ⟨jj, hjj⟩ : ∃ jj, jj = min on (restN W H oX oY) := ⟨_, rfl⟩
            have HJJ := Lib.hid hjj
            clear hlc hjj
            go_wp2_with fail
            refine wp_region_noPanic ?_
            refine wp_region_held_drew (S := (fun V => V.cell? ⟨ob, 1, none⟩ = some (.int .i64 oX) ∧ V.cell? ⟨ob, 2, none⟩ = some (.int .i64 oY) ∧ V.cell? ⟨ob, 10, none⟩ = some (.slice oA on oc))) (by kernel_rfl) (HSB.out _ (STD.out.get 3 rfl)) (fun hHeld => ?_)
            refine wpAnyH_take (i := 0) (oi := _) (v := ?vs0) rfl (by kernel_rfl) (by kernel_rfl) (by kernel_rfl) (fun _ _ _ h => h) (Or.inl ⟨by rfl, ?hys0⟩) (by assumption) ?rests0
            case hys0 => (intro w hSw; (try dsimp only at hSw); (try simp only [List.getElem_toArray, List.getElem_cons_zero, List.getElem_cons_succ]); go_simp; (try with_reducible rfl))
            (try simp only [Act.put, List.setIfInBounds_toArray, List.set_cons_zero, List.set_cons_succ, List.getElem_toArray, List.getElem_cons_zero, List.getElem_cons_succ])
            refine wpAnyH_take (i := 1) (oi := _) (v := ?vs1) rfl (by kernel_rfl) (by kernel_rfl) (by kernel_rfl) (fun _ _ _ h => h) (Or.inl ⟨by rfl, ?hys1⟩) (by assumption) ?rests1
            case hys1 => (intro w hSw; (try dsimp only at hSw); (try simp only [List.getElem_toArray, List.getElem_cons_zero, List.getElem_cons_succ]); go_simp; (try with_reducible rfl))
            (try simp only [Act.put, List.setIfInBounds_toArray, List.set_cons_zero, List.set_cons_succ, List.getElem_toArray, List.getElem_cons_zero, List.getElem_cons_succ])
            refine wpAnyH_take (i := 2) (oi := _) (v := ?vs2) rfl (by kernel_rfl) (by kernel_rfl) (by kernel_rfl) (fun _ _ _ h => h) (Or.inl ⟨by rfl, ?hys2⟩) (by assumption) ?rests2
            case hys2 => (intro w hSw; (try dsimp only at hSw); (try simp only [List.getElem_toArray, List.getElem_cons_zero, List.getElem_cons_succ]); go_simp; (try with_reducible rfl))
            (try simp only [Act.put, List.setIfInBounds_toArray, List.set_cons_zero, List.set_cons_succ, List.getElem_toArray, List.getElem_cons_zero, List.getElem_cons_succ])
            refine wpAnyH_take (i := 3) (oi := _) (v := ?vs3) rfl (by kernel_rfl) (by kernel_rfl) (by kernel_rfl) (fun _ _ _ h => h) (Or.inl ⟨by rfl, ?hys3⟩) (by assumption) ?rests3
            case hys3 => (intro w hSw; (try dsimp only at hSw); (try simp only [List.getElem_toArray, List.getElem_cons_zero, List.getElem_cons_succ]); go_simp; (try with_reducible rfl))
            (try simp only [Act.put, List.setIfInBounds_toArray, List.set_cons_zero, List.set_cons_succ, List.getElem_toArray, List.getElem_cons_zero, List.getElem_cons_succ])
            refine wpAnyH_take (i := 4) (oi := _) (v := ?vs4) rfl (by kernel_rfl) (by kernel_rfl) (by kernel_rfl) (fun _ _ _ h => h) (Or.inl ⟨by rfl, ?hys4⟩) (by assumption) ?rests4
            case hys4 => (intro w hSw; (try dsimp only at hSw); (try simp only [List.getElem_toArray, List.getElem_cons_zero, List.getElem_cons_succ]); go_simp; (try with_reducible rfl))
            (try simp only [Act.put, List.setIfInBounds_toArray, List.set_cons_zero, List.set_cons_succ, List.getElem_toArray, List.getElem_cons_zero, List.getElem_cons_succ])
            refine wpAnyH_take (i := 5) (oi := _) (v := ?vs5) rfl (by kernel_rfl) (by kernel_rfl) (by kernel_rfl) (fun _ _ _ h => h) (Or.inl ⟨by rfl, ?hys5⟩) (by assumption) ?rests5
            case hys5 => (intro w hSw; (try dsimp only at hSw); (try simp only [List.getElem_toArray, List.getElem_cons_zero, List.getElem_cons_succ]); go_simp; (try with_reducible rfl))
            (try simp only [Act.put, List.setIfInBounds_toArray, List.set_cons_zero, List.set_cons_succ, List.getElem_toArray, List.getElem_cons_zero, List.getElem_cons_succ])
            refine wpAnyH_take (i := 7) (oi := _) (v := ?vs7) rfl (by kernel_rfl) (by kernel_rfl) (by kernel_rfl) (fun _ _ _ h => h) (Or.inl ⟨by rfl, ?hys7⟩) (by assumption) ?rests7
            case hys7 => (intro w hSw; (try dsimp only at hSw); (try simp only [List.getElem_toArray, List.getElem_cons_zero, List.getElem_cons_succ]); go_simp; (try with_reducible rfl))
            (try simp only [Act.put, List.setIfInBounds_toArray, List.set_cons_zero, List.set_cons_succ, List.getElem_toArray, List.getElem_cons_zero, List.getElem_cons_succ])
            refine wpAnyH_take (i := 8) (oi := _) (v := ?vs8) rfl (by kernel_rfl) (by kernel_rfl) (by kernel_rfl) (fun _ _ _ h => h) (Or.inl ⟨by rfl, ?hys8⟩) (by assumption) ?rests8
            case hys8 => (intro w hSw; (try dsimp only at hSw); (try simp only [List.getElem_toArray, List.getElem_cons_zero, List.getElem_cons_succ]); go_simp; (try with_reducible rfl))
            (try simp only [Act.put, List.setIfInBounds_toArray, List.set_cons_zero, List.set_cons_succ, List.getElem_toArray, List.getElem_cons_zero, List.getElem_cons_succ])
            refine wpAnyH_take (i := 9) (oi := _) (v := ?vs9) rfl (by kernel_rfl) (by kernel_rfl) (by kernel_rfl) (fun _ _ _ h => h) (Or.inl ⟨by rfl, ?hys9⟩) (by assumption) ?rests9
            case hys9 => (intro w hSw; (try dsimp only at hSw); (try simp only [List.getElem_toArray, List.getElem_cons_zero, List.getElem_cons_succ]); go_simp; (try with_reducible rfl))
            (try simp only [Act.put, List.setIfInBounds_toArray, List.set_cons_zero, List.set_cons_succ, List.getElem_toArray, List.getElem_cons_zero, List.getElem_cons_succ])
            refine wpAnyH_take (i := 10) (oi := _) (v := ?vs10) rfl (by kernel_rfl) (by kernel_rfl) (by kernel_rfl) (fun _ _ _ h => h) (Or.inl ⟨by rfl, ?hys10⟩) (by assumption) ?rests10
            case hys10 => (intro w hSw; (try dsimp only at hSw); (try simp only [List.getElem_toArray, List.getElem_cons_zero, List.getElem_cons_succ]); go_simp; (try with_reducible rfl))
            (try simp only [Act.put, List.setIfInBounds_toArray, List.set_cons_zero, List.set_cons_succ, List.getElem_toArray, List.getElem_cons_zero, List.getElem_cons_succ])
            refine wpAnyH_take (i := 11) (oi := _) (v := ?vs11) rfl (by kernel_rfl) (by kernel_rfl) (by kernel_rfl) (fun _ _ _ h => h) (Or.inl ⟨by rfl, ?hys11⟩) (by assumption) ?rests11
            case hys11 => (intro w hSw; (try dsimp only at hSw); (try simp only [List.getElem_toArray, List.getElem_cons_zero, List.getElem_cons_succ]); go_simp; (try with_reducible rfl))
            (try simp only [Act.put, List.setIfInBounds_toArray, List.set_cons_zero, List.set_cons_succ, List.getElem_toArray, List.getElem_cons_zero, List.getElem_cons_succ])
            refine wpAnyH_take (i := 12) (oi := _) (v := ?vs12) rfl (by kernel_rfl) (by kernel_rfl) (by kernel_rfl) (fun _ _ _ h => h) (Or.inl ⟨by rfl, ?hys12⟩) (by assumption) ?rests12
            case hys12 => (intro w hSw; (try dsimp only at hSw); (try simp only [List.getElem_toArray, List.getElem_cons_zero, List.getElem_cons_succ]); go_simp; (try with_reducible rfl))
            (try simp only [Act.put, List.setIfInBounds_toArray, List.set_cons_zero, List.set_cons_succ, List.getElem_toArray, List.getElem_cons_zero, List.getElem_cons_succ])
            refine wpAnyH_take (i := 13) (oi := _) (v := ?vs13) rfl (by kernel_rfl) (by kernel_rfl) (by kernel_rfl) (fun _ _ _ h => h) (Or.inl ⟨by rfl, ?hys13⟩) (by assumption) ?rests13
            case hys13 => (intro w hSw; (try dsimp only at hSw); (try simp only [List.getElem_toArray, List.getElem_cons_zero, List.getElem_cons_succ]); go_simp; (try with_reducible rfl))
            (try simp only [Act.put, List.setIfInBounds_toArray, List.set_cons_zero, List.set_cons_succ, List.getElem_toArray, List.getElem_cons_zero, List.getElem_cons_succ])
            refine wpAnyH_ready (rs := [6]) (by kernel_rfl) (by simp) ?_
            refine AllReadyH.cons (o := _) rfl (fun K hK => ?_) AllReadyH.nil
            (try simp only [List.getElem_toArray, List.getElem_cons_zero, List.getElem_cons_succ])
            go_simp
            (refine HC1.out.mono ?_; rintro e W3 ⟨rfl, hg3, hk3⟩; have ST3 := Lib.hid (star_grid STD.out 0 rfl hg3 hk3); clear hg3 hk3)
            refine hK.out _ _ ?_ (fun hHeld => ?_)
            · exact HSB.out _ (ST3.out.get 3 rfl)
            clear hK K
            (try simp only [Act.put, List.setIfInBounds_toArray, List.set_cons_zero, List.set_cons_succ, List.getElem_toArray, List.getElem_cons_zero, List.getElem_cons_succ])
            refine wpAnyH_ready (rs := [14]) (by kernel_rfl) (by simp) ?_
            refine AllReadyH.cons (o := _) rfl (fun K hK => ?_) AllReadyH.nil
            (try simp only [List.getElem_toArray, List.getElem_cons_zero, List.getElem_cons_succ])
            go_simp
            (refine (ref_set W3 r lb lc W H R F oX oY oA on oc (getF oL) (ST3.out.get 1 rfl) (HSRCF.out _ ST3.out.be) (fun h0 b hb e => ST3.out.old 1 rfl (HOLD.out h0 b hb) e) (by omega)).mono ?_; rintro e W4 ⟨rfl, hk4, hr4⟩; have ST4 := Lib.hid (star_rgK ST3.out 1 rfl hr4 hk4); clear hk4 hr4)
            refine hK.out _ _ ?_ (fun hHeld => ?_)
            · exact HSB.out _ (ST4.out.get 3 rfl)
            clear hK K
            (try simp only [Act.put, List.setIfInBounds_toArray, List.set_cons_zero, List.set_cons_succ, List.getElem_toArray, List.getElem_cons_zero, List.getElem_cons_succ])
            refine wpAnyH_take (i := 15) (oi := _) (v := ?vs15) rfl (by kernel_rfl) (by kernel_rfl) (by kernel_rfl) (fun _ _ _ h => h) (Or.inl ⟨by rfl, ?hys15⟩) (by assumption) ?rests15
            case hys15 => (intro w hSw; (try dsimp only at hSw); (try simp only [List.getElem_toArray, List.getElem_cons_zero, List.getElem_cons_succ]); go_simp; (try with_reducible rfl))
            (try simp only [Act.put, List.setIfInBounds_toArray, List.set_cons_zero, List.set_cons_succ, List.getElem_toArray, List.getElem_cons_zero, List.getElem_cons_succ])
            refine wpAnyH_done (by kernel_rfl) ?_ _
            refine NoPanic.normal ?_
            clear x0 STB STD HC1 ST3 hHeld
            go_wp2_with fail
            go_meet
            exact ⟨p, rfl, Lib.hid ⟨_, _, _, _, _, _, _, _, _, ST4.out⟩⟩
          · skip
            by_cases hK2 : K = 2
            · subst hK2
              have HC1 := Lib.hid (lin_fill (STB.out.get 0 rfl : GridAt W2 p g c W H n (linF W F)) oX oY ⟨xr, ⟨xf, xg, xb, xu, xi⟩⟩)
              have y1 := ((STB.out.get 3 rfl : Cells W2 ob _) 1 _ rfl).1
              have y2 := ((STB.out.get 3 rfl : Cells W2 ob _) 2 _ rfl).1
              have y4 := ((STB.out.get 3 rfl : Cells W2 ob _) 4 _ rfl).1
              have y5 := ((STB.out.get 3 rfl : Cells W2 ob _) 5 _ rfl).1
              have y6 := ((STB.out.get 3 rfl : Cells W2 ob _) 6 _ rfl).1
              have y7 := ((STB.out.get 3 rfl : Cells W2 ob _) 7 _ rfl).1
              have y8 := ((STB.out.get 3 rfl : Cells W2 ob _) 8 _ rfl).1
              have y9 := ((STB.out.get 3 rfl : Cells W2 ob _) 9 _ rfl).1
              go_wp2_with fail
              refine HC1.out.mono ?_
              rintro e W3 ⟨rfl, hg3, hk3⟩
              have ST3 := Lib.hid (star_grid STB.out 0 rfl hg3 hk3)
              clear hg3 hk3 HC1 x0 STB
              clear y1 y2 y4 y5 y6 y7 y8 y9
              have HC2 := Lib.hid (ref_fill W3 r lb lc W H R F oX oY ⟨xr, ⟨xf, xg, xb, xu, xi⟩⟩ (ST3.out.get 1 rfl))
              have y1 := ((ST3.out.get 3 rfl : Cells W3 ob _) 1 _ rfl).1
              have y2 := ((ST3.out.get 3 rfl : Cells W3 ob _) 2 _ rfl).1
              have y4 := ((ST3.out.get 3 rfl : Cells W3 ob _) 4 _ rfl).1
              have y5 := ((ST3.out.get 3 rfl : Cells W3 ob _) 5 _ rfl).1
              have y6 := ((ST3.out.get 3 rfl : Cells W3 ob _) 6 _ rfl).1
              have y7 := ((ST3.out.get 3 rfl : Cells W3 ob _) 7 _ rfl).1
              have y8 := ((ST3.out.get 3 rfl : Cells W3 ob _) 8 _ rfl).1
              have y9 := ((ST3.out.get 3 rfl : Cells W3 ob _) 9 _ rfl).1
              go_wp2_with fail
              refine HC2.out.mono ?_
              rintro e W4 ⟨rfl, hk4, hr4⟩
              have ST4 := Lib.hid (star_rgK ST3.out 1 rfl hr4 hk4)
              clear hk4 hr4 HC2 ST3
              clear y1 y2 y4 y5 y6 y7 y8 y9
              go_wp2_with fail
              go_meet
              exact ⟨p, rfl, Lib.hid ⟨_, _, _, _, _, _, _, _, _, ST4.out⟩⟩
            · skip
              by_cases hK3 : K = 3
              · subst hK3
                have HC1 := Lib.hid (lin_up (STB.out.get 0 rfl : GridAt W2 p g c W H n (linF W F)) oX oY oN ⟨xr, ⟨xf, xg, xb, xu, xi⟩⟩)
                have y1 := ((STB.out.get 3 rfl : Cells W2 ob _) 1 _ rfl).1
                have y2 := ((STB.out.get 3 rfl : Cells W2 ob _) 2 _ rfl).1
                have y3 := ((STB.out.get 3 rfl : Cells W2 ob _) 3 _ rfl).1
                have y4 := ((STB.out.get 3 rfl : Cells W2 ob _) 4 _ rfl).1
                have y5 := ((STB.out.get 3 rfl : Cells W2 ob _) 5 _ rfl).1
                have y6 := ((STB.out.get 3 rfl : Cells W2 ob _) 6 _ rfl).1
                have y7 := ((STB.out.get 3 rfl : Cells W2 ob _) 7 _ rfl).1
                have y8 := ((STB.out.get 3 rfl : Cells W2 ob _) 8 _ rfl).1
                have y9 := ((STB.out.get 3 rfl : Cells W2 ob _) 9 _ rfl).1
                go_wp2_with fail
                refine HC1.out.mono ?_
                rintro e W3 ⟨rfl, hg3, hk3⟩
                have ST3 := Lib.hid (star_grid STB.out 0 rfl hg3 hk3)
                clear hg3 hk3 HC1 x0 STB
                clear y1 y2 y3 y4 y5 y6 y7 y8 y9
                have HC2 := Lib.hid (ref_up W3 r lb lc W H R F oX oY oN ⟨xr, ⟨xf, xg, xb, xu, xi⟩⟩ (ST3.out.get 1 rfl))
                have y1 := ((ST3.out.get 3 rfl : Cells W3 ob _) 1 _ rfl).1
                have y2 := ((ST3.out.get 3 rfl : Cells W3 ob _) 2 _ rfl).1
                have y3 := ((ST3.out.get 3 rfl : Cells W3 ob _) 3 _ rfl).1
                have y4 := ((ST3.out.get 3 rfl : Cells W3 ob _) 4 _ rfl).1
                have y5 := ((ST3.out.get 3 rfl : Cells W3 ob _) 5 _ rfl).1
                have y6 := ((ST3.out.get 3 rfl : Cells W3 ob _) 6 _ rfl).1
                have y7 := ((ST3.out.get 3 rfl : Cells W3 ob _) 7 _ rfl).1
                have y8 := ((ST3.out.get 3 rfl : Cells W3 ob _) 8 _ rfl).1
                have y9 := ((ST3.out.get 3 rfl : Cells W3 ob _) 9 _ rfl).1
                go_wp2_with fail
                refine HC2.out.mono ?_
                rintro e W4 ⟨rfl, R4, hk4, hr4⟩
                have ST4 := Lib.hid (star_rg ST3.out 1 rfl hr4 hk4)
                clear hk4 hr4 HC2 ST3
                clear y1 y2 y3 y4 y5 y6 y7 y8 y9
                go_wp2_with fail
                go_meet
                exact ⟨p, rfl, Lib.hid ⟨_, _, _, _, _, _, _, _, _, ST4.out⟩⟩
              · skip
                by_cases hK4 : K = 4
                · subst hK4
                  have HC1 := Lib.hid (lin_down (STB.out.get 0 rfl : GridAt W2 p g c W H n (linF W F)) oX oY oN ⟨xr, ⟨xf, xg, xb, xu, xi⟩⟩)
                  have y1 := ((STB.out.get 3 rfl : Cells W2 ob _) 1 _ rfl).1
                  have y2 := ((STB.out.get 3 rfl : Cells W2 ob _) 2 _ rfl).1
                  have y3 := ((STB.out.get 3 rfl : Cells W2 ob _) 3 _ rfl).1
                  have y4 := ((STB.out.get 3 rfl : Cells W2 ob _) 4 _ rfl).1
                  have y5 := ((STB.out.get 3 rfl : Cells W2 ob _) 5 _ rfl).1
                  have y6 := ((STB.out.get 3 rfl : Cells W2 ob _) 6 _ rfl).1
                  have y7 := ((STB.out.get 3 rfl : Cells W2 ob _) 7 _ rfl).1
                  have y8 := ((STB.out.get 3 rfl : Cells W2 ob _) 8 _ rfl).1
                  have y9 := ((STB.out.get 3 rfl : Cells W2 ob _) 9 _ rfl).1
                  go_wp2_with fail
                  refine HC1.out.mono ?_
                  rintro e W3 ⟨rfl, hg3, hk3⟩
                  have ST3 := Lib.hid (star_grid STB.out 0 rfl hg3 hk3)
                  clear hg3 hk3 HC1 x0 STB
                  clear y1 y2 y3 y4 y5 y6 y7 y8 y9
                  have HC2 := Lib.hid (ref_down W3 r lb lc W H R F oX oY oN ⟨xr, ⟨xf, xg, xb, xu, xi⟩⟩ (ST3.out.get 1 rfl))
                  have y1 := ((ST3.out.get 3 rfl : Cells W3 ob _) 1 _ rfl).1
                  have y2 := ((ST3.out.get 3 rfl : Cells W3 ob _) 2 _ rfl).1
                  have y3 := ((ST3.out.get 3 rfl : Cells W3 ob _) 3 _ rfl).1
                  have y4 := ((ST3.out.get 3 rfl : Cells W3 ob _) 4 _ rfl).1
                  have y5 := ((ST3.out.get 3 rfl : Cells W3 ob _) 5 _ rfl).1
                  have y6 := ((ST3.out.get 3 rfl : Cells W3 ob _) 6 _ rfl).1
                  have y7 := ((ST3.out.get 3 rfl : Cells W3 ob _) 7 _ rfl).1
                  have y8 := ((ST3.out.get 3 rfl : Cells W3 ob _) 8 _ rfl).1
                  have y9 := ((ST3.out.get 3 rfl : Cells W3 ob _) 9 _ rfl).1
                  go_wp2_with fail
                  refine HC2.out.mono ?_
                  rintro e W4 ⟨rfl, R4, hk4, hr4⟩
                  have ST4 := Lib.hid (star_rg ST3.out 1 rfl hr4 hk4)
                  clear hk4 hr4 HC2 ST3
                  clear y1 y2 y3 y4 y5 y6 y7 y8 y9
                  go_wp2_with fail
                  go_meet
                  exact ⟨p, rfl, Lib.hid ⟨_, _, _, _, _, _, _, _, _, ST4.out⟩⟩
                · skip
                  by_cases hK5 : K = 5
                  · subst hK5
                    have HC1 := Lib.hid (lin_right (STB.out.get 0 rfl : GridAt W2 p g c W H n (linF W F)) oX oY oN ⟨xr, ⟨xf, xg, xb, xu, xi⟩⟩)
                    have y1 := ((STB.out.get 3 rfl : Cells W2 ob _) 1 _ rfl).1
                    have y2 := ((STB.out.get 3 rfl : Cells W2 ob _) 2 _ rfl).1
                    have y3 := ((STB.out.get 3 rfl : Cells W2 ob _) 3 _ rfl).1
                    have y4 := ((STB.out.get 3 rfl : Cells W2 ob _) 4 _ rfl).1
                    have y5 := ((STB.out.get 3 rfl : Cells W2 ob _) 5 _ rfl).1
                    have y6 := ((STB.out.get 3 rfl : Cells W2 ob _) 6 _ rfl).1
                    have y7 := ((STB.out.get 3 rfl : Cells W2 ob _) 7 _ rfl).1
                    have y8 := ((STB.out.get 3 rfl : Cells W2 ob _) 8 _ rfl).1
                    have y9 := ((STB.out.get 3 rfl : Cells W2 ob _) 9 _ rfl).1
                    go_wp2_with fail
                    refine HC1.out.mono ?_
                    rintro e W3 ⟨rfl, hg3, hk3⟩
                    have ST3 := Lib.hid (star_grid STB.out 0 rfl hg3 hk3)
                    clear hg3 hk3 HC1 x0 STB
                    clear y1 y2 y3 y4 y5 y6 y7 y8 y9
                    have HC2 := Lib.hid (ref_right W3 r lb lc W H R F oX oY oN ⟨xr, ⟨xf, xg, xb, xu, xi⟩⟩ (ST3.out.get 1 rfl))
                    have y1 := ((ST3.out.get 3 rfl : Cells W3 ob _) 1 _ rfl).1
                    have y2 := ((ST3.out.get 3 rfl : Cells W3 ob _) 2 _ rfl).1
                    have y3 := ((ST3.out.get 3 rfl : Cells W3 ob _) 3 _ rfl).1
                    have y4 := ((ST3.out.get 3 rfl : Cells W3 ob _) 4 _ rfl).1
                    have y5 := ((ST3.out.get 3 rfl : Cells W3 ob _) 5 _ rfl).1
                    have y6 := ((ST3.out.get 3 rfl : Cells W3 ob _) 6 _ rfl).1
                    have y7 := ((ST3.out.get 3 rfl : Cells W3 ob _) 7 _ rfl).1
                    have y8 := ((ST3.out.get 3 rfl : Cells W3 ob _) 8 _ rfl).1
                    have y9 := ((ST3.out.get 3 rfl : Cells W3 ob _) 9 _ rfl).1
                    go_wp2_with fail
                    refine HC2.out.mono ?_
                    rintro e W4 ⟨rfl, hk4, hr4⟩
                    have ST4 := Lib.hid (star_rgK ST3.out 1 rfl hr4 hk4)
                    clear hk4 hr4 HC2 ST3
                    clear y1 y2 y3 y4 y5 y6 y7 y8 y9
                    go_wp2_with fail
                    go_meet
                    exact ⟨p, rfl, Lib.hid ⟨_, _, _, _, _, _, _, _, _, ST4.out⟩⟩
                  · skip
                    by_cases hK6 : K = 6
                    · subst hK6
                      have HC1 := Lib.hid (lin_left (STB.out.get 0 rfl : GridAt W2 p g c W H n (linF W F)) oX oY oN ⟨xr, ⟨xf, xg, xb, xu, xi⟩⟩)
                      have y1 := ((STB.out.get 3 rfl : Cells W2 ob _) 1 _ rfl).1
                      have y2 := ((STB.out.get 3 rfl : Cells W2 ob _) 2 _ rfl).1
                      have y3 := ((STB.out.get 3 rfl : Cells W2 ob _) 3 _ rfl).1
                      have y4 := ((STB.out.get 3 rfl : Cells W2 ob _) 4 _ rfl).1
                      have y5 := ((STB.out.get 3 rfl : Cells W2 ob _) 5 _ rfl).1
                      have y6 := ((STB.out.get 3 rfl : Cells W2 ob _) 6 _ rfl).1
                      have y7 := ((STB.out.get 3 rfl : Cells W2 ob _) 7 _ rfl).1
                      have y8 := ((STB.out.get 3 rfl : Cells W2 ob _) 8 _ rfl).1
                      have y9 := ((STB.out.get 3 rfl : Cells W2 ob _) 9 _ rfl).1
                      go_wp2_with fail
                      refine HC1.out.mono ?_
                      rintro e W3 ⟨rfl, hg3, hk3⟩
                      have ST3 := Lib.hid (star_grid STB.out 0 rfl hg3 hk3)
                      clear hg3 hk3 HC1 x0 STB
                      clear y1 y2 y3 y4 y5 y6 y7 y8 y9
                      have HC2 := Lib.hid (ref_left W3 r lb lc W H R F oX oY oN ⟨xr, ⟨xf, xg, xb, xu, xi⟩⟩ (ST3.out.get 1 rfl))
                      have y1 := ((ST3.out.get 3 rfl : Cells W3 ob _) 1 _ rfl).1
                      have y2 := ((ST3.out.get 3 rfl : Cells W3 ob _) 2 _ rfl).1
                      have y3 := ((ST3.out.get 3 rfl : Cells W3 ob _) 3 _ rfl).1
                      have y4 := ((ST3.out.get 3 rfl : Cells W3 ob _) 4 _ rfl).1
                      have y5 := ((ST3.out.get 3 rfl : Cells W3 ob _) 5 _ rfl).1
                      have y6 := ((ST3.out.get 3 rfl : Cells W3 ob _) 6 _ rfl).1
                      have y7 := ((ST3.out.get 3 rfl : Cells W3 ob _) 7 _ rfl).1
                      have y8 := ((ST3.out.get 3 rfl : Cells W3 ob _) 8 _ rfl).1
                      have y9 := ((ST3.out.get 3 rfl : Cells W3 ob _) 9 _ rfl).1
                      go_wp2_with fail
                      refine HC2.out.mono ?_
                      rintro e W4 ⟨rfl, hk4, hr4⟩
                      have ST4 := Lib.hid (star_rgK ST3.out 1 rfl hr4 hk4)
                      clear hk4 hr4 HC2 ST3
                      clear y1 y2 y3 y4 y5 y6 y7 y8 y9
                      go_wp2_with fail
                      go_meet
                      exact ⟨p, rfl, Lib.hid ⟨_, _, _, _, _, _, _, _, _, ST4.out⟩⟩
                    · skip
                      by_cases hK7 : K = 7
                      · subst hK7
                        obtain ⟨W', hW'⟩ : ∃ W' : Nat, min (max oX 2) 40 = (W' : Int) := ⟨(min (max oX 2) 40).toNat, by omega⟩
                        obtain ⟨H', hH'⟩ : ∃ H' : Nat, min (max oY 1) 20 = (H' : Int) := ⟨(min (max oY 1) 20).toNat, by omega⟩
                        have HC1 := Lib.hid (lin_size (STB.out.get 0 rfl : GridAt W2 p g c W H n (linF W F)) oX oY W' H' _ hW' hH' rfl)
                        have HWH := Lib.hid (And.intro hW' hH')
                        clear hW' hH'
                        have y1 := ((STB.out.get 3 rfl : Cells W2 ob _) 1 _ rfl).1
                        have y2 := ((STB.out.get 3 rfl : Cells W2 ob _) 2 _ rfl).1
                        go_wp2_with fail
                        refine HC1.out.mono ?_
                        rintro e W3 ⟨rfl, g3, c3, hgs, hg3, hk3⟩
                        have ST3 := Lib.hid (star_gridS STB.out 0 rfl hgs hg3 hk3)
                        clear hg3 hk3 hgs HC1 x0 STB
                        clear y1 y2
                        have HC2 := Lib.hid (ref_size W3 r lb lc W H R F oX oY W' H' (ST3.out.get 1 rfl) HWH.out.1 HWH.out.2)
                        have y1 := ((ST3.out.get 3 rfl : Cells W3 ob _) 1 _ rfl).1
                        have y2 := ((ST3.out.get 3 rfl : Cells W3 ob _) 2 _ rfl).1
                        go_wp2_with fail
                        refine HC2.out.mono ?_
                        rintro e W4 ⟨rfl, lx, lxc, Rx, hk4, hr4⟩
                        have ST4 := Lib.hid (star_rg ST3.out 1 rfl hr4 hk4)
                        clear hk4 hr4 HC2 ST3
                        clear y1 y2
                        go_wp2_with fail
                        go_meet
                        exact ⟨p, rfl, Lib.hid ⟨_, _, _, _, _, _, _, _, _, ST4.out⟩⟩
                      · skip
                        have HC1 := Lib.hid (grid_copy W2 p g c W H n (linF W F) (STB.out.get 0 rfl))
                        go_wp2_with fail
                        refine HC1.out.mono ?_
                        rintro e W3 ⟨p', g', c', rfl, hgs, hps, hg3, hb3⟩
                        have ST3 : Hid (Star w W3 [gridH p g c W H n (linF W F), rgridH r lb lc W H R F, bookH q own k, boxH ob [.int .i64 K, .int .i64 oX, .int .i64 oY, .int .i64 oN, .int .i32 xr, .int .i64 xf, .int .i64 xg, .bool xb, .bool xu, .bool xi, .slice oA on oc], lentH gm mc oL, gridH p' g' c' W H n (linF W F)]) := Lib.hid (STB.out.new (gridH p' g' c' W H n (linF W F)) (Keep.of_below _ hb3) (fun b e => by
                          have h1 := hg3.lt
                          have h2 := hg3.hg
                          rcases e with e | e <;> omega) hg3 (gridH_cl _ _ _ _ _ _ _))
                        clear hgs hps hg3 hb3 HC1 STB x0
                        have HC2 := Lib.hid (lin_fill (ST3.out.get 0 rfl : GridAt W3 p g c W H n (linF W F)) 0 100000 ⟨xr, ⟨xf, xg, xb, xu, xi⟩⟩)
                        have y4 := ((ST3.out.get 3 rfl : Cells W3 ob _) 4 _ rfl).1
                        have y5 := ((ST3.out.get 3 rfl : Cells W3 ob _) 5 _ rfl).1
                        have y6 := ((ST3.out.get 3 rfl : Cells W3 ob _) 6 _ rfl).1
                        have y7 := ((ST3.out.get 3 rfl : Cells W3 ob _) 7 _ rfl).1
                        have y8 := ((ST3.out.get 3 rfl : Cells W3 ob _) 8 _ rfl).1
                        have y9 := ((ST3.out.get 3 rfl : Cells W3 ob _) 9 _ rfl).1
                        go_wp2_with fail
                        refine HC2.out.mono ?_
                        rintro e W4 ⟨rfl, hg4, hk4⟩
                        have ST4 := Lib.hid (star_grid ST3.out 0 rfl hg4 hk4)
                        clear hg4 hk4 HC2 ST3
                        clear y4 y5 y6 y7 y8 y9
                        have HC3 := Lib.hid (lin_size (ST4.out.get 0 rfl : GridAt W4 p g c W H n _) 3 3 3 3 9 (by decide) (by decide) rfl)
                        go_wp2_with fail
                        refine HC3.out.mono ?_
                        rintro e W5 ⟨rfl, g5, c5, hgs, hg5, hk5⟩
                        have ST5 := Lib.hid ((star_gridS ST4.out 0 rfl hgs hg5 hk5).lastFirst (xs := [rgridH r lb lc W H R F, bookH q own k, boxH ob [.int .i64 K, .int .i64 oX, .int .i64 oY, .int .i64 oN, .int .i32 xr, .int .i64 xf, .int .i64 xg, .bool xb, .bool xu, .bool xi, .slice oA on oc], lentH gm mc oL]))
                        clear hgs hg5 hk5 HC3 ST4
                        go_wp2_with fail
                        go_meet
                        exact ⟨p', rfl, Lib.hid ⟨_, _, _, _, _, _, _, _, _, ST5.out⟩⟩
      case rest =>
        as_aux_lemma =>
          obtain ⟨p2, rfl, HI2⟩ := hcut
          clear STB x0
          obtain ⟨g2, c2, V2, H2, n2, lb2, lc2, R2, F2, hst⟩ := HI2.out
          have ST := Lib.hid hst
          have hga : GridAt wc p2 g2 c2 V2 H2 n2 (linF V2 F2) := hst.get 0 rfl
          have HN2 : Hid (n2 = V2 * H2) := Lib.hid hga.hn
          have hn8 : n2 ≤ 800 := hga.n800.1
          have HC1 := Lib.hid (grid_cells wc p2 g2 c2 V2 H2 n2 _ hga)
          clear HI2 hst hga
          go_wp2_with fail
          refine HC1.out.mono ?_
          rintro e X1 ⟨gc, cc, rfl, z1, z2, -, -, -, z6, z7⟩
          have T1 : Hid (Star w X1 [gridH p2 g2 c2 V2 H2 n2 (linF V2 F2), rgridH r lb2 lc2 V2 H2 R2 F2, bookH q own k, boxH ob [.int .i64 K, .int .i64 oX, .int .i64 oY, .int .i64 oN, .int .i32 xr, .int .i64 xf, .int .i64 xg, .bool xb, .bool xu, .bool xi, .slice oA on oc], lentH gm mc oL, ownH wc.heap.size 42 6 (some ⟨gc, 0, none⟩) n2 cc (flatF (linF V2 F2) n2)]) := Lib.hid (ST.out.new (ownH wc.heap.size 42 6 (some ⟨gc, 0, none⟩) n2 cc (flatF (linF V2 F2) n2)) (Keep.of_below _ z7) (fun b e => by
            have e' : gc = b := by simpa [ownH, blk] using e
            subst e'
            exact ⟨z1, z2⟩) z6 (ownH_cl _ _ _ _ _ _ _))
          clear z1 z2 z6 z7 HC1 ST
          have HC2 := Lib.hid (ref_cells X1 r lb2 lc2 V2 H2 R2 F2 (T1.out.get 1 rfl))
          rw [← HN2.out] at HC2
          go_wp2_with fail
          refine HC2.out.mono ?_
          rintro e X2 ⟨gd, cd, rfl, z1, z2, -, -, -, z6, z7⟩
          have T2 : Hid (Star w X2 [gridH p2 g2 c2 V2 H2 n2 (linF V2 F2), rgridH r lb2 lc2 V2 H2 R2 F2, bookH q own k, boxH ob [.int .i64 K, .int .i64 oX, .int .i64 oY, .int .i64 oN, .int .i32 xr, .int .i64 xf, .int .i64 xg, .bool xb, .bool xu, .bool xi, .slice oA on oc], lentH gm mc oL, ownH wc.heap.size 42 6 (some ⟨gc, 0, none⟩) n2 cc (flatF (linF V2 F2) n2), ownH X1.heap.size 42 6 (some ⟨gd, 0, none⟩) n2 cd (flatF (linF V2 F2) n2)]) := Lib.hid (T1.out.new (ownH X1.heap.size 42 6 (some ⟨gd, 0, none⟩) n2 cd (flatF (linF V2 F2) n2)) (Keep.of_below _ z7) (fun b e => by
            have e' : gd = b := by simpa [ownH, blk] using e
            subst e'
            exact ⟨z1, z2⟩) z6 (ownH_cl _ _ _ _ _ _ _))
          clear z1 z2 z6 z7 HC2 T1
          have hoc : X2.ownsRow wc.heap.size 42 6 (.slice (some ⟨gc, 0, none⟩) n2 cc) n2 (flatF (linF V2 F2) n2) := T2.out.get 5 rfl
          have hfar : ∀ i, blk (some (⟨gc, 0, none⟩ : Addr)) = some i → i ≠ q ∧ ∀ t, ¬ own t i := fun i hi => ⟨fun e => T2.out.far 5 2 (by decide) rfl rfl i hi (.inl e), fun t e => T2.out.far 5 2 (by decide) rfl rfl i hi (.inr ⟨t, e⟩)⟩
          have HPUT := Lib.hid (BoCellsTexts.put_Cells (T2.out.get 2 rfl : BoCellsTexts X2 q own k) (some ⟨gc, 0, none⟩) n2 cc _ (BufZ.of_own hoc) (by rw [flatF_rowL]; exact sm_cells _ _ _) (by omega) hfar (by omega))
          have HOC := Lib.hid hoc
          have HFAR := Lib.hid hfar
          clear hoc hfar
          go_wp2_with fail
          refine HPUT.out.mono ?_
          rintro e X3 ⟨rfl, own3, hb3, hk3, hs3⟩
          have T3 : Hid (Star w X3 [gridH p2 g2 c2 V2 H2 n2 (linF V2 F2), rgridH r lb2 lc2 V2 H2 R2 F2, bookH q own3 (k + 1), boxH ob [.int .i64 K, .int .i64 oX, .int .i64 oY, .int .i64 oN, .int .i32 xr, .int .i64 xf, .int .i64 xg, .bool xb, .bool xu, .bool xi, .slice oA on oc], lentH gm mc oL, Hold.no, ownH X1.heap.size 42 6 (some ⟨gd, 0, none⟩) n2 cd (flatF (linF V2 F2) n2)]) := Lib.hid (star_put T2.out 2 5 (by decide) rfl rfl hb3 hk3 hs3)
          have HSC : Hid (Src X3 (some ⟨gc, 0, none⟩) (n2 * 6) (flatL (rowL n2 (linF V2 F2)))) := Lib.hid (by
            have := (BufZ.of_own (own_keep HOC.out hk3 (fun i hi e => by
              rw [ownBlock_slice] at hi
              rcases e with e | ⟨t, e⟩
              · exact (HFAR.out i hi).1 e
              · exact (HFAR.out i hi).2 t e))).src
            rwa [flatF_rowL] at this)
          have HGC : Hid (gc < X3.heap.size) := Lib.hid (Nat.lt_of_lt_of_le (T2.out.lt 5 rfl (k := gc) (by simp [ownH, blk])) hk3.size)
          clear hb3 hk3 hs3 HPUT HOC HFAR T2
          obtain ⟨X4, hX4⟩ : ∃ X4, X4 = X3.alloc (.cells #[.int .i32 0, .int .i64 0, .int .i64 0, .bool false, .bool false, .bool false] 42) := ⟨_, rfl⟩
          obtain ⟨ab, hab⟩ : ∃ ab, ab = X3.heap.size := ⟨_, rfl⟩
          have T4 : Hid (Star w X4 [gridH p2 g2 c2 V2 H2 n2 (linF V2 F2), rgridH r lb2 lc2 V2 H2 R2 F2, bookH q own3 (k + 1), boxH ob [.int .i64 K, .int .i64 oX, .int .i64 oY, .int .i64 oN, .int .i32 xr, .int .i64 xf, .int .i64 xg, .bool xb, .bool xu, .bool xi, .slice oA on oc], lentH gm mc oL, Hold.no, ownH X1.heap.size 42 6 (some ⟨gd, 0, none⟩) n2 cd (flatF (linF V2 F2) n2), atH ab CellM.z]) := Lib.hid (by
            rw [hX4, hab]
            exact T3.out.new (atH X3.heap.size CellM.z) ((Keep.refl _ X3).alloc _) (fun b e => by rw [show b = X3.heap.size from e]; simp) ⟨lies_block X3 _ _ (fun _ => CellM.z) 1 rfl, by simp⟩ (atH_cl _ _))
          have HK4 : Hid (Keep (fun _ => False) X3 X4) := Lib.hid (by rw [hX4]; exact (Keep.refl _ X3).alloc _)
          clear T3
          go_upto_region 45 with fail
          rw [← hX4]
          rw [← hab]
          have hgab : Hid (gc ≠ ab) := Lib.hid (by have := HGC.out; omega)
          clear hX4 hab
          have HIN := Lib.hid (ref_in X4 r lb2 lc2 V2 H2 R2 F2 x y (T4.out.get 1 rfl))
          obtain ⟨bin, hbin⟩ : ∃ bin, bin = decide (0 ≤ x ∧ x < V2 ∧ 0 ≤ y ∧ y < H2) := ⟨_, rfl⟩
          rw [← hbin] at HIN
          have HBIN := Lib.hid hbin
          clear hbin
          go_wp2_with fail
          refine HIN.out.mono ?_
          rintro e X5 ⟨rfl, rfl⟩
          go_upto_if 220 with fail
          clear HIN
          go_cut [230] from 221 to 230 (fun _ wx => Hid (∃ Z, atF V2 H2 (linF V2 F2) x y = Z ∧ Star w wx [gridH p2 g2 c2 V2 H2 n2 (linF V2 F2), rgridH r lb2 lc2 V2 H2 R2 F2, bookH q own3 (k + 1), boxH ob [.int .i64 K, .int .i64 oX, .int .i64 oY, .int .i64 oN, .int .i32 xr, .int .i64 xf, .int .i64 xg, .bool xb, .bool xu, .bool xi, .slice oA on oc], lentH gm mc oL, Hold.no, ownH X1.heap.size 42 6 (some ⟨gd, 0, none⟩) n2 cd (flatF (linF V2 F2) n2), atH ab Z] ∧ Src wx (some ⟨gc, 0, none⟩) (n2 * 6) (flatL (rowL n2 (linF V2 F2)))))
          case first =>
            cases bin with
            | true =>
              have hin : 0 ≤ x ∧ x < V2 ∧ 0 ≤ y ∧ y < H2 := of_decide_eq_true HBIN.out.symm
              obtain ⟨xn, hxn⟩ := Int.eq_ofNat_of_zero_le hin.1
              obtain ⟨yn, hyn⟩ := Int.eq_ofNat_of_zero_le hin.2.2.1
              subst hxn hyn
              have hxV : xn < V2 := by omega
              have hyH : yn < H2 := by omega
              have hR : RGrid X5 r lb2 lc2 V2 H2 R2 F2 := T4.out.get 1 rfl
              obtain ⟨⟨zr, ⟨zf, zg, zb, zu, zi⟩⟩, hz⟩ : ∃ Z, F2 yn xn = Z := ⟨_, rfl⟩
              obtain ⟨gy, hgy⟩ : ∃ gy, gy = R2 yn := ⟨_, rfl⟩
              have c2' := hR.cs.1
              have cl := (hR.row yn hyH).1
              have s6 := (hR.lie yn hyH).six (j := xn) hxV
              rw [hz, ← hgy] at s6
              rw [← hgy] at cl
              obtain ⟨q0, q1, q2, q3, q4, q5⟩ := s6
              simp only at q0 q1 q2 q3 q4 q5
              have hL4 : Lies X5 ab 0 1 (fun _ => CellM.z) := (T4.out.get 7 rfl : Lies X5 ab 0 1 (fun _ => CellM.z) ∧ _).1
              have HL4 := Lib.hid hL4
              have t1 : (xn : Int) < (V2 : Int) := by omega
              have t2 : (0 : Int) ≤ (xn : Int) := by omega
              have t3 : (yn : Int) < (H2 : Int) := by omega
              have t4 : (0 : Int) ≤ (yn : Int) := by omega
              have HZ : Hid (atF V2 H2 (linF V2 F2) (xn : Int) (yn : Int) = ⟨zr, ⟨zf, zg, zb, zu, zi⟩⟩) := Lib.hid (by rw [atF_lin F2 xn yn hxV hyH, hz])
              clear hin hR hz hgy hL4
              go_wp2_with (with_reducible refine wpList_store_cell rfl _ _ _ rfl ab 0 0 1 _ HL4.out (by omega) ⟨zr, ⟨zf, zg, zb, zu, zi⟩⟩ ?hx ?hy cell_info ?_)
              case hx => rfl
              case hy => rfl
              intro X6 hp6
              have T6 : Hid (Star w X6 [gridH p2 g2 c2 V2 H2 n2 (linF V2 F2), rgridH r lb2 lc2 V2 H2 R2 F2, bookH q own3 (k + 1), boxH ob [.int .i64 K, .int .i64 oX, .int .i64 oY, .int .i64 oN, .int .i32 xr, .int .i64 xf, .int .i64 xg, .bool xb, .bool xu, .bool xi, .slice oA on oc], lentH gm mc oL, Hold.no, ownH X1.heap.size 42 6 (some ⟨gd, 0, none⟩) n2 cd (flatF (linF V2 F2) n2), atH ab ⟨zr, ⟨zf, zg, zb, zu, zi⟩⟩]) := Lib.hid (T4.out.turn 7 rfl (atH ab ⟨zr, ⟨zf, zg, zb, zu, zi⟩⟩) hp6.keep (fun b e => ⟨.inl e, by rw [show b = ab from e]; exact Nat.lt_of_lt_of_le (T4.out.lt 7 rfl (k := ab) rfl) hp6.keep.size⟩) ⟨PutC.whole HL4.out (by simpa using hp6), Nat.lt_of_lt_of_le (T4.out.lt 7 rfl (k := ab) rfl) hp6.keep.size⟩ (atH_cl _ _))
              have HKX : Hid (Src X6 (some ⟨gc, 0, none⟩) (n2 * 6) (flatL (rowL n2 (linF V2 F2)))) := Lib.hid (src_keepN (HSC.out.keep HK4.out) hp6.keep (fun i hi e => by
                have e' : gc = i := by simpa [blk] using hi
                exact hgab.out (e'.trans e)))
              clear hp6 c2' cl q0 q1 q2 q3 q4 q5 T4 HL4
              go_wp2_with fail
              go_meet
              exact Lib.hid ⟨_, HZ.out, T6.out, HKX.out⟩
            | false =>
              have hin : ¬ (0 ≤ x ∧ x < V2 ∧ 0 ≤ y ∧ y < H2) := of_decide_eq_false HBIN.out.symm
              have HX : Hid (Hid (∃ Z, atF V2 H2 (linF V2 F2) x y = Z ∧ Star w X5 [gridH p2 g2 c2 V2 H2 n2 (linF V2 F2), rgridH r lb2 lc2 V2 H2 R2 F2, bookH q own3 (k + 1), boxH ob [.int .i64 K, .int .i64 oX, .int .i64 oY, .int .i64 oN, .int .i32 xr, .int .i64 xf, .int .i64 xg, .bool xb, .bool xu, .bool xi, .slice oA on oc], lentH gm mc oL, Hold.no, ownH X1.heap.size 42 6 (some ⟨gd, 0, none⟩) n2 cd (flatF (linF V2 F2) n2), atH ab Z] ∧ Src X5 (some ⟨gc, 0, none⟩) (n2 * 6) (flatL (rowL n2 (linF V2 F2))))) := Lib.hid (Lib.hid ⟨CellM.z, if_neg hin, T4.out, HSC.out.keep HK4.out⟩)
              clear hin T4
              go_wp2_with fail
              go_meet
              exact HX.out
          case rest =>
            obtain ⟨⟨zr, ⟨zf, zg, zb, zu, zi⟩⟩, hZ, hT6, hKX⟩ := hcut.out
            have HZ := Lib.hid hZ
            have T6 := Lib.hid hT6
            have HKX := Lib.hid hKX
            obtain ⟨X6, hX6⟩ : ∃ X6, X6 = wc := ⟨_, rfl⟩
            rw [← hX6] at T6 HKX ⊢
            clear hcut hZ hT6 hKX hX6 T4
            have HS : Hid (∀ V, Keep (fun _ => False) X6 V → (fun V => Keep (fun _ => False) X6 V ∧ V.cell? ⟨r, 0, none⟩ = some (.int .i64 V2) ∧ V.cell? ⟨r, 1, none⟩ = some (.int .i64 H2) ∧ V.cell? ⟨ob, 10, none⟩ = some (.slice oA on oc) ∧ V.cell? ⟨ab, 0, none⟩ = some (.int .i32 zr) ∧ V.cell? ⟨ab, 1, none⟩ = some (.int .i64 zf) ∧ V.cell? ⟨ab, 2, none⟩ = some (.int .i64 zg) ∧ V.cell? ⟨ab, 3, none⟩ = some (.bool zb) ∧ V.cell? ⟨ab, 4, none⟩ = some (.bool zu) ∧ V.cell? ⟨ab, 5, none⟩ = some (.bool zi)) V) := Lib.hid (fun V hk => by
              have hst := T6.out.quiet hk
              have h1 : RGrid V r lb2 lc2 V2 H2 R2 F2 := hst.get 1 rfl
              have h3 : Cells V ob _ := hst.get 3 rfl
              have h7 : Lies V ab 0 1 (fun _ => ⟨zr, ⟨zf, zg, zb, zu, zi⟩⟩) ∧ ab < V.heap.size := hst.get 7 rfl
              have s := h7.1.six (j := 0) (by omega)
              exact ⟨hk, h1.cw.1, h1.ch.1, (h3 10 _ rfl).1, s.1, s.2.1, s.2.2.1, s.2.2.2.1, s.2.2.2.2.1, s.2.2.2.2.2⟩)
            have HSame : Hid (∀ V, Keep (fun _ => False) X6 V → _) := Lib.hid (fun V hk => same_Cells (some ⟨gc, 0, none⟩) (some ⟨gd, 0, none⟩) n2 cc cd (rowL n2 (linF V2 F2)) V (HKX.out.keep hk) (by
              have := (BufZ.of_own ((T6.out.quiet hk).get 6 rfl : V.ownsRow X1.heap.size 42 6 (.slice (some ⟨gd, 0, none⟩) n2 cd) n2 (flatF (linF V2 F2) n2))).src
              rwa [flatF_rowL] at this) (by omega))
            have HWc : Hid (∀ V, Keep (fun _ => False) X6 V → _) := Lib.hid (fun V hk => grid_W V p2 g2 c2 V2 H2 n2 _ ((T6.out.quiet hk).get 0 rfl))
            have HHc : Hid (∀ V, Keep (fun _ => False) X6 V → _) := Lib.hid (fun V hk => grid_H V p2 g2 c2 V2 H2 n2 _ ((T6.out.quiet hk).get 0 rfl))
            have HAt : Hid (∀ V, Keep (fun _ => False) X6 V → Calls Try.prog 35 #[.pointer (some ⟨p2, 0, none⟩), .int .i64 x, .int .i64 y] V fun e w' => e = .returned (.agg #[.int .i32 zr, .int .i64 zf, .int .i64 zg, .bool zb, .bool zu, .bool zi]) ∧ Below V.heap.size V w') := Lib.hid (fun V hk => by
              have := grid_at V p2 g2 c2 V2 H2 n2 (linF V2 F2) x y ((T6.out.quiet hk).get 0 rfl)
              rw [HZ.out] at this
              exact this)
            have HSt : Hid (∀ V, Keep (fun _ => False) X6 V → _) := Lib.hid (fun V hk => stays_Cells gm mc oA on oc oL V ((T6.out.quiet hk).get 4 rfl) (HSRC.out V (T6.out.quiet hk).be) (by omega))
            have TF0 : Hid (∀ V, Keep (fun _ => False) X6 V → ∃ g c W H n lb lc R F own, Star w V [gridH p2 g c W H n (linF W F), rgridH r lb lc W H R F, bookH q own (k + 1)]) := Lib.hid (fun V hk => ⟨g2, c2, V2, H2, n2, lb2, lc2, R2, F2, own3, (T6.out.quiet hk).first 3⟩)
            go_upto_region 47 with fail
            refine wp_region_det (fun V => Keep (fun _ => False) X6 V ∧ V.cell? ⟨r, 0, none⟩ = some (.int .i64 V2) ∧ V.cell? ⟨r, 1, none⟩ = some (.int .i64 H2) ∧ V.cell? ⟨ob, 10, none⟩ = some (.slice oA on oc) ∧ V.cell? ⟨ab, 0, none⟩ = some (.int .i32 zr) ∧ V.cell? ⟨ab, 1, none⟩ = some (.int .i64 zf) ∧ V.cell? ⟨ab, 2, none⟩ = some (.int .i64 zg) ∧ V.cell? ⟨ab, 3, none⟩ = some (.bool zb) ∧ V.cell? ⟨ab, 4, none⟩ = some (.bool zu) ∧ V.cell? ⟨ab, 5, none⟩ = some (.bool zi)) (by kernel_rfl) (HS.out _ ((Keep.refl _ X6).drew)) ?_
            (try simp only [List.getElem_toArray])
            refine wpAnyD_take (i := 0) (oi := _) (v := ?vr0) rfl (by kernel_rfl) (by kernel_rfl) (by kernel_rfl) (fun _ _ _ _ _ => Iff.rfl) (YieldsIf.does (Or.inl ⟨by rfl, ?hyr0⟩)) ?restr0
            case hyr0 => (intro w hSw; (try dsimp only at hSw); (try simp only [List.getElem_toArray, List.getElem_cons_zero, List.getElem_cons_succ]); go_simp; (try with_reducible rfl))
            (try simp only [Act.put, List.setIfInBounds_toArray, List.set_cons_zero, List.set_cons_succ, List.getElem_toArray, List.getElem_cons_zero, List.getElem_cons_succ])
            refine wpAnyD_take (i := 1) (oi := _) (v := ?vr1) rfl (by kernel_rfl) (by kernel_rfl) (by kernel_rfl) (fun _ _ _ _ _ => Iff.rfl) (YieldsIf.does (Or.inl ⟨by rfl, ?hyr1⟩)) ?restr1
            case hyr1 => (intro w hSw; (try dsimp only at hSw); (try simp only [List.getElem_toArray, List.getElem_cons_zero, List.getElem_cons_succ]); go_simp; (try with_reducible rfl))
            (try simp only [Act.put, List.setIfInBounds_toArray, List.set_cons_zero, List.set_cons_succ, List.getElem_toArray, List.getElem_cons_zero, List.getElem_cons_succ])
            refine wpAnyD_take (i := 2) (oi := _) (v := .bool true) rfl (by kernel_rfl) (by kernel_rfl) (by kernel_rfl) (fun _ _ _ _ _ => Iff.rfl) (Or.inl ⟨by rfl, ?hyr2⟩) ?restr2
            case hyr2 =>
              intro V hSV K hK
              (try simp only [List.getElem_toArray, List.getElem_cons_zero, List.getElem_cons_succ])
              go_simp
              refine (HSame.out V hSV.1).mono ?_
              rintro e V9 ⟨rfl, dk, rfl⟩
              exact hK _ (HS.out _ (hSV.1.drewN dk))
            (try simp only [Act.put, List.setIfInBounds_toArray, List.set_cons_zero, List.set_cons_succ, List.getElem_toArray, List.getElem_cons_zero, List.getElem_cons_succ])
            refine wpAnyD_take (i := 3) (oi := _) (v := ?vr3) rfl (by kernel_rfl) (by kernel_rfl) (by kernel_rfl) (fun _ _ _ _ _ => Iff.rfl) (YieldsIf.does (Or.inl ⟨by rfl, ?hyr3⟩)) ?restr3
            case hyr3 => (intro w hSw; (try dsimp only at hSw); (try simp only [List.getElem_toArray, List.getElem_cons_zero, List.getElem_cons_succ]); go_simp; (try with_reducible rfl))
            (try simp only [Act.put, List.setIfInBounds_toArray, List.set_cons_zero, List.set_cons_succ, List.getElem_toArray, List.getElem_cons_zero, List.getElem_cons_succ])
            refine wpAnyD_take (i := 4) (oi := _) (v := ?vr4) rfl (by kernel_rfl) (by kernel_rfl) (by kernel_rfl) (fun _ _ _ _ _ => Iff.rfl) (YieldsIf.does (Or.inl ⟨by rfl, ?hyr4⟩)) ?restr4
            case hyr4 => (intro w hSw; (try dsimp only at hSw); (try simp only [List.getElem_toArray, List.getElem_cons_zero, List.getElem_cons_succ]); go_simp; (try with_reducible rfl))
            (try simp only [Act.put, List.setIfInBounds_toArray, List.set_cons_zero, List.set_cons_succ, List.getElem_toArray, List.getElem_cons_zero, List.getElem_cons_succ])
            refine wpAnyD_take (i := 5) (oi := _) (v := ?vr5) rfl (by kernel_rfl) (by kernel_rfl) (by kernel_rfl) (fun _ _ _ _ _ => Iff.rfl) (YieldsIf.does (Or.inl ⟨by rfl, ?hyr5⟩)) ?restr5
            case hyr5 => (intro w hSw; (try dsimp only at hSw); (try simp only [List.getElem_toArray, List.getElem_cons_zero, List.getElem_cons_succ]); go_simp; (try with_reducible rfl))
            (try simp only [Act.put, List.setIfInBounds_toArray, List.set_cons_zero, List.set_cons_succ, List.getElem_toArray, List.getElem_cons_zero, List.getElem_cons_succ])
            refine wpAnyD_take (i := 6) (oi := _) (v := .int .i64 V2) rfl (by kernel_rfl) (by kernel_rfl) (by kernel_rfl) (fun _ _ _ _ _ => Iff.rfl) (Or.inl ⟨by rfl, ?hyr6⟩) ?restr6
            case hyr6 =>
              intro V hSV K hK
              (try simp only [List.getElem_toArray, List.getElem_cons_zero, List.getElem_cons_succ])
              go_simp
              refine (HWc.out V hSV.1).mono ?_
              rintro e V9 ⟨rfl, rfl⟩
              exact hK _ hSV
            (try simp only [Act.put, List.setIfInBounds_toArray, List.set_cons_zero, List.set_cons_succ, List.getElem_toArray, List.getElem_cons_zero, List.getElem_cons_succ])
            refine wpAnyD_take (i := 7) (oi := _) (v := ?vr7) rfl (by kernel_rfl) (by kernel_rfl) (by kernel_rfl) (fun _ _ _ _ _ => Iff.rfl) (YieldsIf.does (Or.inl ⟨by rfl, ?hyr7⟩)) ?restr7
            case hyr7 => (intro w hSw; (try dsimp only at hSw); (try simp only [List.getElem_toArray, List.getElem_cons_zero, List.getElem_cons_succ]); go_simp; (try with_reducible rfl))
            (try simp only [Act.put, List.setIfInBounds_toArray, List.set_cons_zero, List.set_cons_succ, List.getElem_toArray, List.getElem_cons_zero, List.getElem_cons_succ])
            refine wpAnyD_take (i := 8) (oi := _) (v := ?vr8) rfl (by kernel_rfl) (by kernel_rfl) (by kernel_rfl) (fun _ _ _ _ _ => Iff.rfl) (YieldsIf.does (Or.inl ⟨by rfl, ?hyr8⟩)) ?restr8
            case hyr8 => (intro w hSw; (try dsimp only at hSw); (try simp only [List.getElem_toArray, List.getElem_cons_zero, List.getElem_cons_succ]); go_simp; (try with_reducible rfl))
            (try simp only [Act.put, List.setIfInBounds_toArray, List.set_cons_zero, List.set_cons_succ, List.getElem_toArray, List.getElem_cons_zero, List.getElem_cons_succ])
            refine wpAnyD_take (i := 9) (oi := _) (v := ?vr9) rfl (by kernel_rfl) (by kernel_rfl) (by kernel_rfl) (fun _ _ _ _ _ => Iff.rfl) (YieldsIf.does (Or.inl ⟨by rfl, ?hyr9⟩)) ?restr9
            case hyr9 => (intro w hSw; (try dsimp only at hSw); (try simp only [List.getElem_toArray, List.getElem_cons_zero, List.getElem_cons_succ]); go_simp; (try with_reducible rfl))
            (try simp only [Act.put, List.setIfInBounds_toArray, List.set_cons_zero, List.set_cons_succ, List.getElem_toArray, List.getElem_cons_zero, List.getElem_cons_succ])
            refine wpAnyD_take (i := 10) (oi := _) (v := ?vr10) rfl (by kernel_rfl) (by kernel_rfl) (by kernel_rfl) (fun _ _ _ _ _ => Iff.rfl) (YieldsIf.does (Or.inl ⟨by rfl, ?hyr10⟩)) ?restr10
            case hyr10 => (intro w hSw; (try dsimp only at hSw); (try simp only [List.getElem_toArray, List.getElem_cons_zero, List.getElem_cons_succ]); go_simp; (try with_reducible rfl))
            (try simp only [Act.put, List.setIfInBounds_toArray, List.set_cons_zero, List.set_cons_succ, List.getElem_toArray, List.getElem_cons_zero, List.getElem_cons_succ])
            refine wpAnyD_take (i := 11) (oi := _) (v := ?vr11) rfl (by kernel_rfl) (by kernel_rfl) (by kernel_rfl) (fun _ _ _ _ _ => Iff.rfl) (YieldsIf.does (Or.inl ⟨by rfl, ?hyr11⟩)) ?restr11
            case hyr11 => (intro w hSw; (try dsimp only at hSw); (try simp only [List.getElem_toArray, List.getElem_cons_zero, List.getElem_cons_succ]); go_simp; (try with_reducible rfl))
            (try simp only [Act.put, List.setIfInBounds_toArray, List.set_cons_zero, List.set_cons_succ, List.getElem_toArray, List.getElem_cons_zero, List.getElem_cons_succ])
            refine wpAnyD_take (i := 12) (oi := _) (v := ?vr12) rfl (by kernel_rfl) (by kernel_rfl) (by kernel_rfl) (fun _ _ _ _ _ => Iff.rfl) (YieldsIf.does (Or.inl ⟨by rfl, ?hyr12⟩)) ?restr12
            case hyr12 => (intro w hSw; (try dsimp only at hSw); (try simp only [List.getElem_toArray, List.getElem_cons_zero, List.getElem_cons_succ]); go_simp; (try with_reducible rfl))
            (try simp only [Act.put, List.setIfInBounds_toArray, List.set_cons_zero, List.set_cons_succ, List.getElem_toArray, List.getElem_cons_zero, List.getElem_cons_succ])
            refine wpAnyD_take (i := 13) (oi := _) (v := ?vr13) rfl (by kernel_rfl) (by kernel_rfl) (by kernel_rfl) (fun _ _ _ _ _ => Iff.rfl) (YieldsIf.does (Or.inl ⟨by rfl, ?hyr13⟩)) ?restr13
            case hyr13 => (intro w hSw; (try dsimp only at hSw); (try simp only [List.getElem_toArray, List.getElem_cons_zero, List.getElem_cons_succ]); go_simp; (try with_reducible rfl))
            (try simp only [Act.put, List.setIfInBounds_toArray, List.set_cons_zero, List.set_cons_succ, List.getElem_toArray, List.getElem_cons_zero, List.getElem_cons_succ])
            refine wpAnyD_take (i := 14) (oi := _) (v := ?vr14) rfl (by kernel_rfl) (by kernel_rfl) (by kernel_rfl) (fun _ _ _ _ _ => Iff.rfl) (YieldsIf.does (Or.inl ⟨by rfl, ?hyr14⟩)) ?restr14
            case hyr14 => (intro w hSw; (try dsimp only at hSw); (try simp only [List.getElem_toArray, List.getElem_cons_zero, List.getElem_cons_succ]); go_simp; (try with_reducible rfl))
            (try simp only [Act.put, List.setIfInBounds_toArray, List.set_cons_zero, List.set_cons_succ, List.getElem_toArray, List.getElem_cons_zero, List.getElem_cons_succ])
            refine wpAnyD_take (i := 15) (oi := _) (v := .int .i64 H2) rfl (by kernel_rfl) (by kernel_rfl) (by kernel_rfl) (fun _ _ _ _ _ => Iff.rfl) (Or.inl ⟨by rfl, ?hyr15⟩) ?restr15
            case hyr15 =>
              intro V hSV K hK
              (try simp only [List.getElem_toArray, List.getElem_cons_zero, List.getElem_cons_succ])
              go_simp
              refine (HHc.out V hSV.1).mono ?_
              rintro e V9 ⟨rfl, rfl⟩
              exact hK _ hSV
            (try simp only [Act.put, List.setIfInBounds_toArray, List.set_cons_zero, List.set_cons_succ, List.getElem_toArray, List.getElem_cons_zero, List.getElem_cons_succ])
            refine wpAnyD_take (i := 16) (oi := _) (v := ?vr16) rfl (by kernel_rfl) (by kernel_rfl) (by kernel_rfl) (fun _ _ _ _ _ => Iff.rfl) (YieldsIf.does (Or.inl ⟨by rfl, ?hyr16⟩)) ?restr16
            case hyr16 => (intro w hSw; (try dsimp only at hSw); (try simp only [List.getElem_toArray, List.getElem_cons_zero, List.getElem_cons_succ]); go_simp; (try with_reducible rfl))
            (try simp only [Act.put, List.setIfInBounds_toArray, List.set_cons_zero, List.set_cons_succ, List.getElem_toArray, List.getElem_cons_zero, List.getElem_cons_succ])
            refine wpAnyD_take (i := 17) (oi := _) (v := ?vr17) rfl (by kernel_rfl) (by kernel_rfl) (by kernel_rfl) (fun _ _ _ _ _ => Iff.rfl) (YieldsIf.does (Or.inl ⟨by rfl, ?hyr17⟩)) ?restr17
            case hyr17 => (intro w hSw; (try dsimp only at hSw); (try simp only [List.getElem_toArray, List.getElem_cons_zero, List.getElem_cons_succ]); go_simp; (try with_reducible rfl))
            (try simp only [Act.put, List.setIfInBounds_toArray, List.set_cons_zero, List.set_cons_succ, List.getElem_toArray, List.getElem_cons_zero, List.getElem_cons_succ])
            refine wpAnyD_take (i := 18) (oi := _) (v := ?vr18) rfl (by kernel_rfl) (by kernel_rfl) (by kernel_rfl) (fun _ _ _ _ _ => Iff.rfl) (YieldsIf.does (Or.inl ⟨by rfl, ?hyr18⟩)) ?restr18
            case hyr18 => (intro w hSw; (try dsimp only at hSw); (try simp only [List.getElem_toArray, List.getElem_cons_zero, List.getElem_cons_succ]); go_simp; (try with_reducible rfl))
            (try simp only [Act.put, List.setIfInBounds_toArray, List.set_cons_zero, List.set_cons_succ, List.getElem_toArray, List.getElem_cons_zero, List.getElem_cons_succ])
            refine wpAnyD_take (i := 19) (oi := _) (v := ?vr19) rfl (by kernel_rfl) (by kernel_rfl) (by kernel_rfl) (fun _ _ _ _ _ => Iff.rfl) (YieldsIf.does (Or.inl ⟨by rfl, ?hyr19⟩)) ?restr19
            case hyr19 => (intro w hSw; (try dsimp only at hSw); (try simp only [List.getElem_toArray, List.getElem_cons_zero, List.getElem_cons_succ]); go_simp; (try with_reducible rfl))
            (try simp only [Act.put, List.setIfInBounds_toArray, List.set_cons_zero, List.set_cons_succ, List.getElem_toArray, List.getElem_cons_zero, List.getElem_cons_succ])
            refine wpAnyD_take (i := 20) (oi := _) (v := ?vr20) rfl (by kernel_rfl) (by kernel_rfl) (by kernel_rfl) (fun _ _ _ _ _ => Iff.rfl) (YieldsIf.does (Or.inl ⟨by rfl, ?hyr20⟩)) ?restr20
            case hyr20 => (intro w hSw; (try dsimp only at hSw); (try simp only [List.getElem_toArray, List.getElem_cons_zero, List.getElem_cons_succ]); go_simp; (try with_reducible rfl))
            (try simp only [Act.put, List.setIfInBounds_toArray, List.set_cons_zero, List.set_cons_succ, List.getElem_toArray, List.getElem_cons_zero, List.getElem_cons_succ])
            refine wpAnyD_take (i := 21) (oi := _) (v := ?vr21) rfl (by kernel_rfl) (by kernel_rfl) (by kernel_rfl) (fun _ _ _ _ _ => Iff.rfl) (YieldsIf.does (Or.inl ⟨by rfl, ?hyr21⟩)) ?restr21
            case hyr21 => (intro w hSw; (try dsimp only at hSw); (try simp only [List.getElem_toArray, List.getElem_cons_zero, List.getElem_cons_succ]); go_simp; (try with_reducible rfl))
            (try simp only [Act.put, List.setIfInBounds_toArray, List.set_cons_zero, List.set_cons_succ, List.getElem_toArray, List.getElem_cons_zero, List.getElem_cons_succ])
            refine wpAnyD_take (i := 22) (oi := _) (v := ?vr22) rfl (by kernel_rfl) (by kernel_rfl) (by kernel_rfl) (fun _ _ _ _ _ => Iff.rfl) (YieldsIf.does (Or.inl ⟨by rfl, ?hyr22⟩)) ?restr22
            case hyr22 => (intro w hSw; (try dsimp only at hSw); (try simp only [List.getElem_toArray, List.getElem_cons_zero, List.getElem_cons_succ]); go_simp; (try with_reducible rfl))
            (try simp only [Act.put, List.setIfInBounds_toArray, List.set_cons_zero, List.set_cons_succ, List.getElem_toArray, List.getElem_cons_zero, List.getElem_cons_succ])
            refine wpAnyD_take (i := 23) (oi := _) (v := ?vr23) rfl (by kernel_rfl) (by kernel_rfl) (by kernel_rfl) (fun _ _ _ _ _ => Iff.rfl) (YieldsIf.does (Or.inl ⟨by rfl, ?hyr23⟩)) ?restr23
            case hyr23 => (intro w hSw; (try dsimp only at hSw); (try simp only [List.getElem_toArray, List.getElem_cons_zero, List.getElem_cons_succ]); go_simp; (try with_reducible rfl))
            (try simp only [Act.put, List.setIfInBounds_toArray, List.set_cons_zero, List.set_cons_succ, List.getElem_toArray, List.getElem_cons_zero, List.getElem_cons_succ])
            refine wpAnyD_take (i := 24) (oi := _) (v := ?vr24) rfl (by kernel_rfl) (by kernel_rfl) (by kernel_rfl) (fun _ _ _ _ _ => Iff.rfl) (YieldsIf.does (Or.inl ⟨by rfl, ?hyr24⟩)) ?restr24
            case hyr24 => (intro w hSw; (try dsimp only at hSw); (try simp only [List.getElem_toArray, List.getElem_cons_zero, List.getElem_cons_succ]); go_simp; (try with_reducible rfl))
            (try simp only [Act.put, List.setIfInBounds_toArray, List.set_cons_zero, List.set_cons_succ, List.getElem_toArray, List.getElem_cons_zero, List.getElem_cons_succ])
            refine wpAnyD_take (i := 25) (oi := _) (v := ?vr25) rfl (by kernel_rfl) (by kernel_rfl) (by kernel_rfl) (fun _ _ _ _ _ => Iff.rfl) (YieldsIf.does (Or.inl ⟨by rfl, ?hyr25⟩)) ?restr25
            case hyr25 => (intro w hSw; (try dsimp only at hSw); (try simp only [List.getElem_toArray, List.getElem_cons_zero, List.getElem_cons_succ]); go_simp; (try with_reducible rfl))
            (try simp only [Act.put, List.setIfInBounds_toArray, List.set_cons_zero, List.set_cons_succ, List.getElem_toArray, List.getElem_cons_zero, List.getElem_cons_succ])
            refine wpAnyD_take (i := 26) (oi := _) (v := .agg #[.int .i32 zr, .int .i64 zf, .int .i64 zg, .bool zb, .bool zu, .bool zi]) rfl (by kernel_rfl) (by kernel_rfl) (by kernel_rfl) (fun _ _ _ _ _ => Iff.rfl) (Or.inl ⟨by rfl, ?hyr26⟩) ?restr26
            case hyr26 =>
              intro V hSV K hK
              (try simp only [List.getElem_toArray, List.getElem_cons_zero, List.getElem_cons_succ])
              go_simp
              refine (HAt.out V hSV.1).mono ?_
              rintro e V9 ⟨rfl, hb⟩
              exact hK _ (HS.out _ (hSV.1.trans (Keep.of_below (fun _ => False) hb) (fun _ _ x => x)))
            (try simp only [Act.put, List.setIfInBounds_toArray, List.set_cons_zero, List.set_cons_succ, List.getElem_toArray, List.getElem_cons_zero, List.getElem_cons_succ])
            refine wpAnyD_take (i := 27) (oi := _) (v := ?vr27) rfl (by kernel_rfl) (by kernel_rfl) (by kernel_rfl) (fun _ _ _ _ _ => Iff.rfl) (YieldsIf.does (Or.inl ⟨by rfl, ?hyr27⟩)) ?restr27
            case hyr27 => (intro w hSw; (try dsimp only at hSw); (try simp only [List.getElem_toArray, List.getElem_cons_zero, List.getElem_cons_succ]); go_simp; (try with_reducible rfl))
            (try simp only [Act.put, List.setIfInBounds_toArray, List.set_cons_zero, List.set_cons_succ, List.getElem_toArray, List.getElem_cons_zero, List.getElem_cons_succ])
            refine wpAnyD_take (i := 28) (oi := _) (v := ?vr28) rfl (by kernel_rfl) (by kernel_rfl) (by kernel_rfl) (fun _ _ _ _ _ => Iff.rfl) (YieldsIf.does (Or.inl ⟨by rfl, ?hyr28⟩)) ?restr28
            case hyr28 => (intro w hSw; (try dsimp only at hSw); (try simp only [List.getElem_toArray, List.getElem_cons_zero, List.getElem_cons_succ]); go_simp; (try with_reducible rfl))
            (try simp only [Act.put, List.setIfInBounds_toArray, List.set_cons_zero, List.set_cons_succ, List.getElem_toArray, List.getElem_cons_zero, List.getElem_cons_succ])
            refine wpAnyD_take (i := 29) (oi := _) (v := ?vr29) rfl (by kernel_rfl) (by kernel_rfl) (by kernel_rfl) (fun _ _ _ _ _ => Iff.rfl) (YieldsIf.does (Or.inl ⟨by rfl, ?hyr29⟩)) ?restr29
            case hyr29 => (intro w hSw; (try dsimp only at hSw); (try simp only [List.getElem_toArray, List.getElem_cons_zero, List.getElem_cons_succ]); go_simp; (try with_reducible rfl))
            (try simp only [Act.put, List.setIfInBounds_toArray, List.set_cons_zero, List.set_cons_succ, List.getElem_toArray, List.getElem_cons_zero, List.getElem_cons_succ])
            refine wpAnyD_take (i := 30) (oi := _) (v := ?vr30) rfl (by kernel_rfl) (by kernel_rfl) (by kernel_rfl) (fun _ _ _ _ _ => Iff.rfl) (YieldsIf.does (Or.inl ⟨by rfl, ?hyr30⟩)) ?restr30
            case hyr30 => (intro w hSw; (try dsimp only at hSw); (try simp only [List.getElem_toArray, List.getElem_cons_zero, List.getElem_cons_succ]); go_simp; (try with_reducible rfl))
            (try simp only [Act.put, List.setIfInBounds_toArray, List.set_cons_zero, List.set_cons_succ, List.getElem_toArray, List.getElem_cons_zero, List.getElem_cons_succ])
            refine wpAnyD_take (i := 31) (oi := _) (v := ?vr31) rfl (by kernel_rfl) (by kernel_rfl) (by kernel_rfl) (fun _ _ _ _ _ => Iff.rfl) (YieldsIf.does (Or.inl ⟨by rfl, ?hyr31⟩)) ?restr31
            case hyr31 => (intro w hSw; (try dsimp only at hSw); (try simp only [List.getElem_toArray, List.getElem_cons_zero, List.getElem_cons_succ]); go_simp; (try with_reducible rfl))
            (try simp only [Act.put, List.setIfInBounds_toArray, List.set_cons_zero, List.set_cons_succ, List.getElem_toArray, List.getElem_cons_zero, List.getElem_cons_succ])
            refine wpAnyD_take (i := 32) (oi := _) (v := ?vr32) rfl (by kernel_rfl) (by kernel_rfl) (by kernel_rfl) (fun _ _ _ _ _ => Iff.rfl) (YieldsIf.does (Or.inl ⟨by rfl, ?hyr32⟩)) ?restr32
            case hyr32 => (intro w hSw; (try dsimp only at hSw); (try simp only [List.getElem_toArray, List.getElem_cons_zero, List.getElem_cons_succ]); go_simp; (try with_reducible rfl))
            (try simp only [Act.put, List.setIfInBounds_toArray, List.set_cons_zero, List.set_cons_succ, List.getElem_toArray, List.getElem_cons_zero, List.getElem_cons_succ])
            refine wpAnyD_take (i := 33) (oi := _) (v := ?vr33) rfl (by kernel_rfl) (by kernel_rfl) (by kernel_rfl) (fun _ _ _ _ _ => Iff.rfl) (YieldsIf.does (Or.inl ⟨by rfl, ?hyr33⟩)) ?restr33
            case hyr33 => (intro w hSw; (try dsimp only at hSw); (try simp only [List.getElem_toArray, List.getElem_cons_zero, List.getElem_cons_succ]); go_simp; (try with_reducible rfl))
            (try simp only [Act.put, List.setIfInBounds_toArray, List.set_cons_zero, List.set_cons_succ, List.getElem_toArray, List.getElem_cons_zero, List.getElem_cons_succ])
            refine wpAnyD_take (i := 34) (oi := _) (v := .bool true) rfl (by kernel_rfl) (by kernel_rfl) (by kernel_rfl) (fun _ _ _ _ _ => Iff.rfl) (Or.inl ⟨by rfl, ?hyr34⟩) ?restr34
            case hyr34 =>
              intro V hSV K hK
              (try simp only [List.getElem_toArray, List.getElem_cons_zero, List.getElem_cons_succ])
              go_simp
              refine (HSt.out V hSV.1).mono ?_
              rintro e V9 ⟨rfl, dk, rfl⟩
              exact hK _ (HS.out _ (hSV.1.drewN dk))
            (try simp only [Act.put, List.setIfInBounds_toArray, List.set_cons_zero, List.set_cons_succ, List.getElem_toArray, List.getElem_cons_zero, List.getElem_cons_succ])
            refine wpAnyD_take (i := 35) (oi := _) (v := ?vr35) rfl (by kernel_rfl) (by kernel_rfl) (by kernel_rfl) (fun _ _ _ _ _ => Iff.rfl) (YieldsIf.does (Or.inl ⟨by rfl, ?hyr35⟩)) ?restr35
            case hyr35 => (intro w hSw; (try dsimp only at hSw); (try simp only [List.getElem_toArray, List.getElem_cons_zero, List.getElem_cons_succ]); go_simp; (try with_reducible rfl))
            (try simp only [Act.put, List.setIfInBounds_toArray, List.set_cons_zero, List.set_cons_succ, List.getElem_toArray, List.getElem_cons_zero, List.getElem_cons_succ])
            refine wpAnyD_take (i := 36) (oi := _) (v := ?vr36) rfl (by kernel_rfl) (by kernel_rfl) (by kernel_rfl) (fun _ _ _ _ _ => Iff.rfl) (YieldsIf.does (Or.inl ⟨by rfl, ?hyr36⟩)) ?restr36
            case hyr36 => (intro w hSw; (try dsimp only at hSw); (try simp only [List.getElem_toArray, List.getElem_cons_zero, List.getElem_cons_succ]); go_simp; (try with_reducible rfl))
            (try simp only [Act.put, List.setIfInBounds_toArray, List.set_cons_zero, List.set_cons_succ, List.getElem_toArray, List.getElem_cons_zero, List.getElem_cons_succ])
            refine wpAnyD_done (by kernel_rfl) (fun V hSV => ?_) _
            refine NoPanic.normal ?_
            have TF := Lib.hid (TF0.out V hSV.1)
            clear hSV HS HSame HWc HHc HAt HSt TF0
            go_wp2_with fail
            go_roundw
            case rel => exact ⟨k + 1, p2, rfl, by go_num, by omega, TF⟩
            case measure => simp [intOf]; omega
    · have hkn : k = N := by omega
      subst hkn
      as_aux_lemma =>
        obtain ⟨g, c, W, H, n, lb, lc, R, F, own, hst⟩ := HI.out
        have ST := Lib.hid hst
        have hga : GridAt wr p g c W H n (linF W F) := hst.get 0 rfl
        have HTX := Lib.hid (grid_text wr p g c W H n _ hga)
        have hH20 : H ≤ 20 := hga.hh.2
        have HWW : Hid (0 < W ∧ W ≤ 40) := Lib.hid ⟨by have := hga.hw; omega, hga.hw.2⟩
        clear hga hst HI
        go_wp2_with fail
        refine HTX.out.mono ?_
        rintro e X1 ⟨v1, rfl, ho1, hb1⟩
        obtain ⟨tA, tc, rfl, -⟩ := own_form ho1
        obtain ⟨L, hL⟩ : ∃ L, L = (textL W (linF W F) H).map Value.string := ⟨_, rfl⟩
        rw [← hL] at ho1
        have HL := Lib.hid hL
        have T1 : Hid (Star w X1 [gridH p g c W H n (linF W F), rgridH r lb lc W H R F, bookH q own k, ownH wr.heap.size 9 1 tA H tc L]) := Lib.hid (ST.out.new (ownH wr.heap.size 9 1 tA H tc L) (Keep.of_below _ hb1) (fun b e => ho1.lt b (by rw [ownBlock_slice]; exact e)) ho1 (ownH_cl _ _ _ _ _ _ _))
        have hfar : ∀ i, blk tA = some i → i ≠ q ∧ ∀ t, ¬ own t i := fun i hi => ⟨fun e => T1.out.far 3 2 (by decide) rfl rfl i hi (.inl e), fun t e => T1.out.far 3 2 (by decide) rfl rfl i hi (.inr ⟨t, e⟩)⟩
        have HPUT := Lib.hid (BoCellsTexts.put_Texts (T1.out.get 2 rfl : BoCellsTexts X1 q own k) tA H tc L (BufZ.of_own ho1) ⟨_, hL, hL⟩ (by omega) hfar (by omega))
        have HFAR := Lib.hid hfar
        have HO1 := Lib.hid ho1
        clear ho1 hb1 hL HTX ST hfar
        go_wp2_with fail
        refine HPUT.out.mono ?_
        rintro e X2 ⟨rfl, own2, hb2, hk2, hs2⟩
        have T2 : Hid (Star w X2 [gridH p g c W H n (linF W F), rgridH r lb lc W H R F, bookH q own2 (k + 1), Hold.no]) := Lib.hid (star_put T1.out 2 3 (by decide) rfl rfl hb2 hk2 hs2)
        have HTC : Hid (∃ ta, tA = some ⟨ta, 0, none⟩ ∧ ∀ i, i < H → X2.cell? ⟨ta, i, none⟩ = some (.string (showL (rowL W (F i)))) ∧ ta < X2.heap.size) := Lib.hid (by
          have h0 : 0 < H := (T2.out.get 1 rfl : RGrid X2 r lb lc W H R F).hh.1
          obtain ⟨ta, rfl, hB, hlt9, hcell⟩ := own_in HO1.out h0
          refine ⟨ta, rfl, fun i hi => ⟨?_, Nat.lt_of_lt_of_le hlt9 hk2.size⟩⟩
          have hx := (hcell i (.string (showL (rowL W (fun x => linF W F (i * W + x))))) (by rw [HL.out, List.getElem?_map, textL_at _ _ _ _ hi]; rfl)).1
          rw [rowL_congr (g := F i) (fun x hx => linF_at F i x hx)] at hx
          exact (hk2.cell (p := ⟨ta, i, none⟩) hlt9 (fun e => by
            rcases e with e | ⟨t, e⟩
            · exact (HFAR.out ta rfl).1 e
            · exact (HFAR.out ta rfl).2 t e)).trans hx)
        clear hb2 hk2 hs2 HPUT HFAR HO1 T1 HL
        obtain ⟨ta, rfl, hcs⟩ := HTC.out
        have HCS := Lib.hid hcs
        clear hcs HTC
        have r1 := (T2.out.get 1 rfl : RGrid X2 r lb lc W H R F).ch.1
        have hH20i : (H : Int) ≤ 20 := by omega
        go_wp2_with fail
        clear r1
        go_loopw [22] (fun i wz => ∃ j : Nat, i = .int .i64 j ∧ j ≤ H ∧ Hid (Keep (fun _ => False) X2 wz)) (fun i _ => H - (intOf i).toNat)
        case atStart => exact ⟨0, rfl, Nat.zero_le _, Lib.hid (Keep.refl _ _)⟩
        case round =>
          obtain ⟨j, rfl, hj, HK⟩ := hrel
          obtain ⟨wz, hwz⟩ : ∃ wz : World, wz = wr := ⟨_, rfl⟩
          rw [← hwz] at HK ⊢
          clear hwz
          have TZ := Lib.hid (T2.out.quiet HK.out)
          have r1 := (TZ.out.get 1 rfl : RGrid wz r lb lc W H R F).ch.1
          by_cases hjH : j < H
          · have hji : (j : Int) < (H : Int) := by omega
            have hj0 : (0 : Int) ≤ (j : Int) := by omega
            obtain ⟨T, hT⟩ : ∃ T, T = showL (rowL W (F j)) := ⟨_, rfl⟩
            obtain ⟨gy, hgy⟩ : ∃ gy, gy = R j := ⟨_, rfl⟩
            have HS : Hid (∀ V, Keep (fun _ => False) wz V → (fun V => Keep (fun _ => False) wz V ∧ V.cell? ⟨r, 2, none⟩ = some (.slice (some ⟨lb, 0, none⟩) H lc) ∧ V.cell? ⟨lb, j, none⟩ = some (.slice (some ⟨gy, 0, none⟩) W W) ∧ V.cell? ⟨ta, j, none⟩ = some (.string T)) V) := Lib.hid (fun V hk => by
              have h1 : RGrid V r lb lc W H R F := (TZ.out.quiet hk).get 1 rfl
              have hc := HCS.out j hjH
              exact ⟨hk, h1.cs.1, by rw [hgy]; exact (h1.row j hjH).1, by rw [hT]; exact ((HK.out.trans hk (fun _ _ x => x)).cell (p := ⟨ta, j, none⟩) hc.2 (fun x => x)).trans hc.1⟩)
            have HSH : Hid (∀ V, Keep (fun _ => False) wz V → Calls Try.prog 39 #[.slice (some ⟨gy, 0, none⟩) W W] V fun e w' => e = .returned (.string T) ∧ Below V.heap.size V w') := Lib.hid (fun V hk => by
              have h1 : RGrid V r lb lc W H R F := (TZ.out.quiet hk).get 1 rfl
              have s := (h1.lie j hjH).src (h1.hR j hjH)
              rw [flatF_rowL] at s
              rw [hgy, hT]
              exact ref_show _ W W _ V s (by have := HWW.out; omega))
            clear hT hgy
            go_upto_region 56 with fail
            refine wp_region_det (fun V => Keep (fun _ => False) wz V ∧ V.cell? ⟨r, 2, none⟩ = some (.slice (some ⟨lb, 0, none⟩) H lc) ∧ V.cell? ⟨lb, j, none⟩ = some (.slice (some ⟨gy, 0, none⟩) W W) ∧ V.cell? ⟨ta, j, none⟩ = some (.string T)) (by kernel_rfl) (HS.out _ ((Keep.refl _ wz).drew)) ?_
            (try simp only [List.getElem_toArray])
            refine wpAnyD_take (i := 0) (oi := _) (v := ?vq0) rfl (by kernel_rfl) (by kernel_rfl) (by kernel_rfl) (fun _ _ _ _ _ => Iff.rfl) (YieldsIf.does (Or.inl ⟨by rfl, ?hyq0⟩)) ?restq0
            case hyq0 => (intro w hSw; (try dsimp only at hSw); (try simp only [List.getElem_toArray, List.getElem_cons_zero, List.getElem_cons_succ]); go_simp; (try with_reducible rfl))
            (try simp only [Act.put, List.setIfInBounds_toArray, List.set_cons_zero, List.set_cons_succ, List.getElem_toArray, List.getElem_cons_zero, List.getElem_cons_succ])
            refine wpAnyD_take (i := 1) (oi := _) (v := ?vq1) rfl (by kernel_rfl) (by kernel_rfl) (by kernel_rfl) (fun _ _ _ _ _ => Iff.rfl) (YieldsIf.does (Or.inl ⟨by rfl, ?hyq1⟩)) ?restq1
            case hyq1 => (intro w hSw; (try dsimp only at hSw); (try simp only [List.getElem_toArray, List.getElem_cons_zero, List.getElem_cons_succ]); go_simp; (try with_reducible rfl))
            (try simp only [Act.put, List.setIfInBounds_toArray, List.set_cons_zero, List.set_cons_succ, List.getElem_toArray, List.getElem_cons_zero, List.getElem_cons_succ])
            refine wpAnyD_take (i := 2) (oi := _) (v := ?vq2) rfl (by kernel_rfl) (by kernel_rfl) (by kernel_rfl) (fun _ _ _ _ _ => Iff.rfl) (YieldsIf.does (Or.inl ⟨by rfl, ?hyq2⟩)) ?restq2
            case hyq2 => (intro w hSw; (try dsimp only at hSw); (try simp only [List.getElem_toArray, List.getElem_cons_zero, List.getElem_cons_succ]); go_simp; (try with_reducible rfl))
            (try simp only [Act.put, List.setIfInBounds_toArray, List.set_cons_zero, List.set_cons_succ, List.getElem_toArray, List.getElem_cons_zero, List.getElem_cons_succ])
            refine wpAnyD_take (i := 3) (oi := _) (v := ?vq3) rfl (by kernel_rfl) (by kernel_rfl) (by kernel_rfl) (fun _ _ _ _ _ => Iff.rfl) (YieldsIf.does (Or.inl ⟨by rfl, ?hyq3⟩)) ?restq3
            case hyq3 => (intro w hSw; (try dsimp only at hSw); (try simp only [List.getElem_toArray, List.getElem_cons_zero, List.getElem_cons_succ]); go_simp; (try with_reducible rfl))
            (try simp only [Act.put, List.setIfInBounds_toArray, List.set_cons_zero, List.set_cons_succ, List.getElem_toArray, List.getElem_cons_zero, List.getElem_cons_succ])
            refine wpAnyD_take (i := 4) (oi := _) (v := ?vq4) rfl (by kernel_rfl) (by kernel_rfl) (by kernel_rfl) (fun _ _ _ _ _ => Iff.rfl) (YieldsIf.does (Or.inl ⟨by rfl, ?hyq4⟩)) ?restq4
            case hyq4 => (intro w hSw; (try dsimp only at hSw); (try simp only [List.getElem_toArray, List.getElem_cons_zero, List.getElem_cons_succ]); go_simp; (try with_reducible rfl))
            (try simp only [Act.put, List.setIfInBounds_toArray, List.set_cons_zero, List.set_cons_succ, List.getElem_toArray, List.getElem_cons_zero, List.getElem_cons_succ])
            refine wpAnyD_take (i := 5) (oi := _) (v := ?vq5) rfl (by kernel_rfl) (by kernel_rfl) (by kernel_rfl) (fun _ _ _ _ _ => Iff.rfl) (YieldsIf.does (Or.inl ⟨by rfl, ?hyq5⟩)) ?restq5
            case hyq5 => (intro w hSw; (try dsimp only at hSw); (try simp only [List.getElem_toArray, List.getElem_cons_zero, List.getElem_cons_succ]); go_simp; (try with_reducible rfl))
            (try simp only [Act.put, List.setIfInBounds_toArray, List.set_cons_zero, List.set_cons_succ, List.getElem_toArray, List.getElem_cons_zero, List.getElem_cons_succ])
            refine wpAnyD_take (i := 6) (oi := _) (v := ?vq6) rfl (by kernel_rfl) (by kernel_rfl) (by kernel_rfl) (fun _ _ _ _ _ => Iff.rfl) (YieldsIf.does (Or.inl ⟨by rfl, ?hyq6⟩)) ?restq6
            case hyq6 => (intro w hSw; (try dsimp only at hSw); (try simp only [List.getElem_toArray, List.getElem_cons_zero, List.getElem_cons_succ]); go_simp; (try with_reducible rfl))
            (try simp only [Act.put, List.setIfInBounds_toArray, List.set_cons_zero, List.set_cons_succ, List.getElem_toArray, List.getElem_cons_zero, List.getElem_cons_succ])
            refine wpAnyD_take (i := 7) (oi := _) (v := ?vq7) rfl (by kernel_rfl) (by kernel_rfl) (by kernel_rfl) (fun _ _ _ _ _ => Iff.rfl) (YieldsIf.does (Or.inl ⟨by rfl, ?hyq7⟩)) ?restq7
            case hyq7 => (intro w hSw; (try dsimp only at hSw); (try simp only [List.getElem_toArray, List.getElem_cons_zero, List.getElem_cons_succ]); go_simp; (try with_reducible rfl))
            (try simp only [Act.put, List.setIfInBounds_toArray, List.set_cons_zero, List.set_cons_succ, List.getElem_toArray, List.getElem_cons_zero, List.getElem_cons_succ])
            refine wpAnyD_take (i := 8) (oi := _) (v := ?vq8) rfl (by kernel_rfl) (by kernel_rfl) (by kernel_rfl) (fun _ _ _ _ _ => Iff.rfl) (YieldsIf.does (Or.inl ⟨by rfl, ?hyq8⟩)) ?restq8
            case hyq8 => (intro w hSw; (try dsimp only at hSw); (try simp only [List.getElem_toArray, List.getElem_cons_zero, List.getElem_cons_succ]); go_simp; (try with_reducible rfl))
            (try simp only [Act.put, List.setIfInBounds_toArray, List.set_cons_zero, List.set_cons_succ, List.getElem_toArray, List.getElem_cons_zero, List.getElem_cons_succ])
            refine wpAnyD_take (i := 9) (oi := _) (v := ?vq9) rfl (by kernel_rfl) (by kernel_rfl) (by kernel_rfl) (fun _ _ _ _ _ => Iff.rfl) (YieldsIf.does (Or.inl ⟨by rfl, ?hyq9⟩)) ?restq9
            case hyq9 => (intro w hSw; (try dsimp only at hSw); (try simp only [List.getElem_toArray, List.getElem_cons_zero, List.getElem_cons_succ]); go_simp; (try with_reducible rfl))
            (try simp only [Act.put, List.setIfInBounds_toArray, List.set_cons_zero, List.set_cons_succ, List.getElem_toArray, List.getElem_cons_zero, List.getElem_cons_succ])
            refine wpAnyD_take (i := 10) (oi := _) (v := ?vq10) rfl (by kernel_rfl) (by kernel_rfl) (by kernel_rfl) (fun _ _ _ _ _ => Iff.rfl) (YieldsIf.does (Or.inl ⟨by rfl, ?hyq10⟩)) ?restq10
            case hyq10 => (intro w hSw; (try dsimp only at hSw); (try simp only [List.getElem_toArray, List.getElem_cons_zero, List.getElem_cons_succ]); go_simp; (try with_reducible rfl))
            (try simp only [Act.put, List.setIfInBounds_toArray, List.set_cons_zero, List.set_cons_succ, List.getElem_toArray, List.getElem_cons_zero, List.getElem_cons_succ])
            refine wpAnyD_take (i := 11) (oi := _) (v := .string T) rfl (by kernel_rfl) (by kernel_rfl) (by kernel_rfl) (fun _ _ _ _ _ => Iff.rfl) (Or.inl ⟨by rfl, ?hyq11⟩) ?restq11
            case hyq11 =>
              intro V hSV K hK
              (try simp only [List.getElem_toArray, List.getElem_cons_zero, List.getElem_cons_succ])
              go_simp
              refine (HSH.out V hSV.1).mono ?_
              rintro e V9 ⟨rfl, hb⟩
              exact hK _ (HS.out _ (hSV.1.trans (Keep.of_below (fun _ => False) hb) (fun _ _ x => x)))
            (try simp only [Act.put, List.setIfInBounds_toArray, List.set_cons_zero, List.set_cons_succ, List.getElem_toArray, List.getElem_cons_zero, List.getElem_cons_succ])
            refine wpAnyD_take (i := 12) (oi := _) (v := ?vq12) rfl (by kernel_rfl) (by kernel_rfl) (by kernel_rfl) (fun _ _ _ _ _ => Iff.rfl) (YieldsIf.does (Or.inl ⟨by rfl, ?hyq12⟩)) ?restq12
            case hyq12 => (intro w hSw; (try dsimp only at hSw); (try simp only [List.getElem_toArray, List.getElem_cons_zero, List.getElem_cons_succ]); go_simp; (try with_reducible rfl))
            (try simp only [Act.put, List.setIfInBounds_toArray, List.set_cons_zero, List.set_cons_succ, List.getElem_toArray, List.getElem_cons_zero, List.getElem_cons_succ])
            refine wpAnyD_done (by kernel_rfl) (fun V hSV => ?_) _
            refine NoPanic.normal ?_
            have HKN : Hid (Keep (fun _ => False) X2 V) := Lib.hid (HK.out.trans hSV.1 (fun _ _ x => x))
            clear hSV HS HSH r1
            go_wp2_with fail
            go_roundw
            case rel => exact ⟨j + 1, by go_num, by omega, HKN⟩
            case measure => simp [intOf]; omega
          · have hjn : j = H := by omega
            subst hjn
            have HAP := Lib.hid ((TZ.out.get 2 rfl : BoCellsTexts wz q own2 (k + 1)).apart (by omega))
            go_wp2_with fail
            refine HAP.out.mono ?_
            rintro e X3 ⟨rfl, hk8⟩
            have HB8 : Hid (Below w.heap.size w X3) := Lib.hid (TZ.out.be.trans (hk8.below TZ.out.be.size (fun i hi e => by
              obtain ⟨t, e⟩ := e
              exact TZ.out.old 2 rfl hi (.inr ⟨t, e⟩))))
            clear hk8 HAP
            go_wp2_with fail
            go_ret
            exact ⟨rfl, HB8.out⟩

end Go.Proofs.Ytbjdcbnmpmcdiaa
