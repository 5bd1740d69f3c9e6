/- Law ChartPlays: the walk. By program (rgn/XChartPlaysWalk.py). Own work. -/
import Derived.Test.YthmogbldfecckaaChartPlaysAt
import Derived.Deep.Cut
import Derived.Deep.CutBlock
import Derived.Deep.CutRange
import Derived.IntWalk
namespace Go.Proofs.Ythmogbldfecckaa
set_option linter.unusedVariables false
set_option linter.unusedSimpArgs false
open Go.RowKit

set_option maxRecDepth 100000 in
set_option maxHeartbeats 1600000 in
theorem chartPlays_early (x : Int) (A : Option Addr) (N cap : Nat) (y : Int) (w : World) (h : (N : Int) > 50) :
    Calls Try.prog 3 #[.int .i64 x, .slice A N cap, .int .i64 y] w fun e w' => e = .returned (.bool true) ∧ Below w.heap.size w w' := by
  go_enter Try.func3, Try.ntmps3
  go_wp2_with fail
  refine (alive_any _).mono ?_
  rintro e w1 ⟨rfl, hb⟩
  have HB := Lib.hid hb
  clear hb
  go_wp2_with fail
  go_ret
  exact ⟨rfl, HB.out⟩

set_option maxRecDepth 100000 in
set_option maxHeartbeats 6400000 in
theorem walk_ChartPlays (x : Int) (wx : (Lit.int .i64 x).wf = true) (A : Option Addr) (N cap : Nat) (ops : List COp) (y : Int) (wy : (Lit.int .i64 y).wf = true) (w : World) (h : Structs (COpAt w) 2 w A N ops) :
    Calls Try.prog 3 #[.int .i64 x, .slice A N cap, .int .i64 y] w fun e w' => e = .returned (.bool true) ∧ Below w.heap.size w w' := by
  by_cases hN : (N : Int) > 50
  · exact chartPlays_early x A N cap y w hN
  obtain ⟨n, hn⟩ : ∃ n : Nat, min (max x 0) 40 = (n : Int) := ⟨(min (max x 0) 40).toNat, by omega⟩
  have hn40 : n ≤ 40 := by omega
  have hni : (n : Int) ≤ 40 := by omega
  have hN50 : N ≤ 50 := by omega
  have H := Lib.hid h
  have HN := Lib.hid hn
  clear h hn wx wy
  go_enter Try.func3, Try.ntmps3
  go_wp2_with fail
  refine (alive_any _).mono ?_
  rintro e w1 ⟨rfl, hb1⟩
  have ST1 := Lib.hid (Star.nil hb1)
  clear hb1
  go_wp2_with fail
  refine (chart_new w1 x n HN.out).mono ?_
  rintro e w2 ⟨rfl, hs2, hb2⟩
  have ST2 : Hid (Star w w2 ([] ++ [stopsH (w1.heap.size + 1) w1.heap.size n n (newL n)])) := Lib.hid (ST1.out.new _ (Keep.of_below _ hb2) (fun b e => by have h1 := hs2.lt; have h2 := hs2.lg; rcases e with e | e <;> omega) hs2 (stopsH_cl _ _ _ _ _))
  clear hs2 hb2 ST1
  go_wp2_with fail
  refine (ref_stops w2 x n HN.out).mono ?_
  rintro e w3 ⟨rfl, hr3, hl3, hb3⟩
  have ST3 : Hid (Star w w3 ([stopsH (w1.heap.size + 1) w1.heap.size n n (newL n)] ++ [rowH w2.heap.size n (newL n)])) := Lib.hid (ST2.out.new _ (Keep.of_below _ hb3) (fun b e => by rw [show b = w2.heap.size from e]; exact ⟨Nat.le_refl _, hl3⟩) hr3 (rowH_cl _ _ _))
  clear hr3 hl3 hb3 ST2
  go_upto_region 8 with fail
  obtain ⟨w4, hw4⟩ : ∃ w4, w4 = w3.alloc (.cells #[.slice none 0 0, .slice none 0 0, .slice none 0 0, .slice none 0 0, .slice none 0 0, .slice none 0 0, .slice none 0 0, .slice none 0 0, .slice none 0 0, .slice none 0 0, .slice none 0 0, .slice none 0 0, .slice none 0 0, .slice none 0 0, .slice none 0 0, .slice none 0 0] 38) := ⟨_, rfl⟩
  rw [← hw4]
  obtain ⟨q, hq⟩ : ∃ q, q = w3.heap.size := ⟨_, rfl⟩
  have ST4 : Hid (Star w w4 [stopsH (w1.heap.size + 1) w1.heap.size n n (newL n), rowH w2.heap.size n (newL n), bookH q (fun _ _ => False) 0]) := Lib.hid (by
    have hbk := BoInts.made w4 w3.heap.size 38 (by rw [hw4]; exact heap_alloc_new w3 _)
    rw [hq]
    exact ST3.out.new (bookH w3.heap.size (fun _ _ => False) 0) (by rw [hw4]; exact (Keep.refl _ w3).alloc _) (fun b e => by
      rcases e with e | ⟨_, e⟩
      · subst e; exact ⟨Nat.le_refl _, by rw [hw4]; simp⟩
      · exact e.elim) hbk (bookH_cl _ _ _))
  rw [← hq]
  clear hw4 hq ST3
  obtain ⟨p0, hp0⟩ : ∃ p0, p0 = w1.heap.size + 1 := ⟨_, rfl⟩
  obtain ⟨rb0, hrb0⟩ : ∃ rb0, rb0 = w2.heap.size := ⟨_, rfl⟩
  rw [← hp0, ← hrb0] at ST4
  rw [← hp0, ← hrb0]
  have ST0 : Hid (∃ g c l own, Star w w4 [stopsH p0 g n c l, rowH rb0 n l, bookH q own 0]) := Lib.hid ⟨_, _, _, _, ST4.out⟩
  clear hp0 hrb0 ST4
  go_wp2_with fail
  go_loopw [7, 8, 10] (fun sv rv i wr => ∃ k p rb : Nat, sv = .pointer (some ⟨p, 0, none⟩) ∧ rv = .slice (some ⟨rb, 0, none⟩) n n ∧ i = .int .i64 k ∧ k ≤ N ∧ Hid (∃ g c l own, Star w wr [stopsH p g n c l, rowH rb n l, bookH q own k])) (fun _ _ i _ => N - (intOf i).toNat)
  case atStart => exact ⟨0, p0, rb0, rfl, rfl, rfl, by omega, ST0⟩
  case round =>
    obtain ⟨k, p, rb, rfl, rfl, rfl, hk, HI⟩ := hrel
    clear ST0
    by_cases hlt : k < N
    · obtain ⟨g, c, l, own, hst⟩ := HI.out
      have ST := Lib.hid hst
      obtain ⟨b, off, o, rfl, hbl, _, ho⟩ := H.out.at hlt
      have hki : ((k : Int) < (N : Int)) := by omega
      have hk0 : (0 : Int) ≤ (k : Int) := by omega
      have d0 : wr.cell? ⟨b, off + k * 2, none⟩ = some (.int .i64 o.kind) := (hst.be.cell (p := ⟨b, off + k * 2, none⟩) hbl).trans ho.c0
      have d1 : wr.cell? ⟨b, off + k * 2 + 1, none⟩ = some (.slice o.A o.n o.c) := (hst.be.cell (p := ⟨b, off + k * 2 + 1, none⟩) hbl).trans ho.c1
      have HOL : Hid (Ints w o.A o.n o.l) := Lib.hid ho.l
      obtain ⟨oA, hoA⟩ : ∃ z, o.A = z := ⟨_, rfl⟩
      obtain ⟨on, hon⟩ : ∃ z, o.n = z := ⟨_, rfl⟩
      obtain ⟨oc, hoc⟩ : ∃ z, o.c = z := ⟨_, rfl⟩
      obtain ⟨oL, hoL⟩ : ∃ z, o.l = z := ⟨_, rfl⟩
      obtain ⟨K, hK⟩ : ∃ z, o.kind = z := ⟨_, rfl⟩
      rw [hK] at d0
      rw [hoA, hon, hoc] at d1
      rw [hoA, hon, hoL] at HOL
      have HSRC : Hid (∀ V, Below w.heap.size w V → Src V oA on (oL.map (Value.int .i64))) := Lib.hid (fun V hV => (src_ints HOL.out).below hV)
      have HLEN : Hid (oL.length = on) := Lib.hid HOL.out.1
      clear ho hoA hon hoc hoL hK HI hst HOL
      obtain ⟨W1, hW1⟩ : ∃ W1, W1 = wr.alloc (.cells #[.int .i64 K, .slice oA on oc] 41) := ⟨_, rfl⟩
      obtain ⟨ob, hob⟩ : ∃ ob, ob = wr.heap.size := ⟨_, rfl⟩
      have STA : Hid (Star w W1 [stopsH p g n c l, rowH rb n l, bookH q own k, boxH ob [.int .i64 K, .slice oA on oc]]) := Lib.hid (by
        rw [hW1, hob]
        exact ST.out.new (boxH wr.heap.size [.int .i64 K, .slice oA on oc]) ((Keep.refl _ wr).alloc _) (fun b e => by rw [show b = wr.heap.size from e]; simp) (Cells.box wr _ _) (boxH_cl _ _))
      have HWE : Hid (W1 = wr.alloc (.cells #[.int .i64 K, .slice oA on oc] 41)) := Lib.hid hW1
      clear hW1 ST
      go_upto_region 12 with fail
      rw [← hob, ← HWE.out]
      clear d0 d1 HWE hob
      have x1 : W1.cell? ⟨ob, 1, none⟩ = some (.slice oA on oc) := ((STA.out.get 3 rfl : Cells W1 ob _) 1 _ rfl).1
      by_cases hlong : (on : Int) > 30
      · go_wp2_with fail
        go_ret
        exact ⟨rfl, STA.out.be⟩
      have hon30 : on ≤ 30 := by omega
      go_wp2_with fail
      refine (lent_Ints oA on oc oL W1 (HSRC.out _ STA.out.be) (by omega)).mono ?_
      rintro e W2 ⟨gm, mc, rfl, hlent, hgm, hbW⟩
      have STB : Hid (Star w W2 [stopsH p g n c l, rowH rb n l, bookH q own k, boxH ob [.int .i64 K, .slice oA on oc], lentH gm mc oL]) := Lib.hid (STA.out.new (lentH gm mc oL) (Keep.of_below _ hbW) (fun b e => by rw [show b = gm from e]; exact ⟨hgm, hlent.lt⟩) hlent (lentH_cl _ _ _))
      clear hlent hgm hbW STA x1
      have x0 : W2.cell? ⟨ob, 0, none⟩ = some (.int .i64 K) := ((STB.out.get 3 rfl : Cells W2 ob _) 0 _ rfl).1
      go_upto_block 2 with fail
      go_cut [7, 8, 13, 14] from 35 to 161 (fun sv rv _ _ wx => ∃ p rb : Nat, sv = .pointer (some ⟨p, 0, none⟩) ∧ rv = .slice (some ⟨rb, 0, none⟩) n n ∧ Hid (∃ g c l, Star w wx [stopsH p g n c l, rowH rb n l, bookH q own k, boxH ob [.int .i64 K, .slice oA on oc], lentH gm mc oL]))
      case first =>
        by_cases hK1 : K = 1
        · subst hK1
          have hns : StopsAt W2 p g n c l := STB.out.get 0 rfl
          have hlent : Lent W2 3 gm mc (oL.map (Value.int .i64)) (.int .i64 (-77)) := STB.out.get 4 rfl
          have hsz : Src W2 (some ⟨gm, 0, none⟩) on (oL.map (Value.int .i64)) := by have := hlent.src; rwa [List.length_map, HLEN.out] at this
          have HCALL := Lib.hid (chart_set W2 p g n c l (some ⟨gm, 0, none⟩) on mc oL hns hsz (fun _ _ e => by
            have e' : gm = g := by simpa [blk] using e
            exact STB.out.far 4 0 (by decide) rfl rfl gm rfl (.inr e')) (by omega))
          clear hns hlent hsz
          go_wp2_with fail
          refine HCALL.out.mono ?_
          rintro e W3 ⟨rfl, hs3, hk3⟩
          have SI0 : Hid (Star w W3 [stopsH p g n c (putL true l oL), rowH rb n (putL true l (oL.take 0)), bookH q own k, boxH ob [.int .i64 1, .slice oA on oc], lentH gm mc oL]) := Lib.hid (by
            rw [List.take_zero]
            exact star_stops STB.out 0 rfl hs3 hk3)
          clear hs3 hk3 HCALL STB x0
          go_wp2_with fail
          go_loopw [13] (fun i wi => ∃ j : Nat, i = .int .i64 j ∧ j ≤ on ∧ Hid (Star w wi [stopsH p g n c (putL true l oL), rowH rb n (putL true l (oL.take j)), bookH q own k, boxH ob [.int .i64 1, .slice oA on oc], lentH gm mc oL])) (fun i _ => on - (intOf i).toNat)
          case atStart => exact ⟨0, rfl, by omega, SI0⟩
          case round =>
            obtain ⟨wo, hwo⟩ : ∃ wo : World, wo = W3 := ⟨_, rfl⟩
            obtain ⟨j, rfl, hj, SI⟩ := hrel
            clear SI0 hwo
            obtain ⟨wi, hwi⟩ : ∃ wi : World, wi = wr := ⟨_, rfl⟩
            rw [← hwi] at SI ⊢
            clear hwi
            have y0 : wi.cell? ⟨ob, 0, none⟩ = some (.int .i64 1) := ((SI.out.get 3 rfl : Cells wi ob _) 0 _ rfl).1
            have y1 : wi.cell? ⟨ob, 1, none⟩ = some (.slice oA on oc) := ((SI.out.get 3 rfl : Cells wi ob _) 1 _ rfl).1
            by_cases hjl : j < on
            · obtain ⟨v, hv⟩ : ∃ v, oL[j]? = some v := ⟨oL[j]'(by rw [HLEN.out]; exact hjl), List.getElem?_eq_getElem _⟩
              obtain ⟨bA, offA, hoA, hbA, hcA⟩ := (HSRC.out w (Below.refl _ w)).2 (by omega)
              subst hoA
              have hcw := hcA j _ (by rw [List.getElem?_map, hv]; rfl)
              have y2 : wi.cell? ⟨bA, offA + j, none⟩ = some (.int .i64 v) := (SI.out.be.cell (p := ⟨bA, offA + j, none⟩) hbA).trans hcw
              have hji : ((j : Int) < (on : Int)) := by omega
              have hj0 : (0 : Int) ≤ (j : Int) := by omega
              have hput : putL true l (oL.take (j + 1)) = putC true (putL true l (oL.take j)) v := by rw [take_next hv, putL_snoc]
              have HP := Lib.hid hput
              have hlen : (putL true l (oL.take j)).length = n := by
                have h1 : Row wi rb 0 n n ((putL true l (oL.take j)).map Value.bool) := SI.out.get 1 rfl
                have := h1.len
                rwa [List.length_map] at this
              clear hcA hput hv
              by_cases hin : 0 ≤ v ∧ v < (n : Int)
              · obtain ⟨z, rfl⟩ : ∃ z : Nat, v = z := ⟨v.toNat, by omega⟩
                have hz : z < n := by omega
                have t1 : (z : Int) < (n : Int) := by omega
                have t0 : (z : Int) ≥ 0 := by omega
                have t2 : (0 : Int) ≤ (z : Int) := by omega
                have hrow : Row wi rb 0 n n ((putL true l (oL.take j)).map Value.bool) := SI.out.get 1 rfl
                have hcan := hrow.can z hz
                rw [Nat.zero_add] at hcan
                obtain ⟨ob1, hob1⟩ := Option.isSome_iff_exists.1 hcan.1
                have hfz := hcan.2
                have hnob : ob ≠ rb := fun e => SI.out.far 3 1 (by decide) rfl rfl ob rfl e
                have HSV : Hid (∀ V, Keep (fun b => b = rb) wi V → V.cell? ⟨ob, 1, none⟩ = some (.slice (some ⟨bA, offA, none⟩) on oc) ∧ V.cell? ⟨ob, 0, none⟩ = some (.int .i64 1) ∧ V.cell? ⟨bA, offA + j, none⟩ = some (.int .i64 (z : Int))) := Lib.hid (fun V kV => by
                  have hob : ob < wi.heap.size := SI.out.lt 3 rfl rfl
                  have hbw : bA < wi.heap.size := Nat.lt_of_lt_of_le hbA SI.out.be.size
                  have hnb : bA ≠ rb := fun e => SI.out.old 1 rfl (k := bA) hbA e
                  exact ⟨(kV.cell (p := ⟨ob, 1, none⟩) hob hnob).trans y1, (kV.cell (p := ⟨ob, 0, none⟩) hob hnob).trans y0, (kV.cell (p := ⟨bA, offA + j, none⟩) hbw hnb).trans y2⟩)
                have SI2 : Hid (Star w (wi.drew.setCell ⟨rb, z, none⟩ (.bool true)) [stopsH p g n c (putL true l oL), rowH rb n (putL true l (oL.take (j + 1))), bookH q own k, boxH ob [.int .i64 1, .slice (some ⟨bA, offA, none⟩) on oc], lentH gm mc oL]) := Lib.hid (by
                  rw [HP.out]
                  unfold putC
                  rw [if_pos ⟨t2, by rw [hlen]; exact t1⟩]
                  exact star_row SI.out.drew 1 rfl z hz true)
                have HE := Lib.hid (HSV.out wi (Keep.refl _ wi))
                clear hin hlen hrow hcan hnob SI
                go_upto_region 31 with fail
                refine wp_region_noPanic ?_
                refine wp_region_held_drew (S := fun w' => w'.cell? ⟨ob, 1, none⟩ = some (.slice (some ⟨bA, offA, none⟩) on oc) ∧ w'.cell? ⟨ob, 0, none⟩ = some (.int .i64 1) ∧ w'.cell? ⟨bA, offA + j, none⟩ = some (.int .i64 (z : Int))) (by kernel_rfl) HE.out (fun hHeld => ?_)
                refine wpAnyH_take (i := 0) (oi := _) (v := ?va0) rfl (by kernel_rfl) (by kernel_rfl) (by kernel_rfl) (fun _ _ _ h => h) (Or.inl ⟨by rfl, ?hya0⟩) (by assumption) ?resta0
                case hya0 => (intro w hSw; (try dsimp only at hSw); (try simp only [List.getElem_toArray, List.getElem_cons_zero, List.getElem_cons_succ]); go_simp; (try with_reducible rfl))
                (try simp only [Act.put, List.setIfInBounds_toArray, List.set_cons_zero, List.set_cons_succ, List.getElem_toArray, List.getElem_cons_zero, List.getElem_cons_succ])
                refine wpAnyH_take (i := 1) (oi := _) (v := ?va1) rfl (by kernel_rfl) (by kernel_rfl) (by kernel_rfl) (fun _ _ _ h => h) (Or.inl ⟨by rfl, ?hya1⟩) (by assumption) ?resta1
                case hya1 => (intro w hSw; (try dsimp only at hSw); (try simp only [List.getElem_toArray, List.getElem_cons_zero, List.getElem_cons_succ]); go_simp; (try with_reducible rfl))
                (try simp only [Act.put, List.setIfInBounds_toArray, List.set_cons_zero, List.set_cons_succ, List.getElem_toArray, List.getElem_cons_zero, List.getElem_cons_succ])
                refine wpAnyH_take (i := 2) (oi := _) (v := ?va2) rfl (by kernel_rfl) (by kernel_rfl) (by kernel_rfl) (fun _ _ _ h => h) (Or.inl ⟨by rfl, ?hya2⟩) (by assumption) ?resta2
                case hya2 => (intro w hSw; (try dsimp only at hSw); (try simp only [List.getElem_toArray, List.getElem_cons_zero, List.getElem_cons_succ]); go_simp; (try with_reducible rfl))
                (try simp only [Act.put, List.setIfInBounds_toArray, List.set_cons_zero, List.set_cons_succ, List.getElem_toArray, List.getElem_cons_zero, List.getElem_cons_succ])
                refine wpAnyH_take (i := 3) (oi := _) (v := ?va3) rfl (by kernel_rfl) (by kernel_rfl) (by kernel_rfl) (fun _ _ _ h => h) (Or.inl ⟨by rfl, ?hya3⟩) (by assumption) ?resta3
                case hya3 => (intro w hSw; (try dsimp only at hSw); (try simp only [List.getElem_toArray, List.getElem_cons_zero, List.getElem_cons_succ]); go_simp; (try with_reducible rfl))
                (try simp only [Act.put, List.setIfInBounds_toArray, List.set_cons_zero, List.set_cons_succ, List.getElem_toArray, List.getElem_cons_zero, List.getElem_cons_succ])
                refine wpAnyH_take (i := 4) (oi := _) (v := ?va4) rfl (by kernel_rfl) (by kernel_rfl) (by kernel_rfl) (fun _ _ _ h => h) (Or.inl ⟨by rfl, ?hya4⟩) (by assumption) ?resta4
                case hya4 => (intro w hSw; (try dsimp only at hSw); (try simp only [List.getElem_toArray, List.getElem_cons_zero, List.getElem_cons_succ]); go_simp; (try with_reducible rfl))
                (try simp only [Act.put, List.setIfInBounds_toArray, List.set_cons_zero, List.set_cons_succ, List.getElem_toArray, List.getElem_cons_zero, List.getElem_cons_succ])
                refine wpAnyH_take (i := 5) (oi := _) (v := ?va5) rfl (by kernel_rfl) (by kernel_rfl) (by kernel_rfl) (fun _ _ _ h => h) (Or.inl ⟨by rfl, ?hya5⟩) (by assumption) ?resta5
                case hya5 => (intro w hSw; (try dsimp only at hSw); (try simp only [List.getElem_toArray, List.getElem_cons_zero, List.getElem_cons_succ]); go_simp; (try with_reducible rfl))
                (try simp only [Act.put, List.setIfInBounds_toArray, List.set_cons_zero, List.set_cons_succ, List.getElem_toArray, List.getElem_cons_zero, List.getElem_cons_succ])
                refine wpAnyH_take (i := 6) (oi := _) (v := ?va6) rfl (by kernel_rfl) (by kernel_rfl) (by kernel_rfl) (fun _ _ _ h => h) (Or.inl ⟨by rfl, ?hya6⟩) (by assumption) ?resta6
                case hya6 => (intro w hSw; (try dsimp only at hSw); (try simp only [List.getElem_toArray, List.getElem_cons_zero, List.getElem_cons_succ]); go_simp; (try with_reducible rfl))
                (try simp only [Act.put, List.setIfInBounds_toArray, List.set_cons_zero, List.set_cons_succ, List.getElem_toArray, List.getElem_cons_zero, List.getElem_cons_succ])
                refine wpAnyH_take (i := 7) (oi := _) (v := ?va7) rfl (by kernel_rfl) (by kernel_rfl) (by kernel_rfl) (fun _ _ _ h => h) (Or.inl ⟨by rfl, ?hya7⟩) (by assumption) ?resta7
                case hya7 => (intro w hSw; (try dsimp only at hSw); (try simp only [List.getElem_toArray, List.getElem_cons_zero, List.getElem_cons_succ]); go_simp; (try with_reducible rfl))
                (try simp only [Act.put, List.setIfInBounds_toArray, List.set_cons_zero, List.set_cons_succ, List.getElem_toArray, List.getElem_cons_zero, List.getElem_cons_succ])
                refine wpAnyH_take (i := 8) (oi := _) (v := ?va8) rfl (by kernel_rfl) (by kernel_rfl) (by kernel_rfl) (fun _ _ _ h => h) (Or.inl ⟨by rfl, ?hya8⟩) (by assumption) ?resta8
                case hya8 => (intro w hSw; (try dsimp only at hSw); (try simp only [List.getElem_toArray, List.getElem_cons_zero, List.getElem_cons_succ]); go_simp; (try with_reducible rfl))
                (try simp only [Act.put, List.setIfInBounds_toArray, List.set_cons_zero, List.set_cons_succ, List.getElem_toArray, List.getElem_cons_zero, List.getElem_cons_succ])
                refine wpAnyH_take (i := 9) (oi := _) (v := ?va9) rfl (by kernel_rfl) (by kernel_rfl) (by kernel_rfl) (fun _ _ _ h => h) (Or.inl ⟨by rfl, ?hya9⟩) (by assumption) ?resta9
                case hya9 => (intro w hSw; (try dsimp only at hSw); (try simp only [List.getElem_toArray, List.getElem_cons_zero, List.getElem_cons_succ]); go_simp; (try with_reducible rfl))
                (try simp only [Act.put, List.setIfInBounds_toArray, List.set_cons_zero, List.set_cons_succ, List.getElem_toArray, List.getElem_cons_zero, List.getElem_cons_succ])
                refine wpAnyH_ready (rs := [10]) (by kernel_rfl) (by simp) ?_
                refine AllReadyH.cons (o := _) rfl (fun K hK => ?_) AllReadyH.nil
                (try simp only [List.getElem_toArray, List.getElem_cons_zero, List.getElem_cons_succ])
                go_simp
                refine hK.out _ _ ?_ (fun hHeld => ?_)
                · exact HSV.out _ ((keep_set wi rb z _).drew)
                clear hK K
                (try simp only [Act.put, List.setIfInBounds_toArray, List.set_cons_zero, List.set_cons_succ, List.getElem_toArray, List.getElem_cons_zero, List.getElem_cons_succ])
                refine wpAnyH_done (by kernel_rfl) ?_ _
                refine NoPanic.normal ?_
                clear y0 y1 y2 hHeld hob1 hfz
                go_wp2_with fail
                go_roundw
                case rel => exact ⟨j + 1, by go_num, by omega, SI2⟩
                case measure => simp [intOf]; omega
              · have SI2 : Hid (Star w wi [stopsH p g n c (putL true l oL), rowH rb n (putL true l (oL.take (j + 1))), bookH q own k, boxH ob [.int .i64 1, .slice (some ⟨bA, offA, none⟩) on oc], lentH gm mc oL]) := Lib.hid (by
                  rw [HP.out]
                  unfold putC
                  rw [if_neg (by rw [hlen]; exact hin)]
                  exact SI.out)
                clear hlen SI
                by_cases hx0 : v ≥ 0
                · have hx1 : ¬ (v < (n : Int)) := by omega
                  clear hin
                  go_wp2_with fail
                  go_roundw
                  case rel => exact ⟨j + 1, by go_num, by omega, SI2⟩
                  case measure => simp [intOf]; omega
                · clear hin
                  go_wp2_with fail
                  go_roundw
                  case rel => exact ⟨j + 1, by go_num, by omega, SI2⟩
                  case measure => simp [intOf]; omega
            · have hjn : j = on := by omega
              subst hjn
              have SI2 : Hid (Star w wi [stopsH p g n c (putL true l oL), rowH rb n (putL true l oL), bookH q own k, boxH ob [.int .i64 1, .slice oA j oc], lentH gm mc oL]) := Lib.hid (by
                have := SI.out
                rwa [List.take_of_length_le (by rw [HLEN.out]; exact Nat.le_refl _)] at this)
              clear SI
              go_wp2_with fail
              go_meet
              exact ⟨p, rb, rfl, rfl, Lib.hid ⟨g, c, _, SI2.out⟩⟩
        · by_cases hK2 : K = 2
          · subst hK2
            have hns : StopsAt W2 p g n c l := STB.out.get 0 rfl
            have hlent : Lent W2 3 gm mc (oL.map (Value.int .i64)) (.int .i64 (-77)) := STB.out.get 4 rfl
            have hsz : Src W2 (some ⟨gm, 0, none⟩) on (oL.map (Value.int .i64)) := by have := hlent.src; rwa [List.length_map, HLEN.out] at this
            have HCALL := Lib.hid (chart_clear W2 p g n c l (some ⟨gm, 0, none⟩) on mc oL hns hsz (fun _ _ e => by
              have e' : gm = g := by simpa [blk] using e
              exact STB.out.far 4 0 (by decide) rfl rfl gm rfl (.inr e')) (by omega))
            clear hns hlent hsz
            go_wp2_with fail
            refine HCALL.out.mono ?_
            rintro e W3 ⟨rfl, hs3, hk3⟩
            have SI0 : Hid (Star w W3 [stopsH p g n c (putL false l oL), rowH rb n (putL false l (oL.take 0)), bookH q own k, boxH ob [.int .i64 2, .slice oA on oc], lentH gm mc oL]) := Lib.hid (by
              rw [List.take_zero]
              exact star_stops STB.out 0 rfl hs3 hk3)
            clear hs3 hk3 HCALL STB x0
            go_wp2_with fail
            go_loopw [13] (fun i wi => ∃ j : Nat, i = .int .i64 j ∧ j ≤ on ∧ Hid (Star w wi [stopsH p g n c (putL false l oL), rowH rb n (putL false l (oL.take j)), bookH q own k, boxH ob [.int .i64 2, .slice oA on oc], lentH gm mc oL])) (fun i _ => on - (intOf i).toNat)
            case atStart => exact ⟨0, rfl, by omega, SI0⟩
            case round =>
              obtain ⟨wo, hwo⟩ : ∃ wo : World, wo = W3 := ⟨_, rfl⟩
              obtain ⟨j, rfl, hj, SI⟩ := hrel
              clear SI0 hwo
              obtain ⟨wi, hwi⟩ : ∃ wi : World, wi = wr := ⟨_, rfl⟩
              rw [← hwi] at SI ⊢
              clear hwi
              have y0 : wi.cell? ⟨ob, 0, none⟩ = some (.int .i64 2) := ((SI.out.get 3 rfl : Cells wi ob _) 0 _ rfl).1
              have y1 : wi.cell? ⟨ob, 1, none⟩ = some (.slice oA on oc) := ((SI.out.get 3 rfl : Cells wi ob _) 1 _ rfl).1
              by_cases hjl : j < on
              · obtain ⟨v, hv⟩ : ∃ v, oL[j]? = some v := ⟨oL[j]'(by rw [HLEN.out]; exact hjl), List.getElem?_eq_getElem _⟩
                obtain ⟨bA, offA, hoA, hbA, hcA⟩ := (HSRC.out w (Below.refl _ w)).2 (by omega)
                subst hoA
                have hcw := hcA j _ (by rw [List.getElem?_map, hv]; rfl)
                have y2 : wi.cell? ⟨bA, offA + j, none⟩ = some (.int .i64 v) := (SI.out.be.cell (p := ⟨bA, offA + j, none⟩) hbA).trans hcw
                have hji : ((j : Int) < (on : Int)) := by omega
                have hj0 : (0 : Int) ≤ (j : Int) := by omega
                have hput : putL false l (oL.take (j + 1)) = putC false (putL false l (oL.take j)) v := by rw [take_next hv, putL_snoc]
                have HP := Lib.hid hput
                have hlen : (putL false l (oL.take j)).length = n := by
                  have h1 : Row wi rb 0 n n ((putL false l (oL.take j)).map Value.bool) := SI.out.get 1 rfl
                  have := h1.len
                  rwa [List.length_map] at this
                clear hcA hput hv
                by_cases hin : 0 ≤ v ∧ v < (n : Int)
                · obtain ⟨z, rfl⟩ : ∃ z : Nat, v = z := ⟨v.toNat, by omega⟩
                  have hz : z < n := by omega
                  have t1 : (z : Int) < (n : Int) := by omega
                  have t0 : (z : Int) ≥ 0 := by omega
                  have t2 : (0 : Int) ≤ (z : Int) := by omega
                  have hrow : Row wi rb 0 n n ((putL false l (oL.take j)).map Value.bool) := SI.out.get 1 rfl
                  have hcan := hrow.can z hz
                  rw [Nat.zero_add] at hcan
                  obtain ⟨ob1, hob1⟩ := Option.isSome_iff_exists.1 hcan.1
                  have hfz := hcan.2
                  have hnob : ob ≠ rb := fun e => SI.out.far 3 1 (by decide) rfl rfl ob rfl e
                  have HSV : Hid (∀ V, Keep (fun b => b = rb) wi V → V.cell? ⟨ob, 1, none⟩ = some (.slice (some ⟨bA, offA, none⟩) on oc) ∧ V.cell? ⟨ob, 0, none⟩ = some (.int .i64 2) ∧ V.cell? ⟨bA, offA + j, none⟩ = some (.int .i64 (z : Int))) := Lib.hid (fun V kV => by
                    have hob : ob < wi.heap.size := SI.out.lt 3 rfl rfl
                    have hbw : bA < wi.heap.size := Nat.lt_of_lt_of_le hbA SI.out.be.size
                    have hnb : bA ≠ rb := fun e => SI.out.old 1 rfl (k := bA) hbA e
                    exact ⟨(kV.cell (p := ⟨ob, 1, none⟩) hob hnob).trans y1, (kV.cell (p := ⟨ob, 0, none⟩) hob hnob).trans y0, (kV.cell (p := ⟨bA, offA + j, none⟩) hbw hnb).trans y2⟩)
                  have SI2 : Hid (Star w (wi.drew.setCell ⟨rb, z, none⟩ (.bool false)) [stopsH p g n c (putL false l oL), rowH rb n (putL false l (oL.take (j + 1))), bookH q own k, boxH ob [.int .i64 2, .slice (some ⟨bA, offA, none⟩) on oc], lentH gm mc oL]) := Lib.hid (by
                    rw [HP.out]
                    unfold putC
                    rw [if_pos ⟨t2, by rw [hlen]; exact t1⟩]
                    exact star_row SI.out.drew 1 rfl z hz false)
                  have HE := Lib.hid (HSV.out wi (Keep.refl _ wi))
                  clear hin hlen hrow hcan hnob SI
                  go_upto_region 31 with fail
                  refine wp_region_noPanic ?_
                  refine wp_region_held_drew (S := fun w' => w'.cell? ⟨ob, 1, none⟩ = some (.slice (some ⟨bA, offA, none⟩) on oc) ∧ w'.cell? ⟨ob, 0, none⟩ = some (.int .i64 2) ∧ w'.cell? ⟨bA, offA + j, none⟩ = some (.int .i64 (z : Int))) (by kernel_rfl) HE.out (fun hHeld => ?_)
                  refine wpAnyH_take (i := 0) (oi := _) (v := ?vb0) rfl (by kernel_rfl) (by kernel_rfl) (by kernel_rfl) (fun _ _ _ h => h) (Or.inl ⟨by rfl, ?hyb0⟩) (by assumption) ?restb0
                  case hyb0 => (intro w hSw; (try dsimp only at hSw); (try simp only [List.getElem_toArray, List.getElem_cons_zero, List.getElem_cons_succ]); go_simp; (try with_reducible rfl))
                  (try simp only [Act.put, List.setIfInBounds_toArray, List.set_cons_zero, List.set_cons_succ, List.getElem_toArray, List.getElem_cons_zero, List.getElem_cons_succ])
                  refine wpAnyH_take (i := 1) (oi := _) (v := ?vb1) rfl (by kernel_rfl) (by kernel_rfl) (by kernel_rfl) (fun _ _ _ h => h) (Or.inl ⟨by rfl, ?hyb1⟩) (by assumption) ?restb1
                  case hyb1 => (intro w hSw; (try dsimp only at hSw); (try simp only [List.getElem_toArray, List.getElem_cons_zero, List.getElem_cons_succ]); go_simp; (try with_reducible rfl))
                  (try simp only [Act.put, List.setIfInBounds_toArray, List.set_cons_zero, List.set_cons_succ, List.getElem_toArray, List.getElem_cons_zero, List.getElem_cons_succ])
                  refine wpAnyH_take (i := 2) (oi := _) (v := ?vb2) rfl (by kernel_rfl) (by kernel_rfl) (by kernel_rfl) (fun _ _ _ h => h) (Or.inl ⟨by rfl, ?hyb2⟩) (by assumption) ?restb2
                  case hyb2 => (intro w hSw; (try dsimp only at hSw); (try simp only [List.getElem_toArray, List.getElem_cons_zero, List.getElem_cons_succ]); go_simp; (try with_reducible rfl))
                  (try simp only [Act.put, List.setIfInBounds_toArray, List.set_cons_zero, List.set_cons_succ, List.getElem_toArray, List.getElem_cons_zero, List.getElem_cons_succ])
                  refine wpAnyH_take (i := 3) (oi := _) (v := ?vb3) rfl (by kernel_rfl) (by kernel_rfl) (by kernel_rfl) (fun _ _ _ h => h) (Or.inl ⟨by rfl, ?hyb3⟩) (by assumption) ?restb3
                  case hyb3 => (intro w hSw; (try dsimp only at hSw); (try simp only [List.getElem_toArray, List.getElem_cons_zero, List.getElem_cons_succ]); go_simp; (try with_reducible rfl))
                  (try simp only [Act.put, List.setIfInBounds_toArray, List.set_cons_zero, List.set_cons_succ, List.getElem_toArray, List.getElem_cons_zero, List.getElem_cons_succ])
                  refine wpAnyH_take (i := 4) (oi := _) (v := ?vb4) rfl (by kernel_rfl) (by kernel_rfl) (by kernel_rfl) (fun _ _ _ h => h) (Or.inl ⟨by rfl, ?hyb4⟩) (by assumption) ?restb4
                  case hyb4 => (intro w hSw; (try dsimp only at hSw); (try simp only [List.getElem_toArray, List.getElem_cons_zero, List.getElem_cons_succ]); go_simp; (try with_reducible rfl))
                  (try simp only [Act.put, List.setIfInBounds_toArray, List.set_cons_zero, List.set_cons_succ, List.getElem_toArray, List.getElem_cons_zero, List.getElem_cons_succ])
                  refine wpAnyH_take (i := 5) (oi := _) (v := ?vb5) rfl (by kernel_rfl) (by kernel_rfl) (by kernel_rfl) (fun _ _ _ h => h) (Or.inl ⟨by rfl, ?hyb5⟩) (by assumption) ?restb5
                  case hyb5 => (intro w hSw; (try dsimp only at hSw); (try simp only [List.getElem_toArray, List.getElem_cons_zero, List.getElem_cons_succ]); go_simp; (try with_reducible rfl))
                  (try simp only [Act.put, List.setIfInBounds_toArray, List.set_cons_zero, List.set_cons_succ, List.getElem_toArray, List.getElem_cons_zero, List.getElem_cons_succ])
                  refine wpAnyH_take (i := 6) (oi := _) (v := ?vb6) rfl (by kernel_rfl) (by kernel_rfl) (by kernel_rfl) (fun _ _ _ h => h) (Or.inl ⟨by rfl, ?hyb6⟩) (by assumption) ?restb6
                  case hyb6 => (intro w hSw; (try dsimp only at hSw); (try simp only [List.getElem_toArray, List.getElem_cons_zero, List.getElem_cons_succ]); go_simp; (try with_reducible rfl))
                  (try simp only [Act.put, List.setIfInBounds_toArray, List.set_cons_zero, List.set_cons_succ, List.getElem_toArray, List.getElem_cons_zero, List.getElem_cons_succ])
                  refine wpAnyH_take (i := 7) (oi := _) (v := ?vb7) rfl (by kernel_rfl) (by kernel_rfl) (by kernel_rfl) (fun _ _ _ h => h) (Or.inl ⟨by rfl, ?hyb7⟩) (by assumption) ?restb7
                  case hyb7 => (intro w hSw; (try dsimp only at hSw); (try simp only [List.getElem_toArray, List.getElem_cons_zero, List.getElem_cons_succ]); go_simp; (try with_reducible rfl))
                  (try simp only [Act.put, List.setIfInBounds_toArray, List.set_cons_zero, List.set_cons_succ, List.getElem_toArray, List.getElem_cons_zero, List.getElem_cons_succ])
                  refine wpAnyH_take (i := 8) (oi := _) (v := ?vb8) rfl (by kernel_rfl) (by kernel_rfl) (by kernel_rfl) (fun _ _ _ h => h) (Or.inl ⟨by rfl, ?hyb8⟩) (by assumption) ?restb8
                  case hyb8 => (intro w hSw; (try dsimp only at hSw); (try simp only [List.getElem_toArray, List.getElem_cons_zero, List.getElem_cons_succ]); go_simp; (try with_reducible rfl))
                  (try simp only [Act.put, List.setIfInBounds_toArray, List.set_cons_zero, List.set_cons_succ, List.getElem_toArray, List.getElem_cons_zero, List.getElem_cons_succ])
                  refine wpAnyH_take (i := 9) (oi := _) (v := ?vb9) rfl (by kernel_rfl) (by kernel_rfl) (by kernel_rfl) (fun _ _ _ h => h) (Or.inl ⟨by rfl, ?hyb9⟩) (by assumption) ?restb9
                  case hyb9 => (intro w hSw; (try dsimp only at hSw); (try simp only [List.getElem_toArray, List.getElem_cons_zero, List.getElem_cons_succ]); go_simp; (try with_reducible rfl))
                  (try simp only [Act.put, List.setIfInBounds_toArray, List.set_cons_zero, List.set_cons_succ, List.getElem_toArray, List.getElem_cons_zero, List.getElem_cons_succ])
                  refine wpAnyH_ready (rs := [10]) (by kernel_rfl) (by simp) ?_
                  refine AllReadyH.cons (o := _) rfl (fun K hK => ?_) AllReadyH.nil
                  (try simp only [List.getElem_toArray, List.getElem_cons_zero, List.getElem_cons_succ])
                  go_simp
                  refine hK.out _ _ ?_ (fun hHeld => ?_)
                  · exact HSV.out _ ((keep_set wi rb z _).drew)
                  clear hK K
                  (try simp only [Act.put, List.setIfInBounds_toArray, List.set_cons_zero, List.set_cons_succ, List.getElem_toArray, List.getElem_cons_zero, List.getElem_cons_succ])
                  refine wpAnyH_done (by kernel_rfl) ?_ _
                  refine NoPanic.normal ?_
                  clear y0 y1 y2 hHeld hob1 hfz
                  go_wp2_with fail
                  go_roundw
                  case rel => exact ⟨j + 1, by go_num, by omega, SI2⟩
                  case measure => simp [intOf]; omega
                · have SI2 : Hid (Star w wi [stopsH p g n c (putL false l oL), rowH rb n (putL false l (oL.take (j + 1))), bookH q own k, boxH ob [.int .i64 2, .slice (some ⟨bA, offA, none⟩) on oc], lentH gm mc oL]) := Lib.hid (by
                    rw [HP.out]
                    unfold putC
                    rw [if_neg (by rw [hlen]; exact hin)]
                    exact SI.out)
                  clear hlen SI
                  by_cases hx0 : v ≥ 0
                  · have hx1 : ¬ (v < (n : Int)) := by omega
                    clear hin
                    go_wp2_with fail
                    go_roundw
                    case rel => exact ⟨j + 1, by go_num, by omega, SI2⟩
                    case measure => simp [intOf]; omega
                  · clear hin
                    go_wp2_with fail
                    go_roundw
                    case rel => exact ⟨j + 1, by go_num, by omega, SI2⟩
                    case measure => simp [intOf]; omega
              · have hjn : j = on := by omega
                subst hjn
                have SI2 : Hid (Star w wi [stopsH p g n c (putL false l oL), rowH rb n (putL false l oL), bookH q own k, boxH ob [.int .i64 2, .slice oA j oc], lentH gm mc oL]) := Lib.hid (by
                  have := SI.out
                  rwa [List.take_of_length_le (by rw [HLEN.out]; exact Nat.le_refl _)] at this)
                clear SI
                go_wp2_with fail
                go_meet
                exact ⟨p, rb, rfl, rfl, Lib.hid ⟨g, c, _, SI2.out⟩⟩
          · by_cases hK3 : K = 3
            · subst hK3
              have hns : StopsAt W2 p g n c l := STB.out.get 0 rfl
              have HCALL := Lib.hid (chart_none W2 p g n c l hns)
              clear hns
              go_wp2_with fail
              refine HCALL.out.mono ?_
              rintro e W3 ⟨rfl, hs3, hk3⟩
              have ST3 := Lib.hid (star_stops STB.out 0 rfl hs3 hk3)
              have hmk := mk_bools n hn40
              have ST4 : Hid (Star w (W3.alloc (.cells (Array.replicate n (Value.bool false)) 4)) [stopsH p g n c (List.replicate n false), rowH W3.heap.size n (List.replicate n false), bookH q own k, boxH ob [.int .i64 3, .slice oA on oc], lentH gm mc oL]) := Lib.hid (ST3.out.turn 1 rfl (rowH W3.heap.size n (List.replicate n false)) ((Keep.refl _ W3).alloc _) (fun b e => by rw [show b = W3.heap.size from e]; exact ⟨.inr (Nat.le_refl _), by simp⟩) (by
                have := row_made W3 n hn40 4
                rwa [newT_zero] at this) (rowH_cl _ _ _))
              clear hs3 hk3 HCALL STB x0 ST3
              go_wp2_with fail
              clear hmk
              go_meet
              exact ⟨p, W3.heap.size, rfl, rfl, Lib.hid ⟨g, c, _, ST4.out⟩⟩
            · have hns : StopsAt W2 p g n c l := STB.out.get 0 rfl
              have HCALL := Lib.hid (chart_copy W2 p g n c l hns)
              clear hns
              go_wp2_with fail
              refine HCALL.out.mono ?_
              rintro e W3 ⟨p', g', c', rfl, hp', hg', hs3, hb3⟩
              have ST3 : Hid (Star w W3 [stopsH p g n c l, rowH rb n l, bookH q own k, boxH ob [.int .i64 K, .slice oA on oc], lentH gm mc oL, stopsH p' g' n c' l]) := Lib.hid (STB.out.new (stopsH p' g' n c' l) (Keep.of_below _ hb3) (fun b e => by
                have h1 := hs3.lt
                have h2 := hs3.lg
                rcases e with e | e <;> omega) hs3 (stopsH_cl _ _ _ _ _))
              clear hp' hg' hs3 hb3 HCALL STB x0
              have HCALL2 := Lib.hid (chart_none W3 p g n c l (ST3.out.get 0 rfl))
              go_wp2_with fail
              refine HCALL2.out.mono ?_
              rintro e W4 ⟨rfl, hs4, hk4⟩
              have ST4 := Lib.hid (star_stops ST3.out 0 rfl hs4 hk4)
              clear hs4 hk4 HCALL2 ST3
              have hsrc1 : Src (W4.alloc (.cells #[.int .i64 1] 3)) (some ⟨W4.heap.size, 0, none⟩) 1 ([(1 : Int)].map (Value.int .i64)) := src_one _ _ _ rfl
              have HCALL3 := Lib.hid (chart_set (W4.alloc (.cells #[.int .i64 1] 3)) p g n c (List.replicate n false) (some ⟨W4.heap.size, 0, none⟩) 1 1 [1] (ST4.out.alloc _ |>.get 0 rfl) hsrc1 (fun _ _ e => by
                have e' : W4.heap.size = g := by simpa [blk] using e
                have : g < W4.heap.size := ST4.out.lt 0 rfl (.inr rfl)
                omega) (by omega))
              clear hsrc1
              go_wp2_with fail
              refine HCALL3.out.mono ?_
              rintro e W6 ⟨rfl, hs6, hk6⟩
              have ST6 : Hid (Star w W6 [stopsH p' g' n c' l, rowH rb n l, bookH q own k, boxH ob [.int .i64 K, .slice oA on oc], lentH gm mc oL]) := Lib.hid ((star_stops (ST4.out.alloc _) 0 rfl hs6 hk6).lastFirst (xs := [rowH rb n l, bookH q own k, boxH ob [.int .i64 K, .slice oA on oc], lentH gm mc oL]))
              clear hs6 hk6 HCALL3 ST4
              go_wp2_with fail
              go_meet
              exact ⟨p', rb, rfl, rfl, Lib.hid ⟨g', c', _, ST6.out⟩⟩
      case rest =>
        obtain ⟨p2, rb2, rfl, rfl, HI⟩ := hcut
        clear STB x0
        obtain ⟨g2, c2, l2, hst⟩ := HI.out
        obtain ⟨i0, hi0, hz0, hz1, hz2⟩ := info_parts int_info
        have hl2 : l2.length = n := by
          have h1 : StopsAt wc p2 g2 n c2 l2 := hst.get 0 rfl
          exact h1.len
        have HL2 := Lib.hid hl2
        obtain ⟨B, hB⟩ : ∃ B, B = wc.heap.size := ⟨_, rfl⟩
        have SI0 : Hid (Star w wc [stopsH p2 g2 n c2 l2, rowH rb2 n l2, bookH q own k, boxH ob [.int .i64 K, .slice oA on oc], lentH gm mc oL, ownH B (.slice none 0 0) (allL (l2.take 0)).length (allL (l2.take 0))]) := Lib.hid (hst.new (ownH B (.slice none 0 0) 0 []) (Keep.refl _ _) (fun b e => by cases e) (World.ownsRow_nil _ _ _ _) (ownH_cl _ _ _ _))
        have HBW : Hid (B ≤ wc.heap.size) := Lib.hid (by omega)
        clear hst HI hl2 hB
        go_wp2_with fail
        obtain ⟨wo, hwo⟩ : ∃ wo : World, wo = wc := ⟨_, rfl⟩
        go_loopw [15, 16] (fun v i wi => ∃ j : Nat, i = .int .i64 j ∧ j ≤ n ∧ Hid (B ≤ wi.heap.size) ∧ Hid (Star w wi [stopsH p2 g2 n c2 l2, rowH rb2 n l2, bookH q own k, boxH ob [.int .i64 K, .slice oA on oc], lentH gm mc oL, ownH B v (allL (l2.take j)).length (allL (l2.take j))])) (fun _ i _ => n - (intOf i).toNat)
        case atStart => exact ⟨0, rfl, by omega, HBW, SI0⟩
        case round =>
          obtain ⟨j, rfl, hj, HBI, SI⟩ := hrel
          clear SI0 HBW hwo
          obtain ⟨wi, hwi⟩ : ∃ wi : World, wi = wr := ⟨_, rfl⟩
          rw [← hwi] at SI HBI ⊢
          clear hwi
          by_cases hjl : j < n
          · obtain ⟨b, hb⟩ : ∃ b, l2[j]? = some b := ⟨l2[j]'(by rw [HL2.out]; exact hjl), List.getElem?_eq_getElem _⟩
            have hrow : Row wi rb2 0 n n (l2.map Value.bool) := SI.out.get 1 rfl
            have hcb : wi.cell? ⟨rb2, j, none⟩ = some (.bool b) := by
              have := hrow.val j (.bool b) (by rw [List.getElem?_map, hb]; rfl)
              rwa [Nat.zero_add] at this
            have hji : ((j : Int) < (n : Int)) := by omega
            have hj0 : (0 : Int) ≤ (j : Int) := by omega
            have hal := all_take hb
            have hle := all_take_len l2 j
            have HLE := Lib.hid hle
            clear hb hle hrow
            cases b with
            | false =>
              have SI2 : Hid (Star w wi [stopsH p2 g2 n c2 l2, rowH rb2 n l2, bookH q own k, boxH ob [.int .i64 K, .slice oA on oc], lentH gm mc oL, ownH B u15 (allL (l2.take (j + 1))).length (allL (l2.take (j + 1)))]) := Lib.hid (by
                have := SI.out
                rw [hal]; simpa using this)
              clear hal SI
              go_wp2_with fail
              go_roundw
              case rel => exact ⟨j + 1, by go_num, by omega, HBI, SI2⟩
              case measure => simp [intOf]; omega
            | true =>
              have hal' : allL (l2.take (j + 1)) = allL (l2.take j) ++ [(j : Int)] := by rw [hal]; rfl
              obtain ⟨L, hL⟩ : ∃ L, allL (l2.take j) = L := ⟨_, rfl⟩
              obtain ⟨nn, hnn⟩ : ∃ nn, L.length = nn := ⟨_, rfl⟩
              rw [hL] at hal' SI HLE
              rw [hnn] at SI HLE
              have HL3 : Hid (allL (l2.take (j + 1)) = L ++ [(j : Int)] ∧ L.length = nn) := Lib.hid ⟨hal', hnn⟩
              have hnn40 : nn ≤ 40 := by have := HLE.out; omega
              have HO : Hid (wi.ownsRow B 3 1 u15 nn (L.map (Value.int .i64))) := Lib.hid (SI.out.get 5 rfl)
              have hbb : B ≤ wi.heap.size := HBI.out
              clear hal hal' hL hnn
              go_wp2_with (at_builtin; refine wpList_own_at _ rfl (.tmp 126) (.tmp 128) 39 rfl B 3 i0 (.int .i64 0) 1 8 Try.underlying39 hi0 hz0 hz1 hz2 rfl (by decide) _ nn (L.map (Value.int .i64)) rfl (own_keep HO.out ((Keep.refl (fun _ => False) wi).alloc _) (fun _ _ x => x)) ⟨wi.heap.size, 0, none⟩ 1 1 [.int .i64 (j : Int)] rfl rfl (cells_new wi [.int .i64 (j : Int)] _ _ rfl) (by intro u hu; simp at hu; subst hu; rfl) ?c3 ?c4 ?c5 ?_)
              case c3 => unfold maxLen; omega
              case c4 => omega
              case c5 => simp; omega
              · intro v' w2 hown hgrow hat
                have hown2 : w2.ownsRow B 3 1 v' (allL (l2.take (j + 1))).length ((allL (l2.take (j + 1))).map (Value.int .i64)) := by
                  rw [HL3.out.1, List.length_append, HL3.out.2, List.map_append]
                  exact hown
                have SI2 : Hid (Star w w2 [stopsH p2 g2 n c2 l2, rowH rb2 n l2, bookH q own k, boxH ob [.int .i64 K, .slice oA on oc], lentH gm mc oL, ownH B v' (allL (l2.take (j + 1))).length (allL (l2.take (j + 1)))]) := Lib.hid ((SI.out.alloc _).turn 5 rfl (ownH B v' _ _) hgrow (fun b e => ⟨(hat b e).imp id (fun z => by simpa using z), (hown2.lt b e).2⟩) hown2 (ownH_cl _ _ _ _))
                have HBI2 : Hid (B ≤ w2.heap.size) := Lib.hid (Nat.le_trans hbb (Nat.le_trans (by simp) hgrow.size))
                clear hown hown2 hgrow hat HO SI HBI hbb
                go_wp2_with fail
                go_roundw
                case rel => exact ⟨j + 1, by go_num, by omega, HBI2, SI2⟩
                case measure => simp [intOf]; omega
          · have hjn : j = n := by omega
            subst hjn
            obtain ⟨L, hL⟩ : ∃ L, allL l2 = L := ⟨_, rfl⟩
            obtain ⟨kk, hkk⟩ : ∃ kk, L.length = kk := ⟨_, rfl⟩
            have hkk40 : kk ≤ 40 := by have := all_len l2; rw [hL, HL2.out] at this; omega
            have SI2 : Hid (Star w wi [stopsH p2 g2 j c2 l2, rowH rb2 j l2, bookH q own k, boxH ob [.int .i64 K, .slice oA on oc], lentH gm mc oL, ownH B u15 kk L]) := Lib.hid (by
              have := SI.out
              rwa [List.take_of_length_le (by rw [HL2.out]; exact Nat.le_refl _), hL, hkk] at this)
            obtain ⟨A4, c4, hv4, -⟩ := own_form (SI2.out.get 5 rfl : wi.ownsRow B 3 1 u15 kk (L.map (Value.int .i64)))
            subst hv4
            have HALL : Hid (∀ V, StopsAt V p2 g2 j c2 l2 → Calls Try.prog 14 #[.pointer (some ⟨p2, 0, none⟩)] V fun e w' => ∃ v, e = .returned v ∧ w'.ownsRow V.heap.size 3 1 v kk (L.map (Value.int .i64)) ∧ Below V.heap.size V w') := Lib.hid (fun V hV => by
              have := chart_all V p2 g2 j c2 l2 hV
              rwa [hL, hkk] at this)
            have HKK := Lib.hid hkk
            clear SI HBI hL hkk hi0 hz0 hz1 hz2
            go_wp2_with fail
            refine (HALL.out wi (SI2.out.get 0 rfl)).mono ?_
            rintro e W5 ⟨v5, rfl, ho5, hb5⟩
            obtain ⟨A5, c5, rfl, -⟩ := own_form ho5
            have ST5 : Hid (Star w W5 [stopsH p2 g2 j c2 l2, rowH rb2 j l2, bookH q own k, boxH ob [.int .i64 K, .slice oA on oc], lentH gm mc oL, ownH B (.slice A4 kk c4) kk L, bufH A5 kk c5 L]) := Lib.hid (SI2.out.new (bufH A5 kk c5 L) (Keep.of_below _ hb5) (fun b e => ho5.lt b (by rw [ownBlock_slice]; exact e)) (Buf.of_own ho5) (bufH_cl _ _ _ _))
            clear ho5 hb5 SI2 HALL
            have hfar5 : ∀ i, blk A5 = some i → i ≠ q ∧ ∀ t, ¬ own t i := fun i hi => ⟨fun e => ST5.out.far 6 2 (by decide) rfl rfl i hi (.inl e), fun t e => ST5.out.far 6 2 (by decide) rfl rfl i hi (.inr ⟨t, e⟩)⟩
            have hbuf5 : Buf W5 A5 kk c5 (L.map (Value.int .i64)) := ST5.out.get 6 rfl
            have HPUT := Lib.hid (BoInts.put_Ints (ST5.out.get 2 rfl : BoInts W5 q own k) A5 kk c5 (L.map (Value.int .i64)) (bufz_buf hbuf5) ⟨L, rfl, rfl⟩ (by omega) hfar5 (by omega))
            have HB5 := Lib.hid hbuf5
            have HF5 := Lib.hid hfar5
            clear hfar5 hbuf5
            go_wp2_with fail
            refine HPUT.out.mono ?_
            rintro e W6 ⟨rfl, own6, hbo6, hk6, hsub6⟩
            have ST6 : Hid (Star w W6 [stopsH p2 g2 j c2 l2, rowH rb2 j l2, bookH q own6 (k + 1), boxH ob [.int .i64 K, .slice oA on oc], lentH gm mc oL, ownH B (.slice A4 kk c4) kk L, Hold.no]) := Lib.hid (star_put ST5.out 2 6 (by decide) rfl rfl hbo6 hk6 hsub6)
            have HB6 := Lib.hid (HB5.out.keep hk6 (fun i hi e => by
              rcases e with e | ⟨t, e⟩
              · exact (HF5.out i hi).1 e
              · exact (HF5.out i hi).2 t e))
            clear hbo6 hk6 hsub6 HPUT HB5 HF5 ST5
            have HSAME := Lib.hid (sameI_Ints A5 A4 kk c5 c4 L W6 HB6.out.src (Buf.of_own (ST6.out.get 5 rfl : W6.ownsRow B 3 1 (.slice A4 kk c4) kk (L.map (Value.int .i64)))).src (by omega))
            clear HB6
            go_wp2_with fail
            refine HSAME.out.mono ?_
            rintro e W7 ⟨rfl, d7, rfl⟩
            have ST7 := Lib.hid (ST6.out.drewN d7)
            have hrow7 : Row (W6.drewN d7) rb2 0 j j (l2.map Value.bool) := ST7.out.get 1 rfl
            have hlt7 : rb2 < (W6.drewN d7).heap.size := ST7.out.lt 1 rfl rfl
            have hsrc7 : Src (W6.drewN d7) (some ⟨rb2, 0, none⟩) j (l2.map Value.bool) := Buf.src (.inr ⟨rb2, 0, rfl, hlt7, hrow7⟩)
            have hst7 : StopsAt (W6.drewN d7) p2 g2 j c2 l2 := ST7.out.get 0 rfl
            have HN1 := Lib.hid (chart_next (W6.drewN d7) p2 g2 j c2 l2 y hst7)
            have HN2 := Lib.hid (ref_next (W6.drewN d7) (some ⟨rb2, 0, none⟩) j j l2 y hsrc7 hn40)
            have HN3 := Lib.hid (chart_next (W6.drewN d7) p2 g2 j c2 l2 0 hst7)
            have HN4 := Lib.hid (ref_next (W6.drewN d7) (some ⟨rb2, 0, none⟩) j j l2 0 hsrc7 hn40)
            obtain ⟨z1, hz1⟩ : ∃ z, nextL l2 y = z := ⟨_, rfl⟩
            obtain ⟨z2, hz2⟩ : ∃ z, nextL l2 0 = z := ⟨_, rfl⟩
            rw [hz1] at HN1 HN2
            rw [hz2] at HN3 HN4
            have HST := Lib.hid (stays_Ints gm mc oA on oc oL (W6.drewN d7) (ST7.out.get 4 rfl) (HSRC.out _ ST7.out.be) (by omega))
            have x2 : (W6.drewN d7).cell? ⟨ob, 1, none⟩ = some (.slice oA on oc) := ((ST7.out.get 3 rfl : Cells (W6.drewN d7) ob _) 1 _ rfl).1
            obtain ⟨W8, hW8⟩ : ∃ W8, W6.drewN d7 = W8 := ⟨_, rfl⟩
            rw [hW8] at ST7 HN1 HN2 HN3 HN4 HST x2
            rw [hW8]
            clear hrow7 hlt7 hsrc7 hst7 HSAME ST6 hz1 hz2 hW8
            go_wp2_with fail
            refine HN1.out.mono ?_
            rintro e V1 ⟨rfl, rfl⟩
            go_wp2_with fail
            refine HN2.out.mono ?_
            rintro e V2 ⟨rfl, rfl⟩
            go_wp2_with fail
            refine HN3.out.mono ?_
            rintro e V3 ⟨rfl, rfl⟩
            go_wp2_with fail
            refine HN4.out.mono ?_
            rintro e V4 ⟨rfl, rfl⟩
            clear HN1 HN2 HN3 HN4
            go_wp2_with fail
            refine HST.out.mono ?_
            rintro e V5 ⟨rfl, d8, rfl⟩
            have ST8 : Hid (∃ g c l own, Star w (V4.drewN d8) [stopsH p2 g j c l, rowH rb2 j l, bookH q own (k + 1)]) := Lib.hid ⟨g2, c2, l2, own6, (ST7.out.drewN d8).first 3⟩
            clear HST ST7 x2
            go_wp2_with fail
            go_roundw
            case rel => exact ⟨k + 1, p2, rb2, rfl, rfl, by go_num, by omega, ST8⟩
            case measure => simp [intOf]; omega
    · have hkn : k = N := by omega
      subst hkn
      obtain ⟨g, c, l, own, hst⟩ := HI.out
      have ST := Lib.hid hst
      clear hst HI
      obtain ⟨W1, hW1⟩ : ∃ W1, W1 = wr.alloc (.cells #[.int .i64 1] 3) := ⟨_, rfl⟩
      have c1 : W1.cell? ⟨wr.heap.size, 0, none⟩ = some (.int .i64 1) := by rw [hW1]; exact cell_of_row _ _ 0 _ _ (0, 0) (heap_alloc_new wr _)
      have ST1 := Lib.hid (ST.out.alloc (.cells #[.int .i64 1] 3))
      rw [← hW1] at ST1
      have HC1 := Lib.hid (nil_set W1 wr.heap.size 1 c1)
      rw [hW1] at HC1 ST1
      clear c1 hW1 ST
      go_wp2_with fail
      refine HC1.out.mono ?_
      rintro e W2 ⟨rfl, rfl⟩
      obtain ⟨W2, hW2⟩ : ∃ W2, wr.alloc (.cells #[.int .i64 1] 3) = W2 := ⟨_, rfl⟩
      rw [hW2] at ST1
      rw [hW2]
      clear HC1 hW2
      have c2 : (W2.alloc (.cells #[.int .i64 1] 3)).cell? ⟨W2.heap.size, 0, none⟩ = some (.int .i64 1) := cell_of_row _ _ 0 _ _ (0, 0) (heap_alloc_new W2 _)
      have HC2 := Lib.hid (nil_clear _ W2.heap.size 1 c2)
      have ST2 := Lib.hid (ST1.out.alloc (.cells #[.int .i64 1] 3))
      clear c2 ST1
      go_wp2_with fail
      refine HC2.out.mono ?_
      rintro e W3 ⟨rfl, rfl⟩
      obtain ⟨W3, hW3⟩ : ∃ W3, W2.alloc (.cells #[.int .i64 1] 3) = W3 := ⟨_, rfl⟩
      rw [hW3] at ST2
      rw [hW3]
      clear HC2 hW3
      have HAP := Lib.hid ((ST2.out.get 2 rfl : BoInts W3 q own k).apart (by omega))
      go_wp2_with fail
      refine (nil_none _).mono ?_
      rintro e W4 ⟨rfl, rfl⟩
      go_wp2_with fail
      refine (nil_next _ 3).mono ?_
      rintro e W5 ⟨rfl, rfl⟩
      go_wp2_with fail
      refine (nil_all _).mono ?_
      rintro e W6 ⟨rfl, rfl⟩
      go_wp2_with fail
      refine (nil_copy _).mono ?_
      rintro e W7 ⟨rfl, rfl⟩
      go_wp2_with fail
      refine HAP.out.mono ?_
      rintro e W8 ⟨rfl, hk8⟩
      have HB8 : Hid (Below w.heap.size w W8) := Lib.hid (ST2.out.be.trans (hk8.below ST2.out.be.size (fun i hi e => by
        obtain ⟨t, e⟩ := e
        exact ST2.out.old 2 rfl hi (.inr ⟨t, e⟩))))
      clear hk8 HAP ST2
      go_wp2_with fail
      go_ret
      exact ⟨rfl, HB8.out⟩

end Go.Proofs.Ythmogbldfecckaa
