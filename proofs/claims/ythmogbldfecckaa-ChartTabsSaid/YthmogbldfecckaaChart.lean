/- chart.Stops: columns, Next, put, Set, Clear, None, All. Own work. -/
import Derived.Test.YthmogbldfecckaaChartM
import Derived.Lib.SliceRun
namespace Go.Proofs.Ythmogbldfecckaa
set_option linter.unusedVariables false
set_option linter.unusedSimpArgs false
open Go.RowKit

set_option maxHeartbeats 800000 in
theorem chart_columns (w : World) (p g n c : Nat) (l : List Bool) (h : StopsAt w p g n c l) :
    Calls Try.prog 27 #[.pointer (some ⟨p, 0, none⟩)] w fun e w' => e = .returned (.slice (some ⟨g, 0, none⟩) n c) ∧ w' = w := by
  have c0 := h.cs.1
  clear h
  go_enter Try.func27, Try.ntmps27
  go_wp2_with fail
  go_ret
  exact ⟨rfl, rfl⟩

set_option maxHeartbeats 800000 in
theorem chart_columns_nil (w : World) :
    Calls Try.prog 27 #[.pointer none] w fun e w' => e = .returned (.slice none 0 0) ∧ w' = w := by
  go_enter Try.func27, Try.ntmps27
  go_wp2_with fail
  go_ret
  exact ⟨rfl, rfl⟩

set_option maxRecDepth 100000 in
set_option maxHeartbeats 1600000 in
theorem chart_next (w : World) (p g n c : Nat) (l : List Bool) (x : Int) (h : StopsAt w p g n c l) :
    Calls Try.prog 17 #[.pointer (some ⟨p, 0, none⟩), .int .i64 x] w fun e w' => e = .returned (.int .i64 (nextL l x)) ∧ w' = w := by
  have hC := Lib.hid (chart_columns w p g n c l h)
  have hn := h.le
  have hni : (n : Int) ≤ 40 := by omega
  have hN : Hid (nextL l x = nextR x n 0 (l.drop 0)) := Lib.hid (by unfold nextL; rw [h.len]; rfl)
  have H := Lib.hid h
  clear h
  go_enter Try.func17, Try.ntmps17
  go_wp2_with fail
  refine hC.out.mono ?_
  rintro e w1 ⟨rfl, rfl⟩
  go_wp2_with fail
  go_loopw [6, 7, 12] (fun _ _ i wr => ∃ k : Nat, i = .int .i64 k ∧ k ≤ n ∧ wr = w1 ∧ Hid (nextL l x = nextR x n k (l.drop k))) (fun _ _ i _ => n - (intOf i).toNat)
  case atStart => exact ⟨0, rfl, Nat.zero_le _, rfl, hN⟩
  case round =>
    obtain ⟨k, rfl, hk, rfl, HN⟩ := hrel
    clear hN
    by_cases hlt : k < n
    · obtain ⟨b, hb, hcb⟩ := H.out.at' hlt
      have hki : ((k : Int) < (n : Int)) := by omega
      have hk0 : (0 : Int) ≤ (k : Int) := by omega
      have hs := HN.out
      rw [nextR_at hb] at hs
      have HB := Lib.hid hb
      clear hb
      by_cases hx : b = true ∧ (k : Int) > x
      · rw [if_pos hx] at hs
        obtain ⟨rfl, hx⟩ := hx
        have HS := Lib.hid hs
        clear hs HN
        go_wp2_with fail
        go_ret
        exact ⟨by rw [HS.out]; rfl, rfl⟩
      · rw [if_neg hx] at hs
        have HS := Lib.hid hs
        clear hs HN
        cases b with
        | false =>
          clear hx
          go_wp2_with fail
          go_roundw
          case rel => exact ⟨k + 1, by go_num, by omega, trivial, HS⟩
          case measure => simp [intOf]; omega
        | true =>
          have hx2 : ¬ ((k : Int) > x) := fun e => hx ⟨rfl, e⟩
          clear hx
          go_wp2_with fail
          go_roundw
          case rel => exact ⟨k + 1, by go_num, by omega, trivial, HS⟩
          case measure => simp [intOf]; omega
    · have hkn : k = n := by omega
      subst hkn
      have hs := HN.out
      rw [List.drop_of_length_le (by rw [H.out.len]; exact Nat.le_refl _)] at hs
      unfold nextR at hs
      have HS := Lib.hid hs
      clear hs HN
      go_wp2_with fail
      go_ret
      exact ⟨by rw [HS.out]; rfl, rfl⟩

set_option maxRecDepth 100000 in
set_option maxHeartbeats 1600000 in
theorem chart_put (w : World) (p g n c : Nat) (l : List Bool) (b : Bool) (A : Option Addr) (m mc : Nat) (xs : List Int) (h : StopsAt w p g n c l) (hx : Src w A m (xs.map (Value.int .i64))) (hfar : 0 < n → 0 < m → blk A ≠ some g) (hm : m ≤ 1000000) :
    Calls Try.prog 26 #[.pointer (some ⟨p, 0, none⟩), .bool b, .slice A m mc] w fun e w' => e = .returned (.tuple #[]) ∧ StopsAt w' p g n c (putL b l xs) ∧ Keep (fun i => i = g ∧ 0 < n) w w' := by
  have hC := Lib.hid (chart_columns w p g n c l h)
  have hn := h.le
  have hni : (n : Int) ≤ 40 := by omega
  have hl : xs.length = m := by have := hx.1; rwa [List.length_map] at this
  have HL := Lib.hid hl
  have HX := Lib.hid hx
  have HF := Lib.hid hfar
  have H0 : Hid (StopsAt w p g n c (putL b l (xs.take 0))) := Lib.hid (by rw [List.take_zero]; exact h)
  clear h hl hx hfar
  go_enter Try.func26, Try.ntmps26
  go_wp2_with fail
  refine hC.out.mono ?_
  rintro e w1 ⟨rfl, rfl⟩
  go_wp2_with fail
  go_loopw [8, 13] (fun _ i wr => ∃ k : Nat, i = .int .i64 k ∧ k ≤ m ∧ Hid (StopsAt wr p g n c (putL b l (xs.take k))) ∧ Hid (Keep (fun i => i = g ∧ 0 < n) w1 wr)) (fun _ i _ => m - (intOf i).toNat)
  case atStart => exact ⟨0, rfl, Nat.zero_le _, H0, Lib.hid (Keep.refl _ _)⟩
  case round =>
    obtain ⟨k, rfl, hk, H, HK⟩ := hrel
    clear H0 hC
    by_cases hlt : k < m
    · obtain ⟨x, hxk⟩ : ∃ x, xs[k]? = some x := ⟨xs[k]'(by rw [HL.out]; exact hlt), List.getElem?_eq_getElem _⟩
      obtain ⟨bb, off, rfl, hbb, hcs⟩ := HX.out.2 (by omega)
      have hcx : wr.cell? ⟨bb, off + k, none⟩ = some (.int .i64 x) := (HK.out.cell (p := ⟨bb, off + k, none⟩) hbb (fun e => HF.out e.2 (by omega) (by rw [← e.1]; rfl))).trans (hcs k _ (by rw [List.getElem?_map, hxk]; rfl))
      have hki : ((k : Int) < (m : Int)) := by omega
      have hk0 : (0 : Int) ≤ (k : Int) := by omega
      have hput : putL b l (xs.take (k + 1)) = putC b (putL b l (xs.take k)) x := by rw [take_next hxk, putL_snoc]
      have hlen := H.out.len
      have HP := Lib.hid hput
      have HXK := Lib.hid hxk
      clear hcs hput hxk
      by_cases hin : 0 ≤ x ∧ x < (n : Int)
      · obtain ⟨z, rfl⟩ : ∃ z : Nat, x = z := ⟨x.toNat, by omega⟩
        have hz : z < n := by omega
        have t1 : (z : Int) < (n : Int) := by omega
        have t0 : (z : Int) ≥ 0 := by omega
        have t2 : (0 : Int) ≤ (z : Int) := by omega
        obtain ⟨ob, -, hob⟩ := H.out.at' hz
        have hfz : wr.frozen? ⟨g, z, none⟩ = false := by have := (H.out.row.can z (by have := H.out.row.le; omega)).2; rwa [Nat.zero_add] at this
        have HS : Hid (StopsAt (wr.setCell ⟨g, z, none⟩ (.bool b)) p g n c (putL b l (xs.take (k + 1)))) := Lib.hid (by
          rw [HP.out]
          unfold putC
          rw [if_pos ⟨t2, by rw [hlen]; exact t1⟩]
          exact H.out.set hz b)
        have HK2 : Hid (Keep (fun i => i = g ∧ 0 < n) w1 (wr.setCell ⟨g, z, none⟩ (.bool b))) := Lib.hid (HK.out.setCell (p := ⟨g, z, none⟩) (fun _ => ⟨rfl, by omega⟩) _)
        clear hin hlen HK H
        go_wp2_with fail
        go_roundw
        case rel => exact ⟨k + 1, by go_num, by omega, HS, HK2⟩
        case measure => simp [intOf]; omega
      · have HS : Hid (StopsAt wr p g n c (putL b l (xs.take (k + 1)))) := Lib.hid (by
          rw [HP.out]
          unfold putC
          rw [if_neg (by rw [hlen]; exact hin)]
          exact H.out)
        clear hlen H
        by_cases hx0 : x ≥ 0
        · have hx1 : ¬ (x < (n : Int)) := by omega
          clear hin
          go_wp2_with fail
          go_roundw
          case rel => exact ⟨k + 1, by go_num, by omega, HS, HK⟩
          case measure => simp [intOf]; omega
        · clear hin
          go_wp2_with fail
          go_roundw
          case rel => exact ⟨k + 1, by go_num, by omega, HS, HK⟩
          case measure => simp [intOf]; omega
    · have hkn : k = m := by omega
      subst hkn
      have HS : Hid (StopsAt wr p g n c (putL b l xs)) := Lib.hid (by have := H.out; rwa [List.take_of_length_le (by rw [HL.out]; exact Nat.le_refl _)] at this)
      clear H
      go_wp2_with fail
      go_end0
      exact ⟨rfl, HS.out, HK.out⟩

end Go.Proofs.Ythmogbldfecckaa
