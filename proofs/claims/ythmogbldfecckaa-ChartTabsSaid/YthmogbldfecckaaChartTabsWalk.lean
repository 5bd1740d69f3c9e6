/- Law ChartTabs: the walk. Own work. -/
import Derived.Test.YthmogbldfecckaaChartA
import Derived.Test.YthmogbldfecckaaMapI
import Derived.Deep.Cut
import Derived.IntWalk
namespace Go.Proofs.Ythmogbldfecckaa
set_option linter.unusedVariables false
set_option linter.unusedSimpArgs false
open Go.RowKit

theorem nextR_is (x n : Int) (r : List Bool) (k : Nat) : (∃ i, r[i]? = some true ∧ ((k + i : Nat) : Int) > x ∧ nextR x n k r = ((k + i : Nat) : Int)) ∨ nextR x n k r = max (n - 1) 0 := by
  induction r generalizing k with
  | nil => exact .inr rfl
  | cons b r ih =>
    unfold nextR
    by_cases h : b = true ∧ (k : Int) > x
    · rw [if_pos h]
      exact .inl ⟨0, by rw [h.1]; rfl, h.2, rfl⟩
    · rw [if_neg h]
      rcases ih (k + 1) with ⟨i, h1, h2, h3⟩ | h3
      · exact .inl ⟨i + 1, h1, by rw [show k + (i + 1) = k + 1 + i from by omega]; exact h2, by rw [h3, show k + (i + 1) = k + 1 + i from by omega]⟩
      · exact .inr h3
theorem mem_allR (l : List Bool) (i k : Nat) (h : l[i]? = some true) : ((k + i : Nat) : Int) ∈ allR k l := by
  induction l generalizing i k with
  | nil => simp at h
  | cons b r ih =>
    cases i with
    | zero =>
      have hb : b = true := by simpa using h
      subst hb
      unfold allR
      rw [if_pos rfl]
      exact List.mem_cons_self
    | succ i =>
      have := ih i (k + 1) (by simpa using h)
      rw [show k + 1 + i = k + (i + 1) from by omega] at this
      unfold allR
      split
      · exact List.mem_cons_of_mem _ this
      · exact this
theorem mem_allR_lt (l : List Bool) (k : Nat) (x : Int) (h : x ∈ allR k l) : (k : Int) ≤ x ∧ x < k + l.length := by
  induction l generalizing k with
  | nil => simp [allR] at h
  | cons b r ih =>
    unfold allR at h
    split at h
    · rcases List.mem_cons.1 h with e | e
      · rw [e, List.length_cons]; omega
      · have := ih (k + 1) e; rw [List.length_cons]; omega
    · have := ih (k + 1) h; rw [List.length_cons]; omega
/-- From a column ahead of the last one: the next stop. -/
theorem next_in (l : List Bool) (n : Nat) (hn : l.length = n) (h0 : 0 < n) (x : Int) (hx : x < (n : Int) - 1) : x < nextL l x ∧ nextL l x < n ∧ (nextL l x = (n : Int) - 1 ∨ nextL l x ∈ allL l) := by
  unfold nextL
  rw [hn]
  rcases nextR_is x n l 0 with ⟨i, h1, h2, h3⟩ | h3
  · rw [h3]
    have hi : i < l.length := by
      rcases Nat.lt_or_ge i l.length with e | e
      · exact e
      · rw [List.getElem?_eq_none e] at h1; cases h1
    have := mem_allR l i 0 h1
    exact ⟨h2, by omega, .inr this⟩
  · rw [h3]
    exact ⟨by omega, by omega, .inl (by omega)⟩

def tabsF (n : Int) (L : List Int) : Int → Option Value := fun y => if y = n - 1 ∨ y ∈ L then some (.bool true) else none
theorem tabs_first (n : Int) : putI (fun _ => none) (n - 1) (.bool true) = tabsF n [] := by
  funext y
  simp [putI, tabsF]
theorem tabs_more (n : Int) (L : List Int) (x : Int) : putI (tabsF n L) x (.bool true) = tabsF n (L ++ [x]) := by
  funext y
  unfold putI tabsF
  by_cases h : y = x
  · simp [h]
  · rw [if_neg h]
    congr 1
    apply propext
    simp [h]

set_option maxRecDepth 100000 in
set_option maxHeartbeats 1600000 in
theorem chartTabs_early (x : Int) (A : Option Addr) (m c : Nat) (w : World) (h : x < 1 ∨ (¬ x < 1 ∧ x > 40) ∨ (¬ x < 1 ∧ ¬ x > 40 ∧ (m : Int) > 20)) :
    Calls Try.prog 5 #[.int .i64 x, .slice A m c] w fun e w' => e = .returned (.bool true) ∧ Below w.heap.size w w' := by
  rcases h with h | ⟨h, h2⟩ | ⟨h, h2, h3⟩
  all_goals
    go_enter Try.func5, Try.ntmps5
    go_wp2_with fail
    refine (alive_any _).mono ?_
    rintro e w1 ⟨rfl, hb⟩
    have HB := Lib.hid hb
    clear hb
    go_wp2_with fail
    go_ret
    exact ⟨rfl, HB.out⟩

set_option maxRecDepth 100000 in
set_option maxHeartbeats 3200000 in
theorem walk_ChartTabs (x : Int) (wx : (Lit.int .i64 x).wf = true) (A : Option Addr) (m c : Nat) (xs : List Int) (w : World) (h : Ints w A m xs) :
    Calls Try.prog 5 #[.int .i64 x, .slice A m c] w fun e w' => e = .returned (.bool true) ∧ Below w.heap.size w w' := by
  by_cases h1 : x < 1
  · exact chartTabs_early x A m c w (.inl h1)
  by_cases h2 : x > 40
  · exact chartTabs_early x A m c w (.inr (.inl ⟨h1, h2⟩))
  by_cases h3 : (m : Int) > 20
  · exact chartTabs_early x A m c w (.inr (.inr ⟨h1, h2, h3⟩))
  obtain ⟨n, rfl⟩ : ∃ n : Nat, x = n := ⟨x.toNat, by omega⟩
  have hn1 : (n : Int) ≥ 1 := by omega
  have hn40 : (n : Int) ≤ 40 := by omega
  have hm20 : (m : Int) ≤ 20 := by omega
  have hsrc := Lib.hid (src_ints h)
  clear h wx
  have t1 : ¬ ((n : Int) < 1) := by omega
  have t2 : ¬ ((n : Int) > 40) := by omega
  go_enter Try.func5, Try.ntmps5
  go_wp2_with fail
  refine (alive_any _).mono ?_
  rintro e w1 ⟨rfl, hb1⟩
  have HB1 := Lib.hid hb1
  clear hb1
  go_wp2_with fail
  refine (chart_new w1 n n (by omega)).mono ?_
  rintro e w2 ⟨rfl, hs2, hb2⟩
  obtain ⟨p, hp⟩ : ∃ p, p = w1.heap.size + 1 := ⟨_, rfl⟩
  obtain ⟨g, hg⟩ : ∃ g, g = w1.heap.size := ⟨_, rfl⟩
  have HB2 := Lib.hid (HB1.out.trans (hb2.mono HB1.out.size))
  have hwg : w.heap.size ≤ g := by have := HB1.out.size; omega
  rw [← hp, ← hg] at hs2
  rw [← hp]
  have HS2 := Lib.hid hs2
  have HWG := Lib.hid hwg
  have HWP : Hid (w.heap.size ≤ p) := Lib.hid (by omega)
  clear hs2 hb2 hp hg HB1 hwg
  go_wp2_with fail
  refine (chart_set w2 p g n n (newL n) A m c xs HS2.out (hsrc.out.far (⟨HB2.out.os, HB2.out.tape, HB2.out.output, HB2.out.size, fun i hi hn => HB2.out.block i (by omega)⟩ : Keep (fun i => w.heap.size ≤ i) w w2) (fun h0 i hi x => by have := hsrc.out.lt h0 hi; omega)) (fun h0 e0 e => by have := hsrc.out.lt e0 e; have := HWG.out; omega) (by omega)).mono ?_
  rintro e w3 ⟨rfl, hs3, hk3⟩
  obtain ⟨l, hl⟩ : ∃ l, putL true (newL n) xs = l := ⟨_, rfl⟩
  rw [hl] at hs3
  have HS3 := Lib.hid hs3
  have HB3 : Hid (Below w.heap.size w w3) := Lib.hid (HB2.out.trans (hk3.below HB2.out.size (fun i hi e => by have := HWG.out; omega)))
  clear hs3 hk3 hl HS2 HB2
  obtain ⟨q, hq⟩ : ∃ q, q = w3.heap.size := ⟨_, rfl⟩
  have hmap := MapI.made Try.prog 3 w3
  obtain ⟨w4, m4, hrun4, hm4, hmap4, hg4⟩ := hmap.put Try.underlying3 Try.underlying54 (by unfold maxLen; omega) (x := (n : Int) - 1) (by simp [Lit.wf, IntKind.min, IntKind.max, IntKind.signed, IntKind.bits]; omega) (.bool true)
  rw [tabs_first] at hmap4
  rw [← hq] at hmap4 hg4
  have K4 : Hid (Keep (fun k => q = k) (w3.alloc (.map #[] 0)) w4) := Lib.hid ((Keep.refl _ _).grown hg4 (fun k hk _ => by injection hk))
  have HM4 := Lib.hid hmap4
  have HS4 : Hid (StopsAt w4 p g n n l) := Lib.hid ((HS3.out.keep (S := fun _ => False) ((Keep.refl _ w3).alloc _) (fun x => x) (fun x => x)).keep K4.out (fun e => by have := HS3.out.lt; omega) (fun e => by have := HS3.out.lg; omega))
  have HB4 : Hid (Below w.heap.size w w4) := Lib.hid ((HB3.out.alloc HB3.out.size _).trans (K4.out.below (by have := HB3.out.size; simp; omega) (fun i hi e => by have := HB3.out.size; omega)))
  have HQ : Hid (w.heap.size ≤ q ∧ q < w4.heap.size) := Lib.hid ⟨by have := HB3.out.size; omega, by have := K4.out.size; simp at this; omega⟩
  have hmm := @run_makeMap Try.prog
  have hw0 : IntKind.i64.wrap ((n : Int) - 1) = (n : Int) - 1 := IntWalk.i64_in _ (by omega)
  clear hmap hmap4 hg4
  go_upto_region 8 with fail
  try rw [← hq]
  clear hrun4 hmm hq hw0
  have hl40 := HS4.out.len
  have hal := all_len l
  go_wp2_with fail
  refine (chart_all w4 p g n n l HS4.out).mono ?_
  rintro e w5 ⟨v5, rfl, ho5, hb5⟩
  obtain ⟨L, hL⟩ : ∃ L, allL l = L := ⟨_, rfl⟩
  rw [hL] at ho5 hal
  obtain ⟨A5, c5, rfl, -⟩ := own_form ho5
  obtain ⟨k5, hk5⟩ : ∃ k5, L.length = k5 := ⟨_, rfl⟩
  rw [hk5] at ho5 hal ⊢
  have hki5 : (k5 : Int) ≤ 40 := by omega
  have HL : Hid (allL l = L ∧ L.length = k5 ∧ ∀ x ∈ L, (Lit.int .i64 x).wf = true) := Lib.hid ⟨hL, hk5, fun x hx => by
    have := mem_allR_lt l 0 x (by have := hL ▸ hx; exact this)
    simp [Lit.wf, IntKind.min, IntKind.max, IntKind.signed, IntKind.bits]; omega⟩
  have HO5 : Hid (Src w5 A5 k5 (L.map (Value.int .i64))) := Lib.hid (Buf.of_own ho5).src
  have HA5 : Hid (∀ i, blk A5 = some i → w4.heap.size ≤ i ∧ i < w5.heap.size) := Lib.hid (fun i hi => ho5.lt i (by rw [ownBlock_slice]; exact hi))
  have HS5 : Hid (StopsAt w5 p g n n l) := Lib.hid (HS4.out.keep (S := fun _ => False) (Keep.of_below _ hb5) (fun x => x) (fun x => x))
  have HM5 : Hid (MapI Try.prog 3 w5 q m4 (tabsF n (L.take 0))) := Lib.hid (HM4.out.keep (S := fun _ => False) (Keep.of_below _ hb5) (fun x => x))
  have HB5 := Lib.hid (HB4.out.trans (hb5.mono HB4.out.size))
  have hqp : q ≠ p := fun e => by
    have := HM4.out.cells 0
    rw [e, HS4.out.cs.1] at this
    cases this
  have hqg : q ≠ g := fun e => by
    have h1 := HM4.out.cells 0
    obtain ⟨b, _, hb⟩ := HS4.out.at' (k := 0) (by omega)
    rw [e, hb] at h1
    cases h1
  have HQP : Hid (q ≠ p ∧ q ≠ g ∧ blk A5 ≠ some q ∧ w.heap.size ≤ q) := Lib.hid ⟨hqp, hqg, fun e => by have := (HA5.out q e).1; have := HQ.out.2; omega, HQ.out.1⟩
  clear hqp hqg
  have HM0 : Hid (m4 ≤ 1) := Lib.hid (by omega)
  clear ho5 hb5 hL hk5 HS4 HM4 HB4 HQ hm4 hl40 hal
  go_wp2_with fail
  go_loopw [8] (fun i wr => ∃ k : Nat, i = .int .i64 k ∧ k ≤ k5 ∧ Hid (StopsAt wr p g n n l) ∧ Hid (Src wr A5 k5 (L.map (Value.int .i64))) ∧ Hid (∃ mm, mm ≤ k + 1 ∧ MapI Try.prog 3 wr q mm (tabsF n (L.take k))) ∧ Hid (Below w.heap.size w wr)) (fun i _ => k5 - (intOf i).toNat)
  case atStart => exact ⟨0, rfl, by omega, HS5, HO5, Lib.hid ⟨m4, HM0.out, HM5.out⟩, HB5⟩
  case round =>
    obtain ⟨k, rfl, hk, HS, HO, HM, HB⟩ := hrel
    clear HS5 HO5 HM5 HB5
    by_cases hlt : k < k5
    · obtain ⟨y, hy⟩ : ∃ y, L[k]? = some y := ⟨L[k]'(by rw [HL.out.2.1]; exact hlt), List.getElem?_eq_getElem _⟩
      obtain ⟨bb, off, rfl, hbb, hcs⟩ := HO.out.2 (by omega)
      have hcx : wr.cell? ⟨bb, off + k, none⟩ = some (.int .i64 y) := hcs k _ (by rw [List.getElem?_map, hy]; rfl)
      have hk1 : (k : Int) < (k5 : Int) := by omega
      have hk0 : (0 : Int) ≤ (k : Int) := by omega
      obtain ⟨mm, hmm, hmap⟩ := HM.out
      obtain ⟨w6, m6, hrun6, hm6, hmap6, hg6⟩ := hmap.put Try.underlying3 Try.underlying54 (by unfold maxLen; omega) (x := y) (HL.out.2.2 y (List.mem_of_getElem? hy)) (.bool true)
      rw [tabs_more, ← take_next hy] at hmap6
      have K6 : Hid (Keep (fun k => q = k) wr w6) := Lib.hid ((Keep.refl _ _).grown hg6 (fun k hk _ => by injection hk))
      have HM6 : Hid (∃ mm, mm ≤ k + 1 + 1 ∧ MapI Try.prog 3 w6 q mm (tabsF n (L.take (k + 1)))) := Lib.hid ⟨m6, by omega, hmap6⟩
      have HS6 := Lib.hid (HS.out.keep K6.out HQP.out.1 HQP.out.2.1)
      have HO6 := Lib.hid (HO.out.of_keep K6.out (fun i hi e => HQP.out.2.2.1 (by rw [← show q = i from e] at hi; exact hi)))
      have HB6 := Lib.hid (HB.out.trans (K6.out.below HB.out.size (fun i hi e => by have := HQP.out.2.2.2; omega)))
      clear hy hcs hmap hmap6 hg6 hmm hm6 HM HS HO HB K6
      go_wp2_with fail
      go_roundw
      case rel => exact ⟨k + 1, by go_num, by omega, HS6, HO6, HM6, HB6⟩
      case measure => simp [intOf]; omega
    · have hkn : k = k5 := by omega
      subst hkn
      have HM7 : Hid (∃ mm, MapI Try.prog 3 wr q mm (tabsF n L)) := Lib.hid (by
        obtain ⟨mm, _, h⟩ := HM.out
        rw [List.take_of_length_le (by rw [HL.out.2.1]; exact Nat.le_refl _)] at h
        exact ⟨mm, h⟩)
      have hrx : (0 : Int) ≤ (n : Int) - 1 := by omega
      have hw0 : IntKind.i64.wrap ((n : Int) - 1) = (n : Int) - 1 := IntWalk.i64_in _ (by omega)
      clear HM HO
      go_wp2_with fail
      obtain ⟨wo, hwo⟩ : ∃ wo : World, wo = wr := ⟨_, rfl⟩
      subst hwo
      go_loopw [9, 10, 11] (fun xv iv _ wr => ∃ x i : Int, xv = .int .i64 x ∧ iv = .int .i64 i ∧ wr = wo ∧ 0 ≤ i ∧ i ≤ x ∧ x ≤ (n : Int) - 1) (fun _ iv _ _ => 100 - (intOf iv).toNat)
      case atStart => exact ⟨0, 0, rfl, rfl, rfl, by omega, by omega, hrx⟩
      case round =>
        obtain ⟨x, i, rfl, rfl, rfl, hi0, hix, hxn⟩ := hrel
        have hi60 : i < 60 := by omega
        by_cases hx : x < (n : Int) - 1
        · have hnx := next_in l n HS.out.len (by omega) x hx
          have HN := Lib.hid (chart_next wr p g n n l x HS.out)
          obtain ⟨y, hy⟩ : ∃ y, nextL l x = y := ⟨_, rfl⟩
          rw [hy] at hnx HN
          obtain ⟨hy1, hy2, hy3⟩ := hnx
          have hz : ∀ V : World, (zeroValue 4).run Try.prog V = .ok (.bool false) V := fun V => zero_bool V
          have hlk : (Instr.lookup 54 (.map (some q)) (.int .i64 y) false).run Try.prog wr = .ok (.bool true) wr := by
            obtain ⟨mm, hm⟩ := HM7.out
            have h := hm.look Try.underlying3 Try.underlying54 (t := 54) (e := 4) (hz wr) (x := y) (by simp [Lit.wf, IntKind.min, IntKind.max, IntKind.signed, IntKind.bits]; omega)
            rw [h]
            have : tabsF n L y = some (.bool true) := by
              unfold tabsF
              rw [if_pos (by rw [← HL.out.1]; exact hy3)]
            rw [this]
            rfl
          have u1 : ¬ (y ≤ x) := by omega
          have u2 : ¬ (y ≥ (n : Int)) := by omega
          clear hy hz hy3
          go_wp2_with fail
          refine HN.out.mono ?_
          rintro e w7 ⟨rfl, rfl⟩
          clear HN
          go_wp2_with fail
          go_roundw
          case rel => exact ⟨y, i + 1, rfl, by go_num, trivial, by omega, by omega, by omega⟩
          case measure => simp [intOf]; omega
        · have hxe : x = (n : Int) - 1 := by omega
          subst hxe
          clear hx
          go_wp2_with fail
          go_ret
          exact ⟨by simp [go_sem], HB.out⟩

end Go.Proofs.Ythmogbldfecckaa
