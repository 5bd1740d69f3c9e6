/- Law EscStops: the walk. Own work. -/
import Derived.Test.YthphnjilbpidgaaEscH
import Derived.Test.YthphnjilbpidgaaActsR
namespace Go.Proofs.Ythphnjilbpidgaa
set_option linter.unusedVariables false
set_option linter.unusedSimpArgs false
open Go.RowKit

theorem size24 : (⟨#[24]⟩ : ByteArray).size = 1 := rfl
theorem stop_fed (J : ByteArray) : AlikeE (feedsE .z [J, ⟨#[24]⟩]).1 (pAt 0) := by
  have h := (feed_alikeE ((joinL [J, ⟨#[24]⟩]).map (·.toNat)) AlikeE.z).1
  have e : ((joinL [J, ⟨#[24]⟩]).map (·.toNat)) = J.data.toList.map (·.toNat) ++ [24] := by simp [joinL]
  rw [e, feedP_add, feedP_one, byteP_24, ← e] at h
  exact h
theorem AlikeE.came00 {b : BP} {q : PL} (h : AlikeE b q) (h1 : q.st = 0) : b.came = 0 := by
  cases h with
  | g u B h => rfl
  | _ => exact absurd h1 (by simp)
theorem same_fed {b c : BP} {q : PL} (h : AlikeE b q) (h' : AlikeE c q) (ts : List ByteArray) : (feedsE b ts).2 = (feedsE c ts).2 := by
  unfold feedsE
  rw [(feed_alikeE _ h).2, (feed_alikeE _ h').2]
theorem esc_fresh_keep {S : Nat → Prop} {w w' : World} (k : Keep S (w.alloc (.cells parserCs 37)) w') (hp : ¬ S w.heap.size) : EscAt w' w.heap.size 0 .z :=
  (esc_new w).keep k hp (fun i hi R hR => by
    have := (Cell.box (w := w) (t := 37) (cs := parserCs) 0 (v := .pointer none) rfl).1
    rw [this] at hR; cases hR)

set_option maxRecDepth 100000 in
set_option maxHeartbeats 3200000 in
theorem walk_EscStops (a : ByteArray) (wa : a.size ≤ maxLen) (b : ByteArray) (wb : b.size ≤ maxLen) (w : World) :
    Calls Try.prog 4 #[.string a, .string b] w fun e w' => e = .returned (.bool true) ∧ Below w.heap.size w w' := by
  by_cases hsa : a.size ≤ 800
  · by_cases hsb : b.size ≤ 500
    · have h3a : ¬ ((a.size : Int) > 800) := by omega
      have h3b : ¬ ((b.size : Int) > 500) := by omega
      go_enter Try.func4, Try.ntmps4
      go_wp2_with fail
      refine (alive_any _).mono ?_
      rintro e w1 ⟨rfl, hb⟩
      have HB := Lib.hid hb
      clear hb
      go_wp2_with fail
      have HJ := Lib.hid (stop_fed a)
      have hf := esc_feed_new w1.heap.size 0 .z [a, ⟨#[24]⟩] #[.string a, .string ⟨#[24]⟩] ((w1.alloc (.cells parserCs 37)).alloc (.cells parserCs 37)) ((esc_new w1).alloc _) (by simp) (by simp) (by simp [sum, size24]; omega) (by decide) 2 (by simp)
      rw [show ((w1.alloc (.cells parserCs 37)).alloc (.cells parserCs 37)).heap.size = w1.heap.size + 1 + 1 from by simp] at hf
      have hy0 := fun (w' : World) (k : Keep (· = w1.heap.size) ((w1.alloc (.cells parserCs 37)).alloc (.cells parserCs 37)) w') => And.intro (esc_fresh_keep (w := w1.alloc (.cells parserCs 37)) k (by simp)) ((Cell.box (w := w1.alloc (.cells parserCs 37)) (t := 37) (cs := parserCs) 0 (v := .pointer none) rfl).keep k (by simp))
      rw [show (w1.alloc (.cells parserCs 37)).heap.size = w1.heap.size + 1 from by simp] at hy0
      have hbl : ∀ w' : World, Keep (· = w1.heap.size) (((w1.alloc (.cells parserCs 37)).alloc (.cells parserCs 37)).alloc (.cells #[.string a, .string ⟨#[24]⟩] 9)) w' → Below w.heap.size w w' := fun w' k => by
        have hs := HB.out.size
        exact ((((HB.out.alloc hs _).alloc (by simp; omega) _).alloc (by simp; omega) _).trans (k.below (by simp; omega) (fun k hk e => by omega)))
      have hsz : ∀ w' : World, Keep (· = w1.heap.size) (((w1.alloc (.cells parserCs 37)).alloc (.cells parserCs 37)).alloc (.cells #[.string a, .string ⟨#[24]⟩] 9)) w' → w1.heap.size + 2 < w'.heap.size := fun w' k => by
        have := k.size
        simp at this; omega
      unfold parserCs at hf hy0 hbl hsz
      refine hf.mono ?_
      rintro e w2 ⟨A, n, c, rfl, hn, ha, he, hk⟩
      have HB2 := Lib.hid (hbl w2 hk.keep)
      have hz2 := hsz w2 hk.keep
      have HY := Lib.hid (hy0 w2 (((Keep.refl _ _).alloc _).trans hk.keep (fun _ _ x => x))).1
      have HC := Lib.hid (hy0 w2 (((Keep.refl _ _).alloc _).trans hk.keep (fun _ _ x => x))).2
      have HE := Lib.hid he
      have hq : w.heap.size ≤ w1.heap.size := HB.out.size
      clear hn ha he hk hf hy0 hbl hsz HB
      obtain ⟨p, hp⟩ : ∃ p, p = w1.heap.size := ⟨_, rfl⟩
      rw [← hp] at HE HY HC hq hz2
      go_wp2_with fail
      rw [← hp]
      refine (esc_ground p 0 _ _ HE.out).mono ?_
      rintro e w3 ⟨rfl, rfl⟩
      rw [(AlikeE.at0 HJ.out rfl rfl).1]
      go_wp2_with fail
      rw [← hp]
      refine (esc_kept p 0 _ _ HE.out).mono ?_
      rintro e w4 ⟨rfl, k4, hw4⟩
      rw [(AlikeE.at0 HJ.out rfl rfl).2]
      have K4 : Keep (fun _ => False) w3 w4 := by rw [hw4]; exact (Keep.refl _ w3).drewN k4
      have HE4 := Lib.hid (HE.out.keep K4 (fun x => x) (fun i x => x.elim))
      have HY4 := Lib.hid (HY.out.keep K4 (fun x => x) (fun i x => x.elim))
      have HC4 := Lib.hid (HC.out.keep K4 (fun x => x))
      have HB4 : Hid (Below w.heap.size w w4) := Lib.hid (HB2.out.trans (K4.below HB2.out.size (fun k hk e => e.elim)))
      have hz4 : p + 2 < w4.heap.size := by have := K4.size; omega
      clear hw4 K4 HE HY HC HB2 hz2
      go_wp2_with fail
      rw [← hp]
      refine (esc_feed_new p 0 _ [b] #[.string b] w4 HE4.out (by simp) (by simp) (by simp [sum]; omega) (by rw [AlikeE.came00 HJ.out rfl]; omega) 1 (by simp)).mono ?_
      rintro e w5 ⟨A5, n5, c5, rfl, hn5, ha5, he5, hk5⟩
      have K5 : Keep (· = p) w4 w5 := ((Keep.refl _ w4).alloc _).trans hk5.keep (fun _ _ x => x)
      have HY5 : Hid (EscAt w5 (p + 1) 0 .z) := Lib.hid (HY4.out.keep K5 (by simp) (fun i hi R hR => by rw [HC4.out.1] at hR; cases hR))
      have HB5 : Hid (Below w.heap.size w w5) := Lib.hid (HB4.out.trans (K5.below HB4.out.size (fun k hk e => by omega)))
      have hz5 : p + 2 < w5.heap.size := by have := K5.size; omega
      rw [same_fed HJ.out AlikeE.z] at hn5 ha5
      have HN := Lib.hid hn5
      clear hn5
      have ha5' := ha5.base (B2 := p + 2) (by simp; omega)
      have HA5 := Lib.hid ha5'
      clear ha5 ha5' he5 hk5 K5 HY4 HC4 HB4 HE4 hz4
      go_wp2_with fail
      rw [← hp]
      refine (esc_feed_new (p + 1) 0 .z [b] #[.string b] w5 HY5.out (by simp) (by simp) (by simp [sum]; omega) (by decide) 1 (by simp)).mono ?_
      rintro e w6 ⟨A6, n6, c6, rfl, hn6, ha6, he6, hk6⟩
      have K6 : Keep (· = p + 1) w5 w6 := ((Keep.refl _ w5).alloc _).trans hk6.keep (fun _ _ x => x)
      have HA56 := Lib.hid (HA5.out.keep K6 (fun i hi e => by omega))
      have HA6 := Lib.hid ha6
      have HB6 : Hid (Below w.heap.size w w6) := Lib.hid (HB5.out.trans (K6.below HB5.out.size (fun k hk e => by omega)))
      obtain rfl : n6 = n5 := hn6.trans HN.out.symm
      have hn : Hid (n6 ≤ 1099511627776) := by
        show n6 ≤ 1099511627776
        rw [hn6]
        have hl := (len_feedE ((joinL [b]).map (·.toNat)) .z St.Ok.z).1
        have e : ((joinL [b]).map (·.toNat)).length = b.size := by simp [joinL]
        rw [e] at hl
        exact Nat.le_trans hl (by omega)
      have H8 := Lib.hid (nums8_feeds AlikeE.z [b])
      clear hn6 HN ha6 he6 hk6 K6 HY5 HB5 HA5
      go_wp2_with fail
      refine (esc_same HA56.out HA6.out H8.out hn.out).mono ?_
      rintro e w7 ⟨rfl, k7, hw7⟩
      have HB7 : Hid (Below w.heap.size w w7) := Lib.hid (by rw [hw7]; exact ⟨HB6.out.os, HB6.out.tape, HB6.out.output, HB6.out.size, HB6.out.block⟩)
      clear hw7
      go_wp2_with fail
      go_ret
      exact ⟨rfl, HB7.out⟩
    · have h3a : ¬ ((a.size : Int) > 800) := by omega
      have h3b : (b.size : Int) > 500 := by omega
      go_enter Try.func4, Try.ntmps4
      go_wp2_with fail
      refine (alive_any _).mono ?_
      rintro e w1 ⟨rfl, hb⟩
      have HB := Lib.hid hb
      clear hb
      go_wp2_with fail
      go_ret
      exact ⟨rfl, HB.out⟩
  · have h3a : (a.size : Int) > 800 := by omega
    go_enter Try.func4, Try.ntmps4
    go_wp2_with fail
    refine (alive_any _).mono ?_
    rintro e w1 ⟨rfl, hb⟩
    have HB := Lib.hid hb
    clear hb
    go_wp2_with fail
    go_ret
    exact ⟨rfl, HB.out⟩

end Go.Proofs.Ythphnjilbpidgaa
