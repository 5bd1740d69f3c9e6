/- Law UtfCuts: the walk. Own work. -/
import Derived.Test.YtoihadjboeeglaaUtfA
import Derived.Test.YtoihadjboeeglaaCuts
import Derived.Test.YtoihadjboeeglaaTexts
import Derived.Test.YtoihadjboeeglaaRunes
import Derived.Deep.Cut
namespace Go.Proofs.Ytoihadjboeeglaa
set_option linter.unusedVariables false
set_option linter.unusedSimpArgs false
open Go.RowKit

theorem feedsU_next {s : St} {ps : List ByteArray} {k : Nat} {x : ByteArray} (hx : ps[k]? = some x) :
    feedsU s (ps.take (k + 1)) = ((feedU (feedsU s (ps.take k)).1 (natsOf x)).1, (feedsU s (ps.take k)).2 ++ (feedU (feedsU s (ps.take k)).1 (natsOf x)).2) := by
  rw [take_next hx, feedsU_add, feedsU_one]

theorem feedsU_few {ps : List ByteArray} (k : Nat) : (feedsU .z (ps.take k)).2.length ≤ sum ps := by
  have h := feedU_len St.Ok.z ((joinL (ps.take k)).map (·.toNat))
  rw [← feedsU_join, List.length_map, joinL_len] at h
  have := sum_take ps k
  have ez : St.z.some = 0 := rfl
  omega

/-- What the law's loop has fed. -/
def FedCuts (p : Nat) (w4 : World) (ps : List ByteArray) (k : Nat) (l : Value) (wr : World) : Prop :=
  wr.ownsRow w4.heap.size 21 1 l (rs (feedsU .z (ps.take k)).2).length ((rs (feedsU .z (ps.take k)).2).map (Value.int .i32)) ∧ RdU wr p 0 (feedsU .z (ps.take k)).1 ∧ Keep (fun i => i = p) w4 wr

set_option maxRecDepth 100000 in
set_option maxHeartbeats 1600000 in
theorem utfCuts_early (a : ByteArray) (A : Option Addr) (n cap : Nat) (w : World) (h : (a.size : Int) > 1000 ∨ (¬ (a.size : Int) > 1000 ∧ (n : Int) > 40)) :
    Calls Try.prog 6 #[.string a, .slice A n cap] w fun e w' => e = .returned (.bool true) ∧ Below w.heap.size w w' := by
  rcases h with h | ⟨h, h2⟩
  all_goals
    go_enter Try.func6, Try.ntmps6
    go_wp2_with fail
    refine (alive_any _).mono ?_
    rintro e w1 ⟨rfl, hb⟩
    have HB := Lib.hid hb
    clear hb
    go_wp2_with fail
    go_ret
    exact ⟨rfl, HB.out⟩

set_option maxRecDepth 100000 in
set_option maxHeartbeats 3200000 in
theorem walk_UtfCuts (a : ByteArray) (wa : a.size ≤ maxLen) (A : Option Addr) (n cap : Nat) (xs : List Int) (w : World) (h : Ints w A n xs) :
    Calls Try.prog 6 #[.string a, .slice A n cap] w fun e w' => e = .returned (.bool true) ∧ Below w.heap.size w w' := by
  by_cases hs : (a.size : Int) > 1000
  · exact utfCuts_early a A n cap w (.inl hs)
  by_cases hn : (n : Int) > 40
  · exact utfCuts_early a A n cap w (.inr ⟨hs, hn⟩)
  obtain ⟨i0, hi0, hz0, hz1, hz2⟩ := info_parts rune_info
  have H := Lib.hid h
  clear h wa
  go_enter Try.func6, Try.ntmps6
  go_wp2_with fail
  refine (alive_any _).mono ?_
  rintro e w1 ⟨rfl, hb⟩
  have HB1 := Lib.hid hb
  clear hb
  go_upto_region 4 with fail
  obtain ⟨w2, hw2⟩ : ∃ w2, w2 = (w1.alloc (.cells #[.int .i32 0, .int .i64 0, .int .i64 0, .int .u8 0, .int .u8 0] 28)).alloc (.cells #[.int .i32 0, .int .i64 0, .int .i64 0, .int .u8 0, .int .u8 0] 28) := ⟨_, rfl⟩
  obtain ⟨p, hp⟩ : ∃ p, p = w1.heap.size := ⟨_, rfl⟩
  have HB2 : Hid (Below w.heap.size w w2) := Lib.hid (by rw [hw2]; exact (HB1.out.alloc HB1.out.size _).alloc (by have := HB1.out.size; simp; omega) _)
  have RA2 : Hid (RdU w2 p 0 .z) := Lib.hid (by rw [hw2, hp]; exact (RdU.made w1 _).alloc _)
  have RB2 : Hid (RdU w2 (p + 1) 0 .z) := Lib.hid (by
    have := RdU.made (w1.alloc (.cells #[.int .i32 0, .int .i64 0, .int .i64 0, .int .u8 0, .int .u8 0] 28)) 28
    rw [hw2, hp]; simpa using this)
  have hwp : w.heap.size ≤ p := by have := HB1.out.size; omega
  have HP := Lib.hid hwp
  have hz2' : w2.heap.size = p + 2 := by rw [hw2, hp]; simp
  have HZ2 := Lib.hid hz2'
  try rw [← hw2]
  try rw [← hp]
  clear hw2 hp hwp hz2'
  go_wp2_with fail
  refine (cuts_any a A n cap xs w2 ((src_ints H.out).far (HB2.out.size |> fun _ => (⟨HB2.out.os, HB2.out.tape, HB2.out.output, HB2.out.size, fun i hi hn => HB2.out.block i (by omega)⟩ : Keep (fun i => w.heap.size ≤ i) w w2)) (fun h0 i hi x => by have := (src_ints H.out).lt h0 hi; omega)) H.out.2.2.1 (by omega) (by omega)).mono ?_
  rintro e w3 ⟨v, ps, rfl, o3, hj, hpn, b3⟩
  obtain ⟨PA, pc, rfl, -⟩ := own_form o3
  obtain ⟨np, hnp⟩ : ∃ np, np = ps.length := ⟨_, rfl⟩
  have HNP := Lib.hid hnp
  rw [← hnp] at o3 hpn ⊢
  have HSUM : Hid (sum ps ≤ 1000) := Lib.hid (by
    have e1 := congrArg List.length hj
    rw [joinL_len, ← Lib.size_eq] at e1
    omega)
  have S3 := Lib.hid (Buf.of_own o3).src
  have HPA3 : Hid (∀ i, blk PA = some i → p + 2 ≤ i) := Lib.hid (fun i hi => by have := (o3.lt i (by rw [ownBlock_slice]; exact hi)).1; have := HZ2.out; omega)
  have B3 := Lib.hid b3
  have hnp2 : (np : Int) ≤ 41 := by omega
  clear o3 hj hpn b3 hnp
  go_wp2_with fail
  refine (lent_Texts PA np pc ps w3 S3.out (by omega)).mono ?_
  rintro e w4 ⟨g, cg, rfl, hle, hg, b4⟩
  have HLE := Lib.hid hle
  have S4 := Lib.hid (S3.out.below b4)
  have HB4 : Hid (Below w2.heap.size w2 w4) := Lib.hid (B3.out.trans (b4.mono B3.out.size))
  have hgp : p + 2 ≤ g := by have := B3.out.size; have := HZ2.out; omega
  have HG := Lib.hid hgp
  have RA4 := Lib.hid (RA2.out.below HB4.out)
  have RB4 := Lib.hid (RB2.out.below HB4.out)
  have HPA : Hid (∀ i, blk PA = some i → p + 2 ≤ i) := HPA3
  clear hle hg b4 hgp HPA3
  have hp4 : p < w4.heap.size := RA4.out.lt
  go_wp2_with fail
  go_loopw [9, 10] (fun l i wr => ∃ k : Nat, i = .int .i64 k ∧ k ≤ np ∧ Hid (FedCuts p w4 ps k l wr)) (fun _ i _ => np - (intOf i).toNat)
  case atStart => exact ⟨0, rfl, by omega, World.ownsRow_nil _ _ _ _, RA4.out, Keep.refl _ _⟩
  case round =>
    obtain ⟨k, rfl, hk, HF⟩ := hrel
    obtain ⟨o5, r5, k5⟩ := HF.out
    by_cases hlt : k < np
    · obtain ⟨x, hx⟩ : ∃ x, ps[k]? = some x := ⟨ps[k]'(by rw [← HNP.out]; exact hlt), List.getElem?_eq_getElem _⟩
      obtain ⟨b, off, rfl, hbl, hcs⟩ := (S4.out.of_keep k5 (fun i hi e => by have := HPA.out i hi; omega)).2 (by omega)
      have hcx : wr.cell? ⟨b, off + k, none⟩ = some (.string x) := hcs k _ (by rw [List.getElem?_map, hx]; rfl)
      have hki : ((k : Int) < (np : Int)) := by omega
      have hk0 : (0 : Int) ≤ (k : Int) := by omega
      have hxs : x.size ≤ 1000 := by have := sum_mem (List.mem_of_getElem? hx); have := HSUM.out; omega
      have HN := Lib.hid (feedsU_next (s := .z) hx)
      have hf1 := feedsU_few (ps := ps) k
      have hf2 := feedsU_few (ps := ps) (k + 1)
      have HF1 : Hid ((feedsU .z (ps.take k)).2.length ≤ 1000) := Lib.hid (by have := HSUM.out; omega)
      have HF2 : Hid ((feedU (feedsU .z (ps.take k)).1 (natsOf x)).2.length ≤ 1000) := Lib.hid (by
        have := HSUM.out
        rw [HN.out] at hf2
        simp only [List.length_append] at hf2
        omega)
      obtain ⟨y, hy⟩ : ∃ y, feedU (feedsU .z (ps.take k)).1 (natsOf x) = y := ⟨_, rfl⟩
      rw [hy] at HF2
      have HF3 := Lib.hid (hy ▸ utf_feed_one p 0 (feedsU .z (ps.take k)).1 wr.heap.size x 1 (wr.alloc (.cells #[.string x] 9)) (r5.alloc _) (by simp [go_sem, Array.size_push]) (by have := r5.lt; omega) (by omega))
      have O5 := Lib.hid o5
      have K5 := Lib.hid k5
      have HY := Lib.hid hy
      clear hcs hx hf1 hf2 o5 r5 k5 hy
      go_wp2_with fail
      refine HF3.out.mono ?_
      rintro e w6 ⟨v6, rfl, o6, r6, k6⟩
      have K6 : Hid (Keep (fun k => k = p) wr w6) := Lib.hid (((Keep.refl (fun k => k = p) wr).alloc _).trans k6 (fun _ _ x => x))
      have O6 := Lib.hid o6
      have R6 := Lib.hid r6
      have hnl : ∀ i, u9.ownBlock = some i → i ≠ p := fun i hi => by have := (O5.out.lt i hi).1; omega
      have V6 := Lib.hid (own_keep O5.out K6.out hnl)
      have hs6 : w4.heap.size ≤ w6.heap.size := Nat.le_trans K5.out.size K6.out.size
      have HNL := Lib.hid hnl
      clear o6 r6 k6 hnl hcx
      go_wp2_with (at_builtin; refine wpList_own_more _ rfl (.tmp 39) (.tmp 46) 46 rfl w4.heap.size (wr.alloc (.cells #[.string x] 9)).heap.size 21 i0 (.int .i32 0) 1 4 Try.underlying46 hi0 hz0 hz1 hz2 rfl (by decide) _ _ _ _ _ _ rfl rfl V6.out O6.out ?c2 ?c3 ?c4 ?c5 ?_)
      case c2 => exact one_Runes _
      case c3 => have := HF1.out; have := HF2.out; rw [rs_len]; unfold maxLen; omega
      case c4 => have := HF1.out; have := HF2.out; rw [rs_len]; omega
      case c5 => exact hs6
      intro v7 w7 hown hkeep hat
      have HF7 : Hid (FedCuts p w4 ps (k + 1) v7 w7) := Lib.hid (by
        refine ⟨?_, ?_, (K5.out.trans K6.out (fun _ _ x => x)).trans hkeep (fun i hi e => by have := (O5.out.lt i e).1; omega)⟩
        · rw [HN.out, HY.out]
          simp only [rs_add, List.length_append, List.map_append]
          rw [rs_len y.2]
          exact hown
        · rw [HN.out, HY.out]
          exact R6.out.keep hkeep (fun e => HNL.out p e rfl))
      clear hown hkeep hat
      go_wp2_with fail
      go_roundw
      case rel => exact ⟨k + 1, by go_num, by omega, HF7⟩
      case measure => simp [intOf]; omega
    · have hkn : k = np := by omega
      have HXS : Hid (ps.take k = ps) := Lib.hid (List.take_of_length_le (by rw [← HNP.out]; omega))
      obtain ⟨y, hy⟩ : ∃ y, feedsU .z ps = y := ⟨_, rfl⟩
      have hf1 := feedsU_few (ps := ps) k
      have hok : y.1.Ok := by rw [← hy]; exact St.Ok.z.feeds ps
      rw [HXS.out, hy] at o5 r5 hf1
      obtain ⟨m, hm⟩ : ∃ m, y.2.length = m := ⟨_, rfl⟩
      have hm2 : m ≤ 1000 := by have := HSUM.out; omega
      rw [rs_len, hm] at o5
      have HM := Lib.hid hm
      obtain ⟨LA, lc, rfl, -⟩ := own_form o5
      have O5 := Lib.hid (Buf.of_own o5).src
      have HLA : Hid (∀ i, blk LA = some i → w4.heap.size ≤ i) := Lib.hid (fun i hi => (o5.lt i (by rw [ownBlock_slice]; exact hi)).1)
      have R5 := Lib.hid r5
      have K5 := Lib.hid k5
      have LE5 := Lib.hid (HLE.out.keep k5 (by have := HG.out; omega))
      have RB5 := Lib.hid (RB4.out.keep k5 (by omega))
      have S5 := Lib.hid (S4.out.of_keep k5 (fun i hi e => by have := HPA.out i hi; omega))
      have HFD := Lib.hid (fun (h : Src wr (some ⟨g, 0, none⟩) np (ps.map Value.string)) => hy ▸ utf_feed (p + 1) 0 .z (some ⟨g, 0, none⟩) np cg ps wr RB5.out h (fun _ e => by have := HG.out; simp [blk] at e; omega) (by omega) (by have := HSUM.out; omega))
      have hh3 : (y.1.half : Int) ≤ 3 := by have := hok.half3; omega
      clear hkn o5 r5 k5 hy hf1 hok hm HXS HF
      go_wp2_with fail
      refine (HFD.out (by have := LE5.out.src; rwa [List.length_map, ← HNP.out] at this)).mono ?_
      rintro e w6 ⟨v6, rfl, o6, r6, k6⟩
      obtain ⟨A6, c6, rfl, -⟩ := own_form o6
      rw [HM.out] at o6 ⊢
      have O6 := Lib.hid (Buf.of_own o6).src
      have R6 := Lib.hid r6
      have K6 := Lib.hid k6
      have V6 := Lib.hid (O5.out.of_keep k6 (fun i hi e => by have := HLA.out i hi; have := RB4.out.lt; omega))
      have RA6 := Lib.hid (R5.out.keep k6 (by omega))
      clear o6 r6 k6
      go_wp2_with fail
      refine (same_Runes LA A6 m lc c6 (rs y.2) w6 V6.out O6.out (by omega)).mono ?_
      rintro e w7 ⟨rfl, k7, hw7⟩
      have HK7 : Hid (Keep (fun _ => False) w6 w7) := Lib.hid (by rw [hw7]; exact (Keep.refl _ w6).drewN k7)
      have RA7 := Lib.hid (RA6.out.keep HK7.out (fun x => x))
      have RB7 := Lib.hid (R6.out.keep HK7.out (fun x => x))
      clear hw7
      go_wp2_with fail
      refine (utf_half _ 0 _ _ RA7.out).mono ?_
      rintro e w8 ⟨rfl, rfl⟩
      go_wp2_with fail
      refine (utf_half _ 0 _ _ RB7.out).mono ?_
      rintro e w8 ⟨rfl, rfl⟩
      go_wp2_with fail
      refine (utf_half _ 0 _ _ RA7.out).mono ?_
      rintro e w8 ⟨rfl, rfl⟩
      have K8 : Hid (Keep (fun k => k = p + 1) wr w8) := Lib.hid (K6.out.trans HK7.out (fun _ _ x => x.elim))
      go_wp2_with fail
      refine (stays_Texts g cg PA np pc ps w8 (LE5.out.keep K8.out (by have := HG.out; omega)) (S5.out.of_keep K8.out (fun i hi e => by have := HPA.out i hi; omega)) (by omega)).mono ?_
      rintro e w9 ⟨rfl, k9, hw9⟩
      have HB9 : Hid (Below w.heap.size w w9) := Lib.hid (by
        have hw := HP.out
        have h0 := HB2.out.size
        have h1 := HB2.out.trans (HB4.out.mono h0)
        have h2 := h1.trans (K5.out.below h1.size (fun i hi e => by omega))
        have h3 := h2.trans (K8.out.below h2.size (fun i hi e => by omega))
        rw [hw9]; exact h3.trans (((Keep.refl (fun _ => False) w8).drewN k9).below h3.size (fun _ _ x => x)))
      clear hw9
      go_wp2_with fail
      go_ret
      exact ⟨rfl, HB9.out⟩

end Go.Proofs.Ytoihadjboeeglaa
