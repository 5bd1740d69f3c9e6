/- Law EscCuts: the walk. Own work. -/
import Derived.Test.YthphnjilbpidgaaActsM
import Derived.Test.YthphnjilbpidgaaActsR
import Derived.Test.YthphnjilbpidgaaEscH
import Derived.Test.YthphnjilbpidgaaCuts
import Derived.Test.YthphnjilbpidgaaTexts
namespace Go.Proofs.Ythphnjilbpidgaa
set_option linter.unusedVariables false
set_option linter.unusedSimpArgs false
open Go.RowKit

def natsL (ps : List ByteArray) : List Nat := ps.flatMap natsOf
theorem natsL_join {ps : List ByteArray} {s : ByteArray} (h : joinL ps = s.data.toList) : natsL ps = natsOf s := by
  unfold natsOf
  rw [← h]
  unfold natsL joinL
  clear h
  induction ps with
  | nil => rfl
  | cons x r ih => simp only [List.flatMap_cons, List.map_append, ih]; rfl
theorem natsL_len (ps : List ByteArray) : (natsL ps).length = sum ps := by
  rw [← joinL_len]
  unfold natsL joinL
  induction ps with
  | nil => rfl
  | cons x r ih => simp only [List.flatMap_cons, List.length_append, ih, natsOf, List.length_map]
theorem natsL_next {ps : List ByteArray} {k : Nat} {x : ByteArray} (h : ps[k]? = some x) : natsL (ps.take (k + 1)) = natsL (ps.take k) ++ natsOf x := by
  rw [take_next h]; simp [natsL]

theorem esc_apart {w : World} {p q : Nat} {b b' : BP} (h : EscAt w p 0 b) (k : EscAt w q 0 b') : ∀ R, w.cell? ⟨p, 0, none⟩ = some (.pointer (some ⟨R, 0, none⟩)) → q ≠ R := by
  intro R hR e
  subst e
  rcases h.r with h0 | ⟨R', hr, hR', _⟩
  · rw [h0.1] at hR; simp at hR
  · rw [hr.1] at hR
    have e' : R' = q := by simpa using hR
    subst e'
    have h1 := hR'.o0.1
    rcases k.r with k0 | ⟨R2, kr, _, _⟩
    · rw [k0.1] at h1; simp at h1
    · rw [kr.1] at h1; simp at h1
theorem natsOf_bit (S : ByteArray) (k : Nat) (h : k < S.size) : (natsOf S).take k ++ natsOf (S.extract k (k + 1)) = (natsOf S).take (k + 1) := by
  have hl : S.data.toList.length = S.size := (Lib.size_eq S).symm
  have e : natsOf (S.extract k (k + 1)) = ((natsOf S).drop k).take 1 := by
    have e := extract_mk S.data.toList
    rw [mk_data] at e
    rw [e]
    simp [natsOf, List.map_drop, List.map_take, List.drop_take]
  rw [e, List.take_add]

set_option maxRecDepth 100000 in
set_option maxHeartbeats 1600000 in
theorem escCuts_early (a : ByteArray) (A : Option Addr) (n cap : Nat) (w : World) (h : (a.size : Int) > 1500 ∨ (¬ (a.size : Int) > 1500 ∧ (n : Int) > 40)) :
    Calls Try.prog 3 #[.string a, .slice A n cap] w fun e w' => e = .returned (.bool true) ∧ Below w.heap.size w w' := by
  rcases h with h | ⟨h, h2⟩
  all_goals
    go_enter Try.func3, Try.ntmps3
    go_wp2_with fail
    refine (alive_any _).mono ?_
    rintro e w1 ⟨rfl, hb⟩
    have HB := Lib.hid hb
    clear hb
    go_wp2_with fail
    go_ret
    exact ⟨rfl, HB.out⟩

set_option maxRecDepth 100000 in
set_option maxHeartbeats 6400000 in
theorem walk_EscCuts (a : ByteArray) (wa : a.size ≤ maxLen) (A : Option Addr) (n cap : Nat) (xs : List Int) (w : World) (h : Ints w A n xs) :
    Calls Try.prog 3 #[.string a, .slice A n cap] w fun e w' => e = .returned (.bool true) ∧ Below w.heap.size w w' := by
  by_cases hs : (a.size : Int) > 1500
  · exact escCuts_early a A n cap w (.inl hs)
  by_cases hn : (n : Int) > 40
  · exact escCuts_early a A n cap w (.inr ⟨hs, hn⟩)
  have H := Lib.hid h
  obtain ⟨W1, hW1⟩ : ∃ W1 : World → World, W1 = fun v => ((v.alloc (.cells parserCs 37)).alloc (.cells parserCs 37)).alloc (.cells parserCs 37) := ⟨_, rfl⟩
  have HW1 := Lib.hid hW1
  clear h wa hW1
  go_enter Try.func3, Try.ntmps3
  go_wp2_with fail
  refine (alive_any _).mono ?_
  rintro e w1 ⟨rfl, hb⟩
  have HB1 := Lib.hid hb
  clear hb
  go_upto_region 5 with fail
  obtain ⟨w2, hw2⟩ : ∃ w2, w2 = W1 w1 := ⟨_, rfl⟩
  obtain ⟨p, hp⟩ : ∃ p, p = w1.heap.size := ⟨_, rfl⟩
  have HB2 : Hid (Below w.heap.size w w2) := Lib.hid (by rw [hw2, HW1.out]; exact (((HB1.out.alloc HB1.out.size _).alloc (by have := HB1.out.size; simp; omega) _).alloc (by have := HB1.out.size; simp; omega) _))
  have RA2 : Hid (EscAt w2 p 0 .z) := Lib.hid (by rw [hw2, HW1.out, hp]; exact ((esc_new w1).alloc _).alloc _)
  have RB2 : Hid (EscAt w2 (p + 1) 0 .z) := Lib.hid (by
    have := (esc_new (w1.alloc (.cells parserCs 37))).alloc (.cells parserCs 37)
    rw [hw2, HW1.out, hp]; simpa using this)
  have RC2 : Hid (EscAt w2 (p + 1 + 1) 0 .z) := Lib.hid (by
    have := esc_new ((w1.alloc (.cells parserCs 37)).alloc (.cells parserCs 37))
    rw [hw2, HW1.out, hp]; simpa using this)
  have hwp : w.heap.size ≤ p := by have := HB1.out.size; omega
  have HP := Lib.hid hwp
  have hz2' : w2.heap.size = p + 3 := by rw [hw2, HW1.out, hp]; simp
  have HZ2 := Lib.hid hz2'
  rw [HW1.out] at hw2
  dsimp only at hw2
  unfold parserCs at hw2
  try rw [← hw2]
  try rw [← hp]
  clear hw2 hp hwp hz2' HW1
  go_wp2_with fail
  refine (cuts_any a A n cap xs w2 ((src_ints H.out).far (HB2.out.size |> fun _ => (⟨HB2.out.os, HB2.out.tape, HB2.out.output, HB2.out.size, fun i hi hn => HB2.out.block i (by omega)⟩ : Keep (fun i => w.heap.size ≤ i) w w2)) (fun h0 i hi x => by have := (src_ints H.out).lt h0 hi; omega)) H.out.2.2.1 (by omega) (by omega)).mono ?_
  rintro e w3 ⟨v, ps, rfl, o3, hj, hpn, b3⟩
  obtain ⟨PA, pc, rfl, -⟩ := own_form o3
  obtain ⟨np, hnp⟩ : ∃ np, np = ps.length := ⟨_, rfl⟩
  have HNP := Lib.hid hnp
  rw [← hnp] at o3 hpn ⊢
  have HJ : Hid (natsL ps = natsOf a) := Lib.hid (natsL_join hj)
  have HAL : Hid ((natsOf a).length ≤ 1500) := Lib.hid (by rw [natsOf_len]; omega)
  have HSUM : Hid (sum ps ≤ 1500) := Lib.hid (by rw [← natsL_len, HJ.out]; exact HAL.out)
  have S3 := Lib.hid (Buf.of_own o3).src
  have HPA3 : Hid (∀ i, blk PA = some i → p + 3 ≤ i) := Lib.hid (fun i hi => by have := (o3.lt i (by rw [ownBlock_slice]; exact hi)).1; have := HZ2.out; omega)
  have B3 := Lib.hid b3
  have hp3 : p + 3 ≤ w3.heap.size := by have := b3.size; have := HZ2.out; omega
  have HP3 := Lib.hid hp3
  have hnp2 : (np : Int) ≤ 41 := by omega
  have RA3 := Lib.hid (RA2.out.below b3)
  have RB3 := Lib.hid (RB2.out.below b3)
  have RC3 := Lib.hid (RC2.out.below b3)
  have HB3 : Hid (Below w.heap.size w w3) := Lib.hid (HB2.out.trans (b3.mono HB2.out.size))
  clear o3 hj hpn b3 hnp RA2 RB2 RC2 HB2
  go_wp2_with fail
  go_loopw [8, 11] (fun l i wr => ∃ k : Nat, i = .int .i64 k ∧ k ≤ np ∧ Hid (FedA p w3.heap.size w3 (natsL (ps.take k)) l wr)) (fun _ i _ => np - (intOf i).toNat)
  case atStart => exact ⟨0, rfl, by omega, none, 0, 0, rfl, ActsV.nil _ _, RA3.out, Keep.refl _ _, fun _ => rfl⟩
  case round =>
    obtain ⟨k, rfl, hk, HF⟩ := hrel
    obtain ⟨LA, ln, lc, rfl, hA5, hE5, hK5, hz5⟩ := HF.out
    by_cases hlt : k < np
    · obtain ⟨x, hx⟩ : ∃ x, ps[k]? = some x := ⟨ps[k]'(by rw [← HNP.out]; exact hlt), List.getElem?_eq_getElem _⟩
      obtain ⟨b, off, rfl, hbl, hcs⟩ := (S3.out.of_keep hK5 (fun i hi e => by have := HPA3.out i hi; omega)).2 (by omega)
      have hcx : wr.cell? ⟨b, off + k, none⟩ = some (.string x) := hcs k _ (by rw [List.getElem?_map, hx]; rfl)
      have hki : ((k : Int) < (np : Int)) := by omega
      have hk0 : (0 : Int) ≤ (k : Int) := by omega
      have hl1 : (natsL (ps.take k)).length + x.size ≤ 100000 := by
        have h1 := sum_take ps k
        have h2 := sum_mem (List.mem_of_getElem? hx)
        have h3 := HSUM.out
        rw [natsL_len]; omega
      have HS := Lib.hid (feed_step p w3 wr (natsL (ps.take k)) x LA ln lc hA5 hE5 hK5 hz5 (by omega) hl1)
      have HN := Lib.hid (natsL_next hx)
      clear hcs hx hl1 hA5 hE5 hK5 hz5 HF
      go_wp2_with fail
      refine HS.out.mono ?_
      rintro e w6 ⟨A2, n2, c2, rfl, A', c', w7, hr, hf⟩
      have HR := Lib.hid hr
      have HF7 := Lib.hid hf
      clear hr hf hcx
      go_wp2_with (at_builtin; refine wpList_plain rfl fun K hK => ?_; unfold Oper.wp execOp; simp only [resolve, invoke, builtin, Sem.run_bind, Sem.run_pure, Result.andThen_ok, List.map_toArray, List.map_cons, List.map_nil]; rw [show (Builtin.append_ _ _ #[Act.eval _ _, Act.eval _ _]).run _ _ = _ from HR.out]; refine hK _ _ ?_)
      go_roundw
      case rel => exact ⟨k + 1, by go_num, by omega, by rw [HN.out]; exact HF7⟩
      case measure => simp [intOf]; omega
    · have hkn : k = np := by omega
      have HXS : Hid (ps.take k = ps) := Lib.hid (List.take_of_length_le (by rw [← HNP.out]; omega))
      rw [HXS.out, HJ.out] at hA5 hE5
      obtain ⟨y, hy⟩ : ∃ y, feedE .z (natsOf a) = y := ⟨_, rfl⟩
      rw [hy] at hA5 hE5
      have HY := Lib.hid hy
      have HA5 := Lib.hid hA5
      have HE5 := Lib.hid hE5
      have K5 := Lib.hid hK5
      clear hkn hA5 hE5 hK5 hz5 HF HXS hy
      go_wp2_with fail
      refine (lent_Texts PA np pc ps wr (S3.out.of_keep K5.out (fun i hi e => by have := HPA3.out i hi; omega)) (by omega)).mono ?_
      rintro e w6 ⟨g, cg, rfl, hle, hg, b6⟩
      have K6 : Hid (Keep (· = p) w3 w6) := Lib.hid (K5.out.trans (Keep.of_below (fun _ => False) b6) (fun _ _ y => y.elim))
      have HLE := Lib.hid hle
      have HA6 := Lib.hid (HA5.out.below b6)
      have HE6 := Lib.hid (HE5.out.below b6)
      have RB6 := Lib.hid (RB3.out.keep K6.out (by omega) (fun i e R hR => by rw [e]; exact esc_apart RB3.out RA3.out R hR))
      have RC6 := Lib.hid (RC3.out.keep K6.out (by omega) (fun i e R hR => by rw [e]; exact esc_apart RC3.out RA3.out R hR))
      have hs6 := b6.size
      have hs5 := K5.out.size
      have hgp : Hid (p + 3 ≤ g) := Lib.hid (by omega)
      have S6 := Lib.hid (S3.out.of_keep K6.out (fun i hi e => by have := HPA3.out i hi; omega))
      have HF6 := Lib.hid (esc_feed (p + 1) 0 .z (some ⟨g, 0, none⟩) np cg ps w6 RB6.out (by have := hle.src; rwa [List.length_map, ← HNP.out] at this) (fun _ e => by simp [blk] at e; omega) (by omega) (by have := HSUM.out; omega) (by decide))
      rw [feedsE_nats, show ps.flatMap natsOf = natsOf a from HJ.out, HY.out] at HF6
      have HSZ6 : Hid (p + 3 ≤ w6.heap.size) := Lib.hid (by omega)
      clear hle b6 hg HA5 HE5
      go_wp2_with fail
      refine HF6.out.mono ?_
      rintro e w7 ⟨MA, mn, mc, rfl, hmn, hma, hme, hmk⟩
      have HMN := Lib.hid hmn
      have HMA := Lib.hid hma
      have HME := Lib.hid hme
      have K7 := Lib.hid hmk.keep
      have HA7 := Lib.hid (HA6.out.keep hmk.keep (fun i hi e => by omega))
      have HE7 := Lib.hid (HE6.out.keep hmk.keep (by omega) (fun i e R hR => by rw [e]; exact esc_apart HE6.out RB6.out R hR))
      have RC7 := Lib.hid (RC6.out.keep hmk.keep (by omega) (fun i e R hR => by rw [e]; exact esc_apart RC6.out RB6.out R hR))
      have hs7 := hmk.keep.size
      have HSZ7 : Hid (p + 3 ≤ w7.heap.size) := Lib.hid (by have := HSZ6.out; omega)
      clear hmn hma hme hmk HF6 HA6 HE6 RC6 RB6
      go_wp2_with fail
      go_loopw [9, 14] (fun l i wr => ∃ k : Nat, i = .int .i64 k ∧ k ≤ a.size ∧ Hid (FedA (p + 1 + 1) w7.heap.size w7 ((natsOf a).take k) l wr)) (fun _ i _ => a.size - (intOf i).toNat)
      case atStart => exact ⟨0, rfl, by omega, none, 0, 0, rfl, ActsV.nil _ _, RC7.out, Keep.refl _ _, fun _ => rfl⟩
      case round =>
        obtain ⟨k, rfl, hk, HF⟩ := hrel
        obtain ⟨NA, nn, nc, rfl, hA8, hE8, hK8, hz8⟩ := HF.out
        by_cases hlt : k < a.size
        · have hki : ((k : Int) < (a.size : Int)) := by omega
          have hk0 : (0 : Int) ≤ (k : Int) := by omega
          have hex : (a.extract k (k + 1)).size ≤ 1500 := by
            have := natsOf_len (a.extract k (k + 1))
            have h1 := congrArg List.length (natsOf_bit a k hlt)
            rw [List.length_append, this, List.length_take, List.length_take, natsOf_len] at h1
            omega
          have hl1 : ((natsOf a).take k).length + (a.extract k (k + 1)).size ≤ 100000 := by
            rw [List.length_take, natsOf_len]; omega
          have HS := Lib.hid (feed_step (p + 1 + 1) w7 wr ((natsOf a).take k) (a.extract k (k + 1)) NA nn nc hA8 hE8 hK8 hz8 (by have := HSZ7.out; omega) hl1)
          have HN := Lib.hid (natsOf_bit a k hlt)
          clear hex hl1 hA8 hE8 hK8 hz8 HF
          go_wp2_with fail
          refine HS.out.mono ?_
          rintro e w8 ⟨A2, n2, c2, rfl, A', c', w9, hr, hf⟩
          have HR := Lib.hid hr
          have HF9 := Lib.hid hf
          clear hr hf
          go_wp2_with (at_builtin; refine wpList_plain rfl fun K hK => ?_; unfold Oper.wp execOp; simp only [resolve, invoke, builtin, Sem.run_bind, Sem.run_pure, Result.andThen_ok, List.map_toArray, List.map_cons, List.map_nil]; rw [show (Builtin.append_ _ _ #[Act.eval _ _, Act.eval _ _]).run _ _ = _ from HR.out]; refine hK _ _ ?_)
          go_roundw
          case rel => exact ⟨k + 1, by go_num, by omega, by rw [← HN.out]; exact HF9⟩
          case measure => simp [intOf]; omega
        · have hkn : k = a.size := by omega
          rw [List.take_of_length_le (by rw [natsOf_len]; omega), HY.out] at hA8 hE8
          have K8 := Lib.hid hK8
          have HN8 := Lib.hid hA8
          have HZ8 := Lib.hid hE8
          have HA8 := Lib.hid (HA7.out.keep hK8 (fun i hi e => by have := HP3.out; omega))
          have HM8 := Lib.hid (HMA.out.keep hK8 (fun i hi e => by have := HSZ6.out; omega))
          have HE8 := Lib.hid (HE7.out.keep hK8 (by omega) (fun i e R hR => by rw [e]; exact esc_apart HE7.out RC7.out R hR))
          have HY8 := Lib.hid (HME.out.keep hK8 (by omega) (fun i e R hR => by rw [e]; exact esc_apart HME.out RC7.out R hR))
          have H8 : Hid (∀ e ∈ y.2, e.nums.length ≤ 8) := Lib.hid (by
            have := nums8_feeds AlikeE.z [a]
            rw [feedsE_nats, show [a].flatMap natsOf = natsOf a from by simp, HY.out] at this
            exact this)
          have hly : y.2.length ≤ 4500 := by
            have := (len_feedE (natsOf a) .z St.Ok.z).1
            rw [HY.out] at this
            have := HAL.out
            omega
          obtain rfl : ln = mn := by rw [HA8.out.len, HM8.out.len]
          obtain rfl : nn = ln := by rw [HN8.out.len, HM8.out.len]
          have hnn : nn ≤ 4500 := by rw [HM8.out.len]; exact hly
          clear hkn hA8 hE8 hK8 hz8 HF HA7 HMA HE7 HME
          go_wp2_with fail
          refine (esc_same HA8.out HM8.out H8.out (by omega)).mono ?_
          rintro e w9 ⟨rfl, k9, hw9⟩
          have K9 : Hid (Keep (fun _ => False) wr w9) := Lib.hid (by rw [hw9]; exact (Keep.refl _ wr).drewN k9)
          clear hw9
          go_wp2_with fail
          refine (esc_same (HN8.out.keep K9.out (fun _ _ y => y)) (HM8.out.keep K9.out (fun _ _ y => y)) H8.out (by omega)).mono ?_
          rintro e w10 ⟨rfl, k10, hw10⟩
          have K10 : Hid (Keep (fun _ => False) wr w10) := Lib.hid (by rw [hw10]; exact K9.out.drewN k10)
          clear hw10
          have K10' : Hid (Keep (fun i => i = p + 1 ∨ i = p + 1 + 1) w6 w10) := Lib.hid (((K7.out.mono (fun i _ e => .inl e) : Keep (fun i => i = p + 1 ∨ i = p + 1 + 1) _ _).trans (K8.out) (fun _ _ e => .inr e)).trans K10.out (fun _ _ e => e.elim))
          have HLE10 := Lib.hid (HLE.out.keep K10'.out (by have := hgp.out; omega))
          have S10 := Lib.hid (S6.out.of_keep K10'.out (fun i hi e => by have := HPA3.out i hi; omega))
          have HE10 := Lib.hid (HE8.out.keep K10.out (fun y => y) (fun _ x => x.elim))
          have HY10 := Lib.hid (HY8.out.keep K10.out (fun y => y) (fun _ x => x.elim))
          have HZ10 := Lib.hid (HZ8.out.keep K10.out (fun y => y) (fun _ x => x.elim))
          have HB10 : Hid (Below w.heap.size w w10) := Lib.hid (by
            have h0 := HP.out
            have h1 := HB3.out.trans (K6.out.below HB3.out.size (fun i hi e => by omega))
            exact h1.trans (K10'.out.below h1.size (fun i hi e => by omega)))
          clear HE8 HY8 HZ8 HA8 HN8 HM8 HLE S6 K8 K9 K10 K10' K7 K6 H8
          go_wp2_with fail
          refine (stays_Texts g cg PA np pc ps w10 HLE10.out S10.out (by omega)).mono ?_
          rintro e w11 ⟨rfl, k11, hw11⟩
          have K11 : Hid (Keep (fun _ => False) w10 w11) := Lib.hid (by rw [hw11]; exact (Keep.refl _ w10).drewN k11)
          clear hw11
          go_wp2_with fail
          refine (esc_ground p 0 _ w11 (HE10.out.keep K11.out (fun y => y) (fun _ x => x.elim))).mono ?_
          rintro e w12 ⟨rfl, hw12⟩
          subst hw12
          go_wp2_with fail
          refine (esc_ground (p + 1 + 1) 0 _ w12 (HZ10.out.keep K11.out (fun y => y) (fun _ x => x.elim))).mono ?_
          rintro e w13 ⟨rfl, hw13⟩
          subst hw13
          go_wp2_with fail
          refine (esc_kept p 0 _ w13 (HE10.out.keep K11.out (fun y => y) (fun _ x => x.elim))).mono ?_
          rintro e w14 ⟨rfl, k14, hw14⟩
          have K14 : Hid (Keep (fun _ => False) w10 w14) := Lib.hid (by rw [hw14]; exact K11.out.drewN k14)
          clear hw14
          go_wp2_with fail
          refine (esc_kept (p + 1) 0 _ w14 (HY10.out.keep K14.out (fun y => y) (fun _ x => x.elim))).mono ?_
          rintro e w15 ⟨rfl, k15, hw15⟩
          have K15 : Hid (Keep (fun _ => False) w10 w15) := Lib.hid (by rw [hw15]; exact K14.out.drewN k15)
          clear hw15
          go_wp2_with fail
          go_ret
          exact ⟨rfl, HB10.out.trans (K15.out.below HB10.out.size (fun _ _ e => e.elim))⟩

end Go.Proofs.Ythphnjilbpidgaa
