/- Law UtfReads: the walk. Own work. -/
import Derived.Test.YtoihadjboeeglaaUtfReadsAt
import Derived.Test.YtoihadjboeeglaaCuts
import Derived.Deep.RegionLaw
import Derived.Deep.CutRange
namespace Go.Proofs.Ytoihadjboeeglaa
set_option linter.unusedVariables false
set_option linter.unusedSimpArgs false
open Go.RowKit

set_option maxRecDepth 100000 in
set_option maxHeartbeats 1600000 in
theorem utfReads_early (a : ByteArray) (A : Option Addr) (n cap : Nat) (fl : Int) (w : World) (h : (a.size : Int) > 1500 ∨ (¬ (a.size : Int) > 1500 ∧ (n : Int) > 40)) :
    Calls Try.prog 3 #[.string a, .slice A n cap, .int .i64 fl] w fun e w' => e = .returned (.bool true) ∧ Below w.heap.size w w' := by
  rcases h with h | ⟨h, h2⟩
  all_goals
    go_enter Try.func3, Try.ntmps3
    go_wp2_with fail
    refine (alive_any _).mono ?_
    rintro e w1 ⟨rfl, hb⟩
    have HB := Lib.hid hb
    clear hb
    go_wp2_with fail
    go_ret
    exact ⟨rfl, HB.out⟩

theorem bads_alike {s : St} {B : List Nat} (h : AlikeU s B) : badsU s = if B = [] then [] else [65533] := by
  have := h.half
  unfold badsU
  by_cases h0 : B = []
  · rw [if_pos h0, if_pos (by rw [this, h0]; rfl)]
  · rw [if_neg h0, if_neg (by rw [this]; exact fun e => h0 (List.eq_nil_of_length_eq_zero e))]

set_option maxRecDepth 100000 in
set_option maxHeartbeats 6400000 in
theorem walk_UtfReads (a : ByteArray) (wa : a.size ≤ maxLen) (A : Option Addr) (n cap : Nat) (xs : List Int) (fl : Int) (wfl : (Lit.int .i64 fl).wf = true) (w : World) (h : Ints w A n xs) :
    Calls Try.prog 3 #[.string a, .slice A n cap, .int .i64 fl] w fun e w' => e = .returned (.bool true) ∧ Below w.heap.size w w' := by
  by_cases hs : (a.size : Int) > 1500
  · exact utfReads_early a A n cap fl w (.inl hs)
  by_cases hn : (n : Int) > 40
  · exact utfReads_early a A n cap fl w (.inr ⟨hs, hn⟩)
  have H := Lib.hid h
  clear h wa wfl
  go_enter Try.func3, Try.ntmps3
  go_wp2_with fail
  refine (alive_any _).mono ?_
  rintro e w1 ⟨rfl, hb⟩
  have HB1 := Lib.hid hb
  clear hb
  go_upto_region 5 with fail
  obtain ⟨w2, hw2⟩ : ∃ w2, w2 = ((w1.alloc (.cells #[.int .i32 0, .int .i64 0, .int .i64 0, .int .u8 0, .int .u8 0] 28)).alloc (.cells #[.slice none 0 0] 32)).alloc (.cells #[.slice none 0 0, .slice none 0 0, .slice none 0 0, .slice none 0 0, .slice none 0 0, .slice none 0 0, .slice none 0 0, .slice none 0 0, .slice none 0 0, .slice none 0 0, .slice none 0 0, .slice none 0 0, .slice none 0 0, .slice none 0 0, .slice none 0 0, .slice none 0 0] 43) := ⟨_, rfl⟩
  obtain ⟨p, hp⟩ : ∃ p, p = w1.heap.size := ⟨_, rfl⟩
  have hsz1 := HB1.out.size
  have HB2 : Hid (Below w.heap.size w w2) := Lib.hid (by rw [hw2]; exact ((HB1.out.alloc HB1.out.size _).alloc (by simp; omega) _).alloc (by simp; omega) _)
  have RA2 : Hid (RdU w2 p 0 .z) := Lib.hid (by rw [hw2, hp]; exact ((RdU.made w1 _).alloc _).alloc _)
  have RF2 : Hid (RfU w2 (p + 1) [] none 0) := Lib.hid (by
    have := (RfU.made (w1.alloc (.cells #[.int .i32 0, .int .i64 0, .int .i64 0, .int .u8 0, .int .u8 0] 28)) 32).alloc (.cells #[.slice none 0 0, .slice none 0 0, .slice none 0 0, .slice none 0 0, .slice none 0 0, .slice none 0 0, .slice none 0 0, .slice none 0 0, .slice none 0 0, .slice none 0 0, .slice none 0 0, .slice none 0 0, .slice none 0 0, .slice none 0 0, .slice none 0 0, .slice none 0 0] 43)
    rw [hw2, hp]; simpa using this)
  have BK2 : Hid (Rn.Book w2 (p + 2) (fun i => i = p + 2) 0) := Lib.hid (by
    rw [hw2, hp]
    exact Rn.Book.made _ _ (by simp) _ rfl)
  have hwp : w.heap.size ≤ p := by omega
  have hz2' : w2.heap.size = p + 3 := by rw [hw2, hp]; simp
  have HZ2 := Lib.hid hz2'
  have HP := Lib.hid hwp
  have hp1 : w1.heap.size + 1 = p + 1 := by omega
  have hp2 : w1.heap.size + 2 = p + 2 := by omega
  try rw [← hw2]
  try rw [hp2]
  try rw [hp1]
  try rw [show p + 1 + 1 = p + 2 from rfl]
  try rw [← hp]
  clear hw2 hp hwp hz2' hp1 hp2 hsz1
  go_wp2_with fail
  refine (cuts_any a A n cap xs w2 ((src_ints H.out).far (⟨HB2.out.os, HB2.out.tape, HB2.out.output, HB2.out.size, fun i hi hn => HB2.out.block i (by omega)⟩ : Keep (fun i => w.heap.size ≤ i) w w2) (fun h0 i hi x => by have := (src_ints H.out).lt h0 hi; omega)) H.out.2.2.1 (by omega) (by omega)).mono ?_
  rintro e w3 ⟨v, ps, rfl, o3, hj, hpn, b3⟩
  obtain ⟨PA, pc, rfl, -⟩ := own_form o3
  obtain ⟨np, hnp⟩ : ∃ np, np = ps.length := ⟨_, rfl⟩
  have HNP := Lib.hid hnp
  rw [← hnp] at o3 hpn ⊢
  have HSUM : Hid (sum ps ≤ 1500) := Lib.hid (by
    have e1 := congrArg List.length hj
    rw [joinL_len, ← Lib.size_eq] at e1
    omega)
  have hPA : ∀ i, blk PA = some i → p + 3 ≤ i ∧ i < w3.heap.size := fun i hi => by
    have := o3.lt i (by rw [ownBlock_slice]; exact hi)
    have := HZ2.out
    omega
  have R3 : Hid (ReadsAt w p (p + 1) (p + 2) PA np ps .z [] none 0 (fun i => i = p + 2) 0 w3) := Lib.hid {
    rd := RA2.out.below b3, rf := RF2.out.below b3, bk := BK2.out.keep (S := fun _ => False) (Keep.of_below _ b3) (fun _ _ x => x), pr := (Buf.of_own o3).src, pq := by omega
    a1 := fun i hi => by simp [blk] at hi
    o1 := fun i hi => ⟨by omega, by omega, fun e => by have := (hPA i e).1; omega, by have := HP.out; omega⟩
    p1 := ⟨fun e => by have := (hPA p e).1; omega, fun e => by have := (hPA (p + 1) e).1; omega⟩
    pl := fun i hi => (hPA i hi).2, lp := ⟨HP.out, by have := HP.out; omega⟩
    be := HB2.out.trans (b3.mono HB2.out.size) }
  have hnp2 : (np : Int) ≤ 41 := by omega
  clear o3 hj hpn b3 hnp hPA H RA2 RF2 BK2
  obtain ⟨q, hq⟩ : ∃ q, p + 1 = q := ⟨_, rfl⟩
  obtain ⟨bq, hbq⟩ : ∃ bq, p + 2 = bq := ⟨_, rfl⟩
  rw [hq, hbq] at R3
  try rw [hq]
  try rw [hbq]
  clear hq hbq
  go_wp2_with fail
  go_loopw [11] (fun i wr => ∃ k : Nat, i = .int .i64 k ∧ k ≤ np ∧ Hid (∃ s B A c own nn, ReadsAt w p q bq PA np ps s B A c own nn wr ∧ AlikeU s B ∧ nn ≤ 2 * k)) (fun i _ => np - (intOf i).toNat)
  case atStart => exact ⟨0, rfl, by omega, Lib.hid ⟨.z, [], none, 0, _, 0, R3.out, rfl, by omega⟩⟩
  case round =>
    obtain ⟨k, rfl, hk, HI⟩ := hrel
    obtain ⟨s, B, A, c, own, nn, hR, hal, hnn⟩ := HI.out
    by_cases hlt : k < np
    · obtain ⟨x, hx⟩ : ∃ x, ps[k]? = some x := ⟨ps[k]'(by rw [← HNP.out]; exact hlt), List.getElem?_eq_getElem _⟩
      obtain ⟨b, off, rfl, hbl, hcs⟩ := hR.pr.2 (by omega)
      have hcx : wr.cell? ⟨b, off + k, none⟩ = some (.string x) := hcs k _ (by rw [List.getElem?_map, hx]; rfl)
      have hki : ((k : Int) < (np : Int)) := by omega
      have hk0 : (0 : Int) ≤ (k : Int) := by omega
      have hxs : x.size ≤ 1500 := by have := sum_mem (List.mem_of_getElem? hx); have := HSUM.out; omega
      have hlenx : (natsOf x).length = x.size := by rw [Lib.size_eq]; simp [natsOf]
      obtain ⟨y, hy⟩ : ∃ y, feedU s (natsOf x) = y := ⟨_, rfl⟩
      obtain ⟨z, hz⟩ : ∃ z, feedB B (natsOf x) = z := ⟨_, rfl⟩
      have hal2 := feed_alike hal (natsOf x)
      have hok := hR.rd.ok
      have hl1 := feedU_len hok (natsOf x)
      have hl2 := s.some_le
      rw [hy, hz] at hal2
      rw [hy] at hl1
      obtain ⟨m, hm⟩ : ∃ m, y.2.length = m := ⟨_, rfl⟩
      obtain ⟨hh, hhh⟩ : ∃ hh, y.1.half = hh := ⟨_, rfl⟩
      have HM : Hid (y.2.length = m ∧ z.2 = y.2 ∧ m ≤ 1501) := Lib.hid ⟨hm, hal2.2.symm, by omega⟩
      have HHH : Hid (y.1.half = hh ∧ z.1.length = hh) := Lib.hid ⟨hhh, by rw [← hal2.1.half]; exact hhh⟩
      have HAL := Lib.hid hal2.1
      have HF := Lib.hid (hy ▸ utf_feed_one p 0 s wr.heap.size x 1 (wr.alloc (.cells #[.string x] 9)) (hR.rd.alloc _) (by simp [go_sem, Array.size_push]) (by have := hR.rd.lt; omega) (by omega))
      have HB0 := Lib.hid (fun (W : World) (c' : Nat) (A' : Option Addr) (r : RfU W q B A' c') => hz ▸ ref_all q B A' c' s x W r hal hok (by omega))
      have HR := Lib.hid hR
      have hnn2 : nn ≤ 82 := by omega
      have HNN := Lib.hid hnn
      clear hcs hx hR hal hnn hlenx hy hz hal2 hok hl1 hl2 hm hhh HI
      go_wp2_with fail
      refine HF.out.mono ?_
      rintro e w5 ⟨v5, rfl, o5, r5, k5⟩
      obtain ⟨LA, lc, rfl, -⟩ := own_form o5
      rw [HM.out.1] at o5 ⊢
      have K5 : Hid (Keep (fun k => k = p) wr w5) := Lib.hid (((Keep.refl (fun k => k = p) wr).alloc _).trans k5 (fun _ _ x => x))
      have HR5 := Lib.hid (HR.out.fed K5.out r5)
      have O5 := Lib.hid (Buf.of_own o5)
      have HLA : Hid (∀ i, blk LA = some i → wr.heap.size ≤ i ∧ i < w5.heap.size) := Lib.hid (fun i hi => by have := o5.lt i (by rw [ownBlock_slice]; exact hi); simp at this; omega)
      clear o5 r5 k5
      go_wp2_with fail
      refine (book_put w5 bq own nn HR5.out.bk LA m lc (rs y.2) O5.out (by have := HM.out.2.2; omega) (fun i hi e => by have := (HLA.out i hi).1; have := HR.out.bk.lt i e; omega) (by omega)).mono ?_
      rintro e w6 ⟨rfl, own6, b6, k6, s6⟩
      have HR6 := Lib.hid (HR5.out.kept (LA := LA) (fun i hi => ⟨(HLA.out i hi).2, fun e => by have := (HLA.out i hi).1; have := HR.out.bk.lt i e; omega, by have := (HLA.out i hi).1; have := HR.out.rd.lt; omega, fun e => by have := (HLA.out i hi).1; have := HR.out.rf.lto e; omega, fun e => by have := (HLA.out i hi).1; have := HR.out.pl i e; omega, by have := (HLA.out i hi).1; have := HR.out.be.size; omega⟩) b6 k6 s6)
      have O6 : Hid (Src w6 LA m ((rs y.2).map (Value.int .i32))) := Lib.hid (O5.out.src.of_keep k6 (fun i hi e => by have := (HLA.out i hi).1; have := HR.out.bk.lt i e; omega))
      have hcx6 : w6.cell? ⟨b, off + k, none⟩ = some (.string x) := by
        have h1 := (K5.out.cell (p := ⟨b, off + k, none⟩) hbl (fun e => HR.out.p1.1 (by rw [← show b = p from e]; rfl))).trans hcx
        exact (k6.cell (p := ⟨b, off + k, none⟩) (Nat.lt_of_lt_of_le hbl K5.out.size) (fun e => (HR.out.o1 b e).2.2.1 rfl)).trans h1
      have HLQ : Hid (∀ i, blk LA = some i → ¬ rfuOwn q A i) := Lib.hid (fun i hi e => by have := (HLA.out i hi).1; have := HR.out.rf.lto e; omega)
      clear b6 k6 s6 hcx hbl
      go_upto_region 11 with fail
      go_cut [71] from 37 to 95 (fun v wx => v = .bool false ∧ Hid (∃ A8 c8, ReadsAt w p q bq (some ⟨b, off, none⟩) np ps y.1 z.1 A8 c8 own6 (nn + 1) wx))
      case first =>
        have HALL : Hid (∀ W, Keep (fun _ => False) w6 W → Calls Try.prog 14 #[.pointer (some ⟨q, 0, none⟩), .string x] W (FRefU q A W z)) := Lib.hid (fun W hW => HB0.out W c A ((HR6.out.quiet hW).rf))
        have HZ2 : Hid (z.2.length = m ∧ z.2 = y.2) := Lib.hid ⟨by rw [HM.out.2.1]; exact HM.out.1, HM.out.2.1⟩
        go_region_law (first
          | (go_simp; go_at_call 14; refine (HALL.out _ (by first | exact Keep.refl _ _ | exact (Keep.refl _ _).drew)).mono ?_; rintro r w8 ⟨v8, rfl, o8, A8, c8, r8, s8⟩; obtain ⟨B8, cb8, rfl, -⟩ := own_form o8; rw [HZ2.out.1] at o8 ⊢; rw [HZ2.out.2] at o8; have O8 := Lib.hid (Buf.of_own o8).src; have R8 := Lib.hid (ReadsAt.told (HR6.out.quiet (by first | exact Keep.refl _ _ | exact (Keep.refl _ _).drew)) r8 s8); have O68 := Lib.hid ((Src.keep O6.out (by first | exact Keep.refl _ _ | exact (Keep.refl _ _).drew)).of_keep s8.1 (fun i hi e => HLQ.out i hi e)); clear o8 r8 s8)
          | (go_simp; go_at_call 13; refine (same_Runes LA B8 m lc cb8 (rs y.2) _ (by first | exact O68.out | exact O68.out.keep ((Keep.refl _ _).drew)) (by first | exact O8.out | exact O8.out.keep ((Keep.refl _ _).drew)) (by have := HM.out.2.2; omega)).mono ?_; rintro r w9 ⟨rfl, k9, hw9⟩; have R9 : Hid (ReadsAt w p q bq (some ⟨b, off, none⟩) np ps y.1 z.1 A8 c8 own6 (nn + 1) w9) := Lib.hid (by rw [hw9]; first | exact R8.out.quiet ((Keep.refl _ _).drewN _) | exact R8.out.quiet (((Keep.refl _ _).drew).drewN _)); have d15 := R9.out.rf.cell.1; rw [HHH.out.2] at d15; clear hw9)
          | (go_simp; go_at_call 15; refine (utf_half p 0 y.1 _ (by first | exact R9.out.rd | exact (R9.out.quiet ((Keep.refl _ _).drew)).rd)).mono ?_; rintro r w10 ⟨rfl, rfl⟩; rw [HHH.out.1])
          | fail)
        all_goals
          go_wp2_with fail
          go_meet
          exact ⟨rfl, Lib.hid ⟨A8, c8, by first | exact R9.out | exact R9.out.quiet ((Keep.refl _ _).drew)⟩⟩
      case rest =>
        obtain ⟨rfl, HX⟩ := hcut
        obtain ⟨A8, c8, hR10⟩ := HX.out
        have HR10 := Lib.hid hR10
        clear hR10 HX hcx6 HB0 HLQ O6 HR6 HR5 O5 K5 HF
        by_cases hfl : (k : Int) = fl
        · have hd : ((k : Int) == fl) = true := by simp; exact hfl
          obtain ⟨mb, hmb⟩ : ∃ mb, (badsU y.1).length = mb := ⟨_, rfl⟩
          have hmb1 : mb ≤ 1 := by rw [← hmb]; unfold badsU; split <;> simp
          have HMB := Lib.hid hmb
          have HBA : Hid ((if z.1 = [] then [] else [65533]) = badsU y.1) := Lib.hid (bads_alike HAL.out).symm
          clear hfl hmb
          go_wp2_with fail
          refine (utf_flush p 0 y.1 wc HR10.out.rd).mono ?_
          rintro e w11 ⟨v11, rfl, o11, r11, k11⟩
          obtain ⟨FA, fc, rfl, -⟩ := own_form o11
          rw [HMB.out] at o11 ⊢
          have HR11 := Lib.hid (HR10.out.fed k11 r11)
          have O11 := Lib.hid (Buf.of_own o11)
          have HFA : Hid (∀ i, blk FA = some i → wc.heap.size ≤ i ∧ i < w11.heap.size) := Lib.hid (fun i hi => o11.lt i (by rw [ownBlock_slice]; exact hi))
          clear o11 r11 k11
          go_wp2_with fail
          refine (book_put w11 bq own6 (nn + 1) HR11.out.bk FA mb fc (rs (badsU y.1)) O11.out (by omega) (fun i hi e => by have := (HFA.out i hi).1; have := HR10.out.bk.lt i e; omega) (by omega)).mono ?_
          rintro e w12 ⟨rfl, own12, b12, k12, s12⟩
          have HR12 := Lib.hid (HR11.out.kept (LA := FA) (fun i hi => ⟨(HFA.out i hi).2, fun e => by have := (HFA.out i hi).1; have := HR10.out.bk.lt i e; omega, by have := (HFA.out i hi).1; have := HR10.out.rd.lt; omega, fun e => by have := (HFA.out i hi).1; have := HR10.out.rf.lto e; omega, fun e => by have := (HFA.out i hi).1; have := HR10.out.pl i e; omega, by have := (HFA.out i hi).1; have := HR10.out.be.size; omega⟩) b12 k12 s12)
          have O12 : Hid (Src w12 FA mb ((rs (badsU y.1)).map (Value.int .i32))) := Lib.hid (O11.out.src.of_keep k12 (fun i hi e => by have := (HFA.out i hi).1; have := HR10.out.bk.lt i e; omega))
          clear b12 k12 s12
          go_wp2_with fail
          refine (ref_flush q z.1 A8 c8 w12 HR12.out.rf).mono ?_
          rintro e w13 ⟨v13, rfl, o13, A13, c13, r13, s13⟩
          simp only [HBA.out] at o13
          obtain ⟨GA, gc, rfl, -⟩ := own_form o13
          simp only [HBA.out]
          rw [HMB.out] at o13 ⊢
          have O13 := Lib.hid (Buf.of_own o13).src
          have HR13 := Lib.hid (HR12.out.told r13 s13)
          have O123 := Lib.hid (O12.out.of_keep s13.1 (fun i hi e => by have := (HFA.out i hi).1; have := HR10.out.rf.lto e; omega))
          clear o13 r13 s13
          go_wp2_with fail
          refine (same_Runes FA GA mb fc gc (rs (badsU y.1)) w13 O123.out O13.out (by omega)).mono ?_
          rintro e w14 ⟨rfl, k14, hw14⟩
          have HR14 := Lib.hid (HR13.out.quiet (show Keep (fun _ => False) w13 w14 by rw [hw14]; exact (Keep.refl _ w13).drewN k14))
          clear hw14
          go_wp2_with fail
          refine (utf_half p 0 _ _ HR14.out.rd).mono ?_
          rintro e w15 ⟨rfl, rfl⟩
          go_wp2_with fail
          refine (utf_flush p 0 _ _ HR14.out.rd).mono ?_
          rintro e w16 ⟨v16, rfl, o16, r16, k16⟩
          obtain ⟨QA, qc, rfl, -⟩ := own_form o16
          have hl0 : (badsU St.z).length = 0 := rfl
          simp only [hl0]
          have HR16 := Lib.hid (HR14.out.fed k16 r16)
          clear o16 r16 k16
          go_wp2_with fail
          go_roundw
          case rel => exact ⟨k + 1, by go_num, by omega, Lib.hid ⟨.z, [], A13, c13, own12, nn + 1 + 1, HR16.out, rfl, by have := HNN.out; omega⟩⟩
          case measure => simp [intOf]; omega
        · have hd : ((k : Int) == fl) = false := by simp; exact hfl
          clear hfl
          go_wp2_with fail
          go_roundw
          case rel => exact ⟨k + 1, by go_num, by omega, Lib.hid ⟨y.1, z.1, A8, c8, own6, nn + 1, HR10.out, HAL.out, by have := HNN.out; omega⟩⟩
          case measure => simp [intOf]; omega
    · have HR := Lib.hid hR
      have HNN : Hid (nn ≤ 82) := Lib.hid (by omega)
      clear hR hal hnn HI
      go_wp2_with fail
      refine (utf_feed_nil _ _).mono ?_
      rintro e w5 ⟨rfl, rfl⟩
      go_wp2_with fail
      refine (utf_flush_nil _).mono ?_
      rintro e w6 ⟨rfl, rfl⟩
      go_wp2_with fail
      refine (utf_half_nil _).mono ?_
      rintro e w7 ⟨rfl, rfl⟩
      have HR7 := Lib.hid (HR.out.quiet ((Keep.refl (fun _ => False) wr).alloc (.cells #[.string a] 9)))
      go_wp2_with fail
      refine (Rn.book_apart _ bq own nn HR7.out.bk (by have := HNN.out; omega)).mono ?_
      rintro e w8 ⟨rfl, k8⟩
      have HB8 := Lib.hid (HR7.out.be.trans (k8.below HR7.out.be.size (fun i hi e => by have := (HR7.out.o1 i e).2.2.2; omega)))
      clear k8
      go_wp2_with fail
      go_ret
      exact ⟨rfl, HB8.out⟩

end Go.Proofs.Ytoihadjboeeglaa
