/- Law UtfHalf: the walk. By program (rgn/XUtfHalfWalk.py). Own work. -/
import Derived.Test.YtoihadjboeeglaaUtfA
import Derived.Test.YtoihadjboeeglaaUtfHalfM
namespace Go.Proofs.Ytoihadjboeeglaa
set_option linter.unusedVariables false
set_option linter.unusedSimpArgs false
open Go.RowKit

/-- A text that is cut at q. -/
theorem natsOf_cut (S : ByteArray) (q : Nat) (h : q ≤ S.size) : natsOf (S.extract 0 q) = (natsOf S).take q ∧ natsOf (S.extract q S.size) = (natsOf S).drop q := by
  have hl : S.data.toList.length = S.size := (Lib.size_eq S).symm
  have e := extract_mk S.data.toList
  rw [mk_data] at e
  refine ⟨?_, ?_⟩
  · rw [e]; simp [natsOf, List.map_take]
  · rw [e, List.take_of_length_le (by omega)]; simp [natsOf, List.map_drop]

theorem runeN_nat (c : Nat) (h1 : c ≤ 1114111) (h2 : ¬ (55296 ≤ c ∧ c ≤ 57343)) : runeN (c : Int) = c := by
  unfold runeN
  rw [if_neg (by omega)]
  exact Int.toNat_natCast c

theorem natsOf_rune (x : Int) : natsOf (runesBytes [x]) = encN (runeN x) := by
  rw [← natsOf_encode x]
  have h : runesBytes [x] = ByteArray.empty ++ Utf8.encode x := rfl
  rw [h, ByteArray.empty_append]

theorem natsOf_len (S : ByteArray) : (natsOf S).length = S.size := by
  rw [Lib.size_eq]
  simp [natsOf]

theorem rune_text (c : Nat) (h1 : c ≤ 1114111) (h2 : ¬ (55296 ≤ c ∧ c ≤ 57343)) : natsOf (runesBytes [(c : Int)]) = encN c ∧ (runesBytes [(c : Int)]).size = (encN c).length := by
  have e : natsOf (runesBytes [(c : Int)]) = encN c := by rw [natsOf_rune, runeN_nat c h1 h2]
  exact ⟨e, by rw [← e, natsOf_len]⟩

set_option maxRecDepth 100000 in
set_option maxHeartbeats 1600000 in
theorem utfHalf_low (r k : Int) (w : World) (h1 : r < 128) :
    Calls Try.prog 7 #[.int .i32 r, .int .i64 k] w fun e w' => e = .returned (.bool true) ∧ Below w.heap.size w w' := by
  go_enter Try.func7, Try.ntmps7
  go_wp2_with fail
  refine (alive_any _).mono ?_
  rintro e w1 ⟨rfl, hb⟩
  have HB := Lib.hid hb
  clear hb
  go_wp2_with fail
  go_ret
  exact ⟨rfl, HB.out⟩

set_option maxRecDepth 100000 in
set_option maxHeartbeats 1600000 in
theorem utfHalf_high (r k : Int) (w : World) (h1 : ¬ r < 128) (h2 : r > 1114111) :
    Calls Try.prog 7 #[.int .i32 r, .int .i64 k] w fun e w' => e = .returned (.bool true) ∧ Below w.heap.size w w' := by
  go_enter Try.func7, Try.ntmps7
  go_wp2_with fail
  refine (alive_any _).mono ?_
  rintro e w1 ⟨rfl, hb⟩
  have HB := Lib.hid hb
  clear hb
  go_wp2_with fail
  go_ret
  exact ⟨rfl, HB.out⟩

set_option maxRecDepth 100000 in
set_option maxHeartbeats 1600000 in
theorem utfHalf_pair (r k : Int) (w : World) (h1 : ¬ r < 128) (h2 : ¬ r > 1114111) (h3 : r ≥ 55296) (h4 : r ≤ 57343) :
    Calls Try.prog 7 #[.int .i32 r, .int .i64 k] w fun e w' => e = .returned (.bool true) ∧ Below w.heap.size w w' := by
  go_enter Try.func7, Try.ntmps7
  go_wp2_with fail
  refine (alive_any _).mono ?_
  rintro e w1 ⟨rfl, hb⟩
  have HB := Lib.hid hb
  clear hb
  go_wp2_with fail
  go_ret
  exact ⟨rfl, HB.out⟩

set_option maxRecDepth 100000 in
set_option maxHeartbeats 1600000 in
theorem utfHalf_k1 (r k : Int) (w : World) (h1 : ¬ r < 128) (h2 : ¬ r > 1114111) (h3 : ¬ r ≥ 55296) (h5 : k < 1) :
    Calls Try.prog 7 #[.int .i32 r, .int .i64 k] w fun e w' => e = .returned (.bool true) ∧ Below w.heap.size w w' := by
  go_enter Try.func7, Try.ntmps7
  go_wp2_with fail
  refine (alive_any _).mono ?_
  rintro e w1 ⟨rfl, hb⟩
  have HB := Lib.hid hb
  clear hb
  go_wp2_with fail
  go_ret
  exact ⟨rfl, HB.out⟩

set_option maxRecDepth 100000 in
set_option maxHeartbeats 1600000 in
theorem utfHalf_k2 (r k : Int) (w : World) (h1 : ¬ r < 128) (h2 : ¬ r > 1114111) (h3 : r ≥ 55296) (h4 : ¬ r ≤ 57343) (h5 : k < 1) :
    Calls Try.prog 7 #[.int .i32 r, .int .i64 k] w fun e w' => e = .returned (.bool true) ∧ Below w.heap.size w w' := by
  go_enter Try.func7, Try.ntmps7
  go_wp2_with fail
  refine (alive_any _).mono ?_
  rintro e w1 ⟨rfl, hb⟩
  have HB := Lib.hid hb
  clear hb
  go_wp2_with fail
  go_ret
  exact ⟨rfl, HB.out⟩

set_option maxRecDepth 100000 in
set_option maxHeartbeats 3200000 in
theorem utfHalf_two (c : Nat) (r k : Int) (w : World) (hrc : (c : Int) = r) (h1 : ¬ r < 128) (h2 : ¬ r > 1114111) (h3 : ¬ r ≥ 55296) (h6 : ¬ r ≥ 2048) (h7 : ¬ r ≥ 65536) (h5 : ¬ k < 1) (hk : k ≤ 9223372036854775807) :
    Calls Try.prog 7 #[.int .i32 r, .int .i64 k] w fun e w' => e = .returned (.bool true) ∧ Below w.heap.size w w' := by
  have htm : k.tmod 1 = 0 := Int.tmod_one k
  obtain ⟨q, hq⟩ : ∃ q : Nat, q = 1 := ⟨_, rfl⟩
  have hq0 : 0 < q := by omega
  have hqn : q < 2 := by omega
  have hlen : (encN c).length = 2 := by
    rw [encN_len]
    repeat (first | rw [if_pos (by omega)] | rw [if_neg (by omega)])
  obtain ⟨t1, t2⟩ := rune_text c (by omega) (by omega)
  obtain ⟨-, f2⟩ := encN_feed c (by omega) (by omega)
  obtain ⟨g1, g2, g3⟩ := f2 q hq0 (by omega)
  rw [hrc] at t1 t2
  obtain ⟨S, hS⟩ : ∃ S, runesBytes [r] = S := ⟨_, rfl⟩
  have HRC := Lib.hid hrc
  have HT := Lib.hid (fun (A : Option Addr) (n c' : Nat) (W : World) h => hS ▸ utf_text A n c' [r] W h)
  rw [hS] at t1 t2
  rw [hlen] at t2
  obtain ⟨u1, u2⟩ := natsOf_cut S q (by omega)
  rw [t1] at u1 u2
  rw [t2] at u2
  rw [← u1] at g1 g2 g3
  rw [← u2] at g3
  obtain ⟨x, hx⟩ : ∃ x, feedU .z (natsOf (S.extract 0 q)) = x := ⟨_, rfl⟩
  rw [hx] at g1 g2 g3
  have hxs : (S.extract 0 q).size ≤ 100000000000 := by rw [ByteArray.size_extract]; omega
  have hys : (S.extract q 2).size ≤ 100000000000 := by rw [ByteArray.size_extract]; omega
  subst hq
  have HX1 := Lib.hid (fun (p b : Nat) (W : World) h hs hb => hx ▸ utf_feed_one p 0 .z b (S.extract 0 1) 1 W h hs hb hxs)
  have HX2 := Lib.hid (fun (p b : Nat) (W : World) h hs hb => g3 ▸ utf_feed_one p 0 x.1 b (S.extract 1 2) 1 W h hs hb hys)
  have G1 := Lib.hid g1
  have G2 := Lib.hid g2
  have hq3 : (1 : Int) ≤ (S.size : Int) := by omega
  have hq4 : (0 : Int) ≤ (1 : Int) := by omega
  clear hrc g1 g2 g3 hx u1 u2 t1 hS hlen hxs hys
  go_enter Try.func7, Try.ntmps7
  go_wp2_with fail
  refine (alive_any _).mono ?_
  rintro e w1 ⟨rfl, hb⟩
  have HB := Lib.hid hb
  clear hb
  go_wp2_with fail
  refine (HT.out _ 1 1 _ (src_new w1 [.int .i32 r] 21 w1.heap.size rfl 1 rfl)).mono ?_
  rintro e w2 ⟨rfl, rfl⟩
  go_upto_region 13 with fail
  obtain ⟨w2, hw2⟩ : ∃ w2, w2 = ((w1.alloc (.cells #[.int .i32 r] 21)).alloc (.cells #[.int .i32 0, .int .i64 0, .int .i64 0, .int .u8 0, .int .u8 0] 28)).alloc (.cells #[.int .i32 0, .int .i64 0, .int .i64 0, .int .u8 0, .int .u8 0] 28) := ⟨_, rfl⟩
  obtain ⟨qa, hqa⟩ : ∃ qa, qa = w1.heap.size + 1 := ⟨_, rfl⟩
  have HB2 : Hid (Below w.heap.size w w2) := by
    show Below _ _ _
    have hs := HB.out.size
    rw [hw2]; exact ((HB.out.alloc hs _).alloc (by simp; omega) _).alloc (by simp; omega) _
  have HRa : Hid (RdU w2 qa 0 .z) := by
    show RdU _ _ _ _
    rw [hw2, hqa]
    have := (RdU.made (w1.alloc (.cells #[.int .i32 r] 21)) 28).alloc (.cells #[.int .i32 0, .int .i64 0, .int .i64 0, .int .u8 0, .int .u8 0] 28)
    simpa using this
  have HRb : Hid (RdU w2 (qa + 1) 0 .z) := by
    show RdU _ _ _ _
    rw [hw2, hqa]
    have := RdU.made ((w1.alloc (.cells #[.int .i32 r] 21)).alloc (.cells #[.int .i32 0, .int .i64 0, .int .i64 0, .int .u8 0, .int .u8 0] 28)) 28
    simpa using this
  have hqz : w2.heap.size = qa + 2 := by rw [hw2, hqa]; simp
  have hqw : w.heap.size ≤ qa := by have := HB.out.size; omega
  rw [← hw2]
  have hqb : w1.heap.size + 1 + 1 = qa + 1 := by omega
  try rw [hqb]
  try rw [← hqa]
  clear hw2 hqa hqb
  have HZ := Lib.hid hqz
  have HW := Lib.hid hqw
  clear hqz hqw
  go_wp2_with fail
  refine (HX1.out qa w2.heap.size _ (HRa.out.alloc (.cells #[.string (S.extract 0 1)] 9)) (by simp [go_sem, Array.size_push]) (by have := HZ.out; omega)).mono ?_
  rintro e w3 ⟨v3, rfl, o3, r3, k3⟩
  obtain ⟨A3, c3, rfl, -⟩ := own_form o3
  have hl3 : x.2.length = 0 := by rw [G1.out]; rfl
  rw [hl3]
  have HR3 := Lib.hid r3
  have K3 := Lib.hid (((Keep.refl (fun k => k = qa) w2).alloc (.cells #[.string (S.extract 0 1)] 9)).trans k3 (fun _ _ x => x))
  clear o3 r3 k3 hl3
  go_wp2_with fail
  refine (utf_flush qa 0 _ _ HR3.out).mono ?_
  rintro e w4 ⟨v4, rfl, o4, r4, k4⟩
  have hbad : badsU x.1 = [65533] := by unfold badsU; rw [if_neg (by have := G2.out; omega)]
  rw [hbad] at o4
  obtain ⟨g4, c4, rfl, b4, l4, d4⟩ := rune_cells o4 (by simp)
  have e4 : w4.cell? ⟨g4, 0, none⟩ = some (.int .i32 65533) := d4 0 _ rfl
  have K4 := Lib.hid (K3.out.trans k4 (fun _ _ x => x))
  have HRb4 := Lib.hid (HRb.out.keep K4.out (by omega))
  have hz4 := K4.out.size
  have hg4 : g4 ≠ qa + 1 := by have := K3.out.size; have := HZ.out; omega
  have E4 := Lib.hid e4
  have L4 := Lib.hid l4
  have Z4 := Lib.hid hz4
  clear o4 r4 k4 hbad d4 b4 l4 hz4 e4
  go_wp2_with fail
  refine (HX1.out (qa + 1) w4.heap.size _ (HRb4.out.alloc (.cells #[.string (S.extract 0 1)] 9)) (by simp [go_sem, Array.size_push]) (by have := HZ.out; have := Z4.out; omega)).mono ?_
  rintro e w5 ⟨v5, rfl, o5, r5, k5⟩
  obtain ⟨A5, c5, rfl, -⟩ := own_form o5
  have hl5 : x.2.length = 0 := by rw [G1.out]; rfl
  rw [hl5]
  have HR5 := Lib.hid r5
  have K5 := Lib.hid (((Keep.refl (fun k => k = qa + 1) w4).alloc (.cells #[.string (S.extract 0 1)] 9)).trans k5 (fun _ _ x => x))
  clear o5 r5 k5 hl5
  go_wp2_with fail
  refine (HX2.out (qa + 1) w5.heap.size _ (HR5.out.alloc (.cells #[.string (S.extract 1 2)] 9)) (by simp [go_sem, Array.size_push]) (by have := HZ.out; have := Z4.out; have := K5.out.size; omega)).mono ?_
  rintro e w6 ⟨v6, rfl, o6, r6, k6⟩
  obtain ⟨g6, c6, rfl, b6, l6, d6⟩ := rune_cells o6 (by simp)
  have e6 : w6.cell? ⟨g6, 0, none⟩ = some (.int .i32 r) := by rw [← HRC.out]; exact d6 0 _ rfl
  have HR6 := Lib.hid r6
  have k46 := K5.out.trans (((Keep.refl (fun k => k = qa + 1) w5).alloc (.cells #[.string (S.extract 1 2)] 9)).trans k6 (fun _ _ x => x)) (fun _ _ x => x)
  have e4 : w6.cell? ⟨g4, 0, none⟩ = some (.int .i32 65533) := (k46.cell (p := ⟨g4, 0, none⟩) L4.out hg4).trans E4.out
  have HB6 : Hid (Below w.heap.size w w6) := by
    have hw := HW.out
    have hs := HB2.out.size
    exact (HB2.out.trans (K4.out.below hs (fun k hk e => by omega))).trans (k46.below (Nat.le_trans hs Z4.out) (fun k hk e => by omega))
  clear o6 r6 k6 d6 b6 l6 k46 hg4
  go_wp2_with fail
  refine (utf_half _ 0 _ _ HR6.out).mono ?_
  rintro e w7 ⟨rfl, rfl⟩
  go_wp2_with fail
  go_ret
  exact ⟨rfl, HB6.out⟩

set_option maxRecDepth 100000 in
set_option maxHeartbeats 3200000 in
theorem utfHalf_three1 (c : Nat) (r k : Int) (w : World) (hrc : (c : Int) = r) (h1 : ¬ r < 128) (h2 : ¬ r > 1114111) (h3 : ¬ r ≥ 55296) (h6 : r ≥ 2048) (h7 : ¬ r ≥ 65536) (h5 : ¬ k < 1) (hk : k ≤ 9223372036854775807) :
    Calls Try.prog 7 #[.int .i32 r, .int .i64 k] w fun e w' => e = .returned (.bool true) ∧ Below w.heap.size w w' := by
  obtain ⟨m, htm⟩ : ∃ m : Nat, k.tmod 2 = (m : Int) := ⟨(k.tmod 2).toNat, by have := Int.tmod_nonneg 2 (show 0 ≤ k by omega); omega⟩
  have hml : m ≤ 1 := by have := Int.tmod_lt_of_pos k (show (0 : Int) < 2 by omega); omega
  obtain ⟨q, hq⟩ : ∃ q, m + 1 = q := ⟨_, rfl⟩
  have hq2 : IntKind.i64.wrap ((m : Int) + 1) = (q : Int) := by rw [IntKind.wrap_i64]; omega
  have hq0 : 0 < q := by omega
  have hqn : q < 3 := by omega
  have hlen : (encN c).length = 3 := by
    rw [encN_len]
    repeat (first | rw [if_pos (by omega)] | rw [if_neg (by omega)])
  obtain ⟨t1, t2⟩ := rune_text c (by omega) (by omega)
  obtain ⟨-, f2⟩ := encN_feed c (by omega) (by omega)
  obtain ⟨g1, g2, g3⟩ := f2 q hq0 (by omega)
  rw [hrc] at t1 t2
  obtain ⟨S, hS⟩ : ∃ S, runesBytes [r] = S := ⟨_, rfl⟩
  have HRC := Lib.hid hrc
  have HT := Lib.hid (fun (A : Option Addr) (n c' : Nat) (W : World) h => hS ▸ utf_text A n c' [r] W h)
  rw [hS] at t1 t2
  rw [hlen] at t2
  obtain ⟨u1, u2⟩ := natsOf_cut S q (by omega)
  rw [t1] at u1 u2
  rw [t2] at u2
  rw [← u1] at g1 g2 g3
  rw [← u2] at g3
  obtain ⟨x, hx⟩ : ∃ x, feedU .z (natsOf (S.extract 0 q)) = x := ⟨_, rfl⟩
  rw [hx] at g1 g2 g3
  have hxs : (S.extract 0 q).size ≤ 100000000000 := by rw [ByteArray.size_extract]; omega
  have hys : (S.extract q 3).size ≤ 100000000000 := by rw [ByteArray.size_extract]; omega
  clear hq hml
  have HX1 := Lib.hid (fun (p b : Nat) (W : World) h hs hb => hx ▸ utf_feed_one p 0 .z b (S.extract 0 q) 1 W h hs hb hxs)
  have HX2 := Lib.hid (fun (p b : Nat) (W : World) h hs hb => g3 ▸ utf_feed_one p 0 x.1 b (S.extract q 3) 1 W h hs hb hys)
  have G1 := Lib.hid g1
  have G2 := Lib.hid g2
  have hq3 : (q : Int) ≤ (S.size : Int) := by omega
  have hq4 : (0 : Int) ≤ (q : Int) := by omega
  clear hrc g1 g2 g3 hx u1 u2 t1 hS hlen hxs hys
  go_enter Try.func7, Try.ntmps7
  go_wp2_with fail
  refine (alive_any _).mono ?_
  rintro e w1 ⟨rfl, hb⟩
  have HB := Lib.hid hb
  clear hb
  go_wp2_with fail
  refine (HT.out _ 1 1 _ (src_new w1 [.int .i32 r] 21 w1.heap.size rfl 1 rfl)).mono ?_
  rintro e w2 ⟨rfl, rfl⟩
  go_upto_region 13 with fail
  obtain ⟨w2, hw2⟩ : ∃ w2, w2 = ((w1.alloc (.cells #[.int .i32 r] 21)).alloc (.cells #[.int .i32 0, .int .i64 0, .int .i64 0, .int .u8 0, .int .u8 0] 28)).alloc (.cells #[.int .i32 0, .int .i64 0, .int .i64 0, .int .u8 0, .int .u8 0] 28) := ⟨_, rfl⟩
  obtain ⟨qa, hqa⟩ : ∃ qa, qa = w1.heap.size + 1 := ⟨_, rfl⟩
  have HB2 : Hid (Below w.heap.size w w2) := by
    show Below _ _ _
    have hs := HB.out.size
    rw [hw2]; exact ((HB.out.alloc hs _).alloc (by simp; omega) _).alloc (by simp; omega) _
  have HRa : Hid (RdU w2 qa 0 .z) := by
    show RdU _ _ _ _
    rw [hw2, hqa]
    have := (RdU.made (w1.alloc (.cells #[.int .i32 r] 21)) 28).alloc (.cells #[.int .i32 0, .int .i64 0, .int .i64 0, .int .u8 0, .int .u8 0] 28)
    simpa using this
  have HRb : Hid (RdU w2 (qa + 1) 0 .z) := by
    show RdU _ _ _ _
    rw [hw2, hqa]
    have := RdU.made ((w1.alloc (.cells #[.int .i32 r] 21)).alloc (.cells #[.int .i32 0, .int .i64 0, .int .i64 0, .int .u8 0, .int .u8 0] 28)) 28
    simpa using this
  have hqz : w2.heap.size = qa + 2 := by rw [hw2, hqa]; simp
  have hqw : w.heap.size ≤ qa := by have := HB.out.size; omega
  rw [← hw2]
  have hqb : w1.heap.size + 1 + 1 = qa + 1 := by omega
  try rw [hqb]
  try rw [← hqa]
  clear hw2 hqa hqb
  have HZ := Lib.hid hqz
  have HW := Lib.hid hqw
  clear hqz hqw
  go_wp2_with fail
  refine (HX1.out qa w2.heap.size _ (HRa.out.alloc (.cells #[.string (S.extract 0 q)] 9)) (by simp [go_sem, Array.size_push]) (by have := HZ.out; omega)).mono ?_
  rintro e w3 ⟨v3, rfl, o3, r3, k3⟩
  obtain ⟨A3, c3, rfl, -⟩ := own_form o3
  have hl3 : x.2.length = 0 := by rw [G1.out]; rfl
  rw [hl3]
  have HR3 := Lib.hid r3
  have K3 := Lib.hid (((Keep.refl (fun k => k = qa) w2).alloc (.cells #[.string (S.extract 0 q)] 9)).trans k3 (fun _ _ x => x))
  clear o3 r3 k3 hl3
  go_wp2_with fail
  refine (utf_flush qa 0 _ _ HR3.out).mono ?_
  rintro e w4 ⟨v4, rfl, o4, r4, k4⟩
  have hbad : badsU x.1 = [65533] := by unfold badsU; rw [if_neg (by have := G2.out; omega)]
  rw [hbad] at o4
  obtain ⟨g4, c4, rfl, b4, l4, d4⟩ := rune_cells o4 (by simp)
  have e4 : w4.cell? ⟨g4, 0, none⟩ = some (.int .i32 65533) := d4 0 _ rfl
  have K4 := Lib.hid (K3.out.trans k4 (fun _ _ x => x))
  have HRb4 := Lib.hid (HRb.out.keep K4.out (by omega))
  have hz4 := K4.out.size
  have hg4 : g4 ≠ qa + 1 := by have := K3.out.size; have := HZ.out; omega
  have E4 := Lib.hid e4
  have L4 := Lib.hid l4
  have Z4 := Lib.hid hz4
  clear o4 r4 k4 hbad d4 b4 l4 hz4 e4
  go_wp2_with fail
  refine (HX1.out (qa + 1) w4.heap.size _ (HRb4.out.alloc (.cells #[.string (S.extract 0 q)] 9)) (by simp [go_sem, Array.size_push]) (by have := HZ.out; have := Z4.out; omega)).mono ?_
  rintro e w5 ⟨v5, rfl, o5, r5, k5⟩
  obtain ⟨A5, c5, rfl, -⟩ := own_form o5
  have hl5 : x.2.length = 0 := by rw [G1.out]; rfl
  rw [hl5]
  have HR5 := Lib.hid r5
  have K5 := Lib.hid (((Keep.refl (fun k => k = qa + 1) w4).alloc (.cells #[.string (S.extract 0 q)] 9)).trans k5 (fun _ _ x => x))
  clear o5 r5 k5 hl5
  go_wp2_with fail
  refine (HX2.out (qa + 1) w5.heap.size _ (HR5.out.alloc (.cells #[.string (S.extract q 3)] 9)) (by simp [go_sem, Array.size_push]) (by have := HZ.out; have := Z4.out; have := K5.out.size; omega)).mono ?_
  rintro e w6 ⟨v6, rfl, o6, r6, k6⟩
  obtain ⟨g6, c6, rfl, b6, l6, d6⟩ := rune_cells o6 (by simp)
  have e6 : w6.cell? ⟨g6, 0, none⟩ = some (.int .i32 r) := by rw [← HRC.out]; exact d6 0 _ rfl
  have HR6 := Lib.hid r6
  have k46 := K5.out.trans (((Keep.refl (fun k => k = qa + 1) w5).alloc (.cells #[.string (S.extract q 3)] 9)).trans k6 (fun _ _ x => x)) (fun _ _ x => x)
  have e4 : w6.cell? ⟨g4, 0, none⟩ = some (.int .i32 65533) := (k46.cell (p := ⟨g4, 0, none⟩) L4.out hg4).trans E4.out
  have HB6 : Hid (Below w.heap.size w w6) := by
    have hw := HW.out
    have hs := HB2.out.size
    exact (HB2.out.trans (K4.out.below hs (fun k hk e => by omega))).trans (k46.below (Nat.le_trans hs Z4.out) (fun k hk e => by omega))
  clear o6 r6 k6 d6 b6 l6 k46 hg4
  go_wp2_with fail
  refine (utf_half _ 0 _ _ HR6.out).mono ?_
  rintro e w7 ⟨rfl, rfl⟩
  go_wp2_with fail
  go_ret
  exact ⟨rfl, HB6.out⟩

set_option maxRecDepth 100000 in
set_option maxHeartbeats 3200000 in
theorem utfHalf_three2 (c : Nat) (r k : Int) (w : World) (hrc : (c : Int) = r) (h1 : ¬ r < 128) (h2 : ¬ r > 1114111) (h3 : r ≥ 55296) (h4 : ¬ r ≤ 57343) (h6 : r ≥ 2048) (h7 : ¬ r ≥ 65536) (h5 : ¬ k < 1) (hk : k ≤ 9223372036854775807) :
    Calls Try.prog 7 #[.int .i32 r, .int .i64 k] w fun e w' => e = .returned (.bool true) ∧ Below w.heap.size w w' := by
  obtain ⟨m, htm⟩ : ∃ m : Nat, k.tmod 2 = (m : Int) := ⟨(k.tmod 2).toNat, by have := Int.tmod_nonneg 2 (show 0 ≤ k by omega); omega⟩
  have hml : m ≤ 1 := by have := Int.tmod_lt_of_pos k (show (0 : Int) < 2 by omega); omega
  obtain ⟨q, hq⟩ : ∃ q, m + 1 = q := ⟨_, rfl⟩
  have hq2 : IntKind.i64.wrap ((m : Int) + 1) = (q : Int) := by rw [IntKind.wrap_i64]; omega
  have hq0 : 0 < q := by omega
  have hqn : q < 3 := by omega
  have hlen : (encN c).length = 3 := by
    rw [encN_len]
    repeat (first | rw [if_pos (by omega)] | rw [if_neg (by omega)])
  obtain ⟨t1, t2⟩ := rune_text c (by omega) (by omega)
  obtain ⟨-, f2⟩ := encN_feed c (by omega) (by omega)
  obtain ⟨g1, g2, g3⟩ := f2 q hq0 (by omega)
  rw [hrc] at t1 t2
  obtain ⟨S, hS⟩ : ∃ S, runesBytes [r] = S := ⟨_, rfl⟩
  have HRC := Lib.hid hrc
  have HT := Lib.hid (fun (A : Option Addr) (n c' : Nat) (W : World) h => hS ▸ utf_text A n c' [r] W h)
  rw [hS] at t1 t2
  rw [hlen] at t2
  obtain ⟨u1, u2⟩ := natsOf_cut S q (by omega)
  rw [t1] at u1 u2
  rw [t2] at u2
  rw [← u1] at g1 g2 g3
  rw [← u2] at g3
  obtain ⟨x, hx⟩ : ∃ x, feedU .z (natsOf (S.extract 0 q)) = x := ⟨_, rfl⟩
  rw [hx] at g1 g2 g3
  have hxs : (S.extract 0 q).size ≤ 100000000000 := by rw [ByteArray.size_extract]; omega
  have hys : (S.extract q 3).size ≤ 100000000000 := by rw [ByteArray.size_extract]; omega
  clear hq hml
  have HX1 := Lib.hid (fun (p b : Nat) (W : World) h hs hb => hx ▸ utf_feed_one p 0 .z b (S.extract 0 q) 1 W h hs hb hxs)
  have HX2 := Lib.hid (fun (p b : Nat) (W : World) h hs hb => g3 ▸ utf_feed_one p 0 x.1 b (S.extract q 3) 1 W h hs hb hys)
  have G1 := Lib.hid g1
  have G2 := Lib.hid g2
  have hq3 : (q : Int) ≤ (S.size : Int) := by omega
  have hq4 : (0 : Int) ≤ (q : Int) := by omega
  clear hrc g1 g2 g3 hx u1 u2 t1 hS hlen hxs hys
  go_enter Try.func7, Try.ntmps7
  go_wp2_with fail
  refine (alive_any _).mono ?_
  rintro e w1 ⟨rfl, hb⟩
  have HB := Lib.hid hb
  clear hb
  go_wp2_with fail
  refine (HT.out _ 1 1 _ (src_new w1 [.int .i32 r] 21 w1.heap.size rfl 1 rfl)).mono ?_
  rintro e w2 ⟨rfl, rfl⟩
  go_upto_region 13 with fail
  obtain ⟨w2, hw2⟩ : ∃ w2, w2 = ((w1.alloc (.cells #[.int .i32 r] 21)).alloc (.cells #[.int .i32 0, .int .i64 0, .int .i64 0, .int .u8 0, .int .u8 0] 28)).alloc (.cells #[.int .i32 0, .int .i64 0, .int .i64 0, .int .u8 0, .int .u8 0] 28) := ⟨_, rfl⟩
  obtain ⟨qa, hqa⟩ : ∃ qa, qa = w1.heap.size + 1 := ⟨_, rfl⟩
  have HB2 : Hid (Below w.heap.size w w2) := by
    show Below _ _ _
    have hs := HB.out.size
    rw [hw2]; exact ((HB.out.alloc hs _).alloc (by simp; omega) _).alloc (by simp; omega) _
  have HRa : Hid (RdU w2 qa 0 .z) := by
    show RdU _ _ _ _
    rw [hw2, hqa]
    have := (RdU.made (w1.alloc (.cells #[.int .i32 r] 21)) 28).alloc (.cells #[.int .i32 0, .int .i64 0, .int .i64 0, .int .u8 0, .int .u8 0] 28)
    simpa using this
  have HRb : Hid (RdU w2 (qa + 1) 0 .z) := by
    show RdU _ _ _ _
    rw [hw2, hqa]
    have := RdU.made ((w1.alloc (.cells #[.int .i32 r] 21)).alloc (.cells #[.int .i32 0, .int .i64 0, .int .i64 0, .int .u8 0, .int .u8 0] 28)) 28
    simpa using this
  have hqz : w2.heap.size = qa + 2 := by rw [hw2, hqa]; simp
  have hqw : w.heap.size ≤ qa := by have := HB.out.size; omega
  rw [← hw2]
  have hqb : w1.heap.size + 1 + 1 = qa + 1 := by omega
  try rw [hqb]
  try rw [← hqa]
  clear hw2 hqa hqb
  have HZ := Lib.hid hqz
  have HW := Lib.hid hqw
  clear hqz hqw
  go_wp2_with fail
  refine (HX1.out qa w2.heap.size _ (HRa.out.alloc (.cells #[.string (S.extract 0 q)] 9)) (by simp [go_sem, Array.size_push]) (by have := HZ.out; omega)).mono ?_
  rintro e w3 ⟨v3, rfl, o3, r3, k3⟩
  obtain ⟨A3, c3, rfl, -⟩ := own_form o3
  have hl3 : x.2.length = 0 := by rw [G1.out]; rfl
  rw [hl3]
  have HR3 := Lib.hid r3
  have K3 := Lib.hid (((Keep.refl (fun k => k = qa) w2).alloc (.cells #[.string (S.extract 0 q)] 9)).trans k3 (fun _ _ x => x))
  clear o3 r3 k3 hl3
  go_wp2_with fail
  refine (utf_flush qa 0 _ _ HR3.out).mono ?_
  rintro e w4 ⟨v4, rfl, o4, r4, k4⟩
  have hbad : badsU x.1 = [65533] := by unfold badsU; rw [if_neg (by have := G2.out; omega)]
  rw [hbad] at o4
  obtain ⟨g4, c4, rfl, b4, l4, d4⟩ := rune_cells o4 (by simp)
  have e4 : w4.cell? ⟨g4, 0, none⟩ = some (.int .i32 65533) := d4 0 _ rfl
  have K4 := Lib.hid (K3.out.trans k4 (fun _ _ x => x))
  have HRb4 := Lib.hid (HRb.out.keep K4.out (by omega))
  have hz4 := K4.out.size
  have hg4 : g4 ≠ qa + 1 := by have := K3.out.size; have := HZ.out; omega
  have E4 := Lib.hid e4
  have L4 := Lib.hid l4
  have Z4 := Lib.hid hz4
  clear o4 r4 k4 hbad d4 b4 l4 hz4 e4
  go_wp2_with fail
  refine (HX1.out (qa + 1) w4.heap.size _ (HRb4.out.alloc (.cells #[.string (S.extract 0 q)] 9)) (by simp [go_sem, Array.size_push]) (by have := HZ.out; have := Z4.out; omega)).mono ?_
  rintro e w5 ⟨v5, rfl, o5, r5, k5⟩
  obtain ⟨A5, c5, rfl, -⟩ := own_form o5
  have hl5 : x.2.length = 0 := by rw [G1.out]; rfl
  rw [hl5]
  have HR5 := Lib.hid r5
  have K5 := Lib.hid (((Keep.refl (fun k => k = qa + 1) w4).alloc (.cells #[.string (S.extract 0 q)] 9)).trans k5 (fun _ _ x => x))
  clear o5 r5 k5 hl5
  go_wp2_with fail
  refine (HX2.out (qa + 1) w5.heap.size _ (HR5.out.alloc (.cells #[.string (S.extract q 3)] 9)) (by simp [go_sem, Array.size_push]) (by have := HZ.out; have := Z4.out; have := K5.out.size; omega)).mono ?_
  rintro e w6 ⟨v6, rfl, o6, r6, k6⟩
  obtain ⟨g6, c6, rfl, b6, l6, d6⟩ := rune_cells o6 (by simp)
  have e6 : w6.cell? ⟨g6, 0, none⟩ = some (.int .i32 r) := by rw [← HRC.out]; exact d6 0 _ rfl
  have HR6 := Lib.hid r6
  have k46 := K5.out.trans (((Keep.refl (fun k => k = qa + 1) w5).alloc (.cells #[.string (S.extract q 3)] 9)).trans k6 (fun _ _ x => x)) (fun _ _ x => x)
  have e4 : w6.cell? ⟨g4, 0, none⟩ = some (.int .i32 65533) := (k46.cell (p := ⟨g4, 0, none⟩) L4.out hg4).trans E4.out
  have HB6 : Hid (Below w.heap.size w w6) := by
    have hw := HW.out
    have hs := HB2.out.size
    exact (HB2.out.trans (K4.out.below hs (fun k hk e => by omega))).trans (k46.below (Nat.le_trans hs Z4.out) (fun k hk e => by omega))
  clear o6 r6 k6 d6 b6 l6 k46 hg4
  go_wp2_with fail
  refine (utf_half _ 0 _ _ HR6.out).mono ?_
  rintro e w7 ⟨rfl, rfl⟩
  go_wp2_with fail
  go_ret
  exact ⟨rfl, HB6.out⟩

set_option maxRecDepth 100000 in
set_option maxHeartbeats 3200000 in
theorem utfHalf_four (c : Nat) (r k : Int) (w : World) (hrc : (c : Int) = r) (h1 : ¬ r < 128) (h2 : ¬ r > 1114111) (h3 : r ≥ 55296) (h4 : ¬ r ≤ 57343) (h6 : r ≥ 2048) (h7 : r ≥ 65536) (h5 : ¬ k < 1) (hk : k ≤ 9223372036854775807) :
    Calls Try.prog 7 #[.int .i32 r, .int .i64 k] w fun e w' => e = .returned (.bool true) ∧ Below w.heap.size w w' := by
  obtain ⟨m, htm⟩ : ∃ m : Nat, k.tmod 3 = (m : Int) := ⟨(k.tmod 3).toNat, by have := Int.tmod_nonneg 3 (show 0 ≤ k by omega); omega⟩
  have hml : m ≤ 2 := by have := Int.tmod_lt_of_pos k (show (0 : Int) < 3 by omega); omega
  obtain ⟨q, hq⟩ : ∃ q, m + 1 = q := ⟨_, rfl⟩
  have hq2 : IntKind.i64.wrap ((m : Int) + 1) = (q : Int) := by rw [IntKind.wrap_i64]; omega
  have hq0 : 0 < q := by omega
  have hqn : q < 4 := by omega
  have hlen : (encN c).length = 4 := by
    rw [encN_len]
    repeat (first | rw [if_pos (by omega)] | rw [if_neg (by omega)])
  obtain ⟨t1, t2⟩ := rune_text c (by omega) (by omega)
  obtain ⟨-, f2⟩ := encN_feed c (by omega) (by omega)
  obtain ⟨g1, g2, g3⟩ := f2 q hq0 (by omega)
  rw [hrc] at t1 t2
  obtain ⟨S, hS⟩ : ∃ S, runesBytes [r] = S := ⟨_, rfl⟩
  have HRC := Lib.hid hrc
  have HT := Lib.hid (fun (A : Option Addr) (n c' : Nat) (W : World) h => hS ▸ utf_text A n c' [r] W h)
  rw [hS] at t1 t2
  rw [hlen] at t2
  obtain ⟨u1, u2⟩ := natsOf_cut S q (by omega)
  rw [t1] at u1 u2
  rw [t2] at u2
  rw [← u1] at g1 g2 g3
  rw [← u2] at g3
  obtain ⟨x, hx⟩ : ∃ x, feedU .z (natsOf (S.extract 0 q)) = x := ⟨_, rfl⟩
  rw [hx] at g1 g2 g3
  have hxs : (S.extract 0 q).size ≤ 100000000000 := by rw [ByteArray.size_extract]; omega
  have hys : (S.extract q 4).size ≤ 100000000000 := by rw [ByteArray.size_extract]; omega
  clear hq hml
  have HX1 := Lib.hid (fun (p b : Nat) (W : World) h hs hb => hx ▸ utf_feed_one p 0 .z b (S.extract 0 q) 1 W h hs hb hxs)
  have HX2 := Lib.hid (fun (p b : Nat) (W : World) h hs hb => g3 ▸ utf_feed_one p 0 x.1 b (S.extract q 4) 1 W h hs hb hys)
  have G1 := Lib.hid g1
  have G2 := Lib.hid g2
  have hq3 : (q : Int) ≤ (S.size : Int) := by omega
  have hq4 : (0 : Int) ≤ (q : Int) := by omega
  clear hrc g1 g2 g3 hx u1 u2 t1 hS hlen hxs hys
  go_enter Try.func7, Try.ntmps7
  go_wp2_with fail
  refine (alive_any _).mono ?_
  rintro e w1 ⟨rfl, hb⟩
  have HB := Lib.hid hb
  clear hb
  go_wp2_with fail
  refine (HT.out _ 1 1 _ (src_new w1 [.int .i32 r] 21 w1.heap.size rfl 1 rfl)).mono ?_
  rintro e w2 ⟨rfl, rfl⟩
  go_upto_region 13 with fail
  obtain ⟨w2, hw2⟩ : ∃ w2, w2 = ((w1.alloc (.cells #[.int .i32 r] 21)).alloc (.cells #[.int .i32 0, .int .i64 0, .int .i64 0, .int .u8 0, .int .u8 0] 28)).alloc (.cells #[.int .i32 0, .int .i64 0, .int .i64 0, .int .u8 0, .int .u8 0] 28) := ⟨_, rfl⟩
  obtain ⟨qa, hqa⟩ : ∃ qa, qa = w1.heap.size + 1 := ⟨_, rfl⟩
  have HB2 : Hid (Below w.heap.size w w2) := by
    show Below _ _ _
    have hs := HB.out.size
    rw [hw2]; exact ((HB.out.alloc hs _).alloc (by simp; omega) _).alloc (by simp; omega) _
  have HRa : Hid (RdU w2 qa 0 .z) := by
    show RdU _ _ _ _
    rw [hw2, hqa]
    have := (RdU.made (w1.alloc (.cells #[.int .i32 r] 21)) 28).alloc (.cells #[.int .i32 0, .int .i64 0, .int .i64 0, .int .u8 0, .int .u8 0] 28)
    simpa using this
  have HRb : Hid (RdU w2 (qa + 1) 0 .z) := by
    show RdU _ _ _ _
    rw [hw2, hqa]
    have := RdU.made ((w1.alloc (.cells #[.int .i32 r] 21)).alloc (.cells #[.int .i32 0, .int .i64 0, .int .i64 0, .int .u8 0, .int .u8 0] 28)) 28
    simpa using this
  have hqz : w2.heap.size = qa + 2 := by rw [hw2, hqa]; simp
  have hqw : w.heap.size ≤ qa := by have := HB.out.size; omega
  rw [← hw2]
  have hqb : w1.heap.size + 1 + 1 = qa + 1 := by omega
  try rw [hqb]
  try rw [← hqa]
  clear hw2 hqa hqb
  have HZ := Lib.hid hqz
  have HW := Lib.hid hqw
  clear hqz hqw
  go_wp2_with fail
  refine (HX1.out qa w2.heap.size _ (HRa.out.alloc (.cells #[.string (S.extract 0 q)] 9)) (by simp [go_sem, Array.size_push]) (by have := HZ.out; omega)).mono ?_
  rintro e w3 ⟨v3, rfl, o3, r3, k3⟩
  obtain ⟨A3, c3, rfl, -⟩ := own_form o3
  have hl3 : x.2.length = 0 := by rw [G1.out]; rfl
  rw [hl3]
  have HR3 := Lib.hid r3
  have K3 := Lib.hid (((Keep.refl (fun k => k = qa) w2).alloc (.cells #[.string (S.extract 0 q)] 9)).trans k3 (fun _ _ x => x))
  clear o3 r3 k3 hl3
  go_wp2_with fail
  refine (utf_flush qa 0 _ _ HR3.out).mono ?_
  rintro e w4 ⟨v4, rfl, o4, r4, k4⟩
  have hbad : badsU x.1 = [65533] := by unfold badsU; rw [if_neg (by have := G2.out; omega)]
  rw [hbad] at o4
  obtain ⟨g4, c4, rfl, b4, l4, d4⟩ := rune_cells o4 (by simp)
  have e4 : w4.cell? ⟨g4, 0, none⟩ = some (.int .i32 65533) := d4 0 _ rfl
  have K4 := Lib.hid (K3.out.trans k4 (fun _ _ x => x))
  have HRb4 := Lib.hid (HRb.out.keep K4.out (by omega))
  have hz4 := K4.out.size
  have hg4 : g4 ≠ qa + 1 := by have := K3.out.size; have := HZ.out; omega
  have E4 := Lib.hid e4
  have L4 := Lib.hid l4
  have Z4 := Lib.hid hz4
  clear o4 r4 k4 hbad d4 b4 l4 hz4 e4
  go_wp2_with fail
  refine (HX1.out (qa + 1) w4.heap.size _ (HRb4.out.alloc (.cells #[.string (S.extract 0 q)] 9)) (by simp [go_sem, Array.size_push]) (by have := HZ.out; have := Z4.out; omega)).mono ?_
  rintro e w5 ⟨v5, rfl, o5, r5, k5⟩
  obtain ⟨A5, c5, rfl, -⟩ := own_form o5
  have hl5 : x.2.length = 0 := by rw [G1.out]; rfl
  rw [hl5]
  have HR5 := Lib.hid r5
  have K5 := Lib.hid (((Keep.refl (fun k => k = qa + 1) w4).alloc (.cells #[.string (S.extract 0 q)] 9)).trans k5 (fun _ _ x => x))
  clear o5 r5 k5 hl5
  go_wp2_with fail
  refine (HX2.out (qa + 1) w5.heap.size _ (HR5.out.alloc (.cells #[.string (S.extract q 4)] 9)) (by simp [go_sem, Array.size_push]) (by have := HZ.out; have := Z4.out; have := K5.out.size; omega)).mono ?_
  rintro e w6 ⟨v6, rfl, o6, r6, k6⟩
  obtain ⟨g6, c6, rfl, b6, l6, d6⟩ := rune_cells o6 (by simp)
  have e6 : w6.cell? ⟨g6, 0, none⟩ = some (.int .i32 r) := by rw [← HRC.out]; exact d6 0 _ rfl
  have HR6 := Lib.hid r6
  have k46 := K5.out.trans (((Keep.refl (fun k => k = qa + 1) w5).alloc (.cells #[.string (S.extract q 4)] 9)).trans k6 (fun _ _ x => x)) (fun _ _ x => x)
  have e4 : w6.cell? ⟨g4, 0, none⟩ = some (.int .i32 65533) := (k46.cell (p := ⟨g4, 0, none⟩) L4.out hg4).trans E4.out
  have HB6 : Hid (Below w.heap.size w w6) := by
    have hw := HW.out
    have hs := HB2.out.size
    exact (HB2.out.trans (K4.out.below hs (fun k hk e => by omega))).trans (k46.below (Nat.le_trans hs Z4.out) (fun k hk e => by omega))
  clear o6 r6 k6 d6 b6 l6 k46 hg4
  go_wp2_with fail
  refine (utf_half _ 0 _ _ HR6.out).mono ?_
  rintro e w7 ⟨rfl, rfl⟩
  go_wp2_with fail
  go_ret
  exact ⟨rfl, HB6.out⟩

theorem walk_UtfHalf (r : Int) (wr : (Lit.int .i32 r).wf = true) (k : Int) (wk : (Lit.int .i64 k).wf = true) (w : World) :
    Calls Try.prog 7 #[.int .i32 r, .int .i64 k] w fun e w' => e = .returned (.bool true) ∧ Below w.heap.size w w' := by
  have hk := (wf_bounds wk).2
  by_cases h1 : r < 128
  · exact utfHalf_low r k w h1
  by_cases h2 : r > 1114111
  · exact utfHalf_high r k w h1 h2
  by_cases h3 : r ≥ 55296
  · by_cases h4 : r ≤ 57343
    · exact utfHalf_pair r k w h1 h2 h3 h4
    by_cases h5 : k < 1
    · exact utfHalf_k2 r k w h1 h2 h3 h4 h5
    obtain ⟨c, hrc⟩ : ∃ c : Nat, (c : Int) = r := ⟨r.toNat, by omega⟩
    by_cases h7 : r ≥ 65536
    · exact utfHalf_four c r k w hrc h1 h2 h3 h4 (by omega) h7 h5 hk
    · exact utfHalf_three2 c r k w hrc h1 h2 h3 h4 (by omega) h7 h5 hk
  · by_cases h5 : k < 1
    · exact utfHalf_k1 r k w h1 h2 h3 h5
    obtain ⟨c, hrc⟩ : ∃ c : Nat, (c : Int) = r := ⟨r.toNat, by omega⟩
    by_cases h6 : r ≥ 2048
    · exact utfHalf_three1 c r k w hrc h1 h2 h3 h6 (by omega) h5 hk
    · exact utfHalf_two c r k w hrc h1 h2 h3 h6 (by omega) h5 hk

end Go.Proofs.Ytoihadjboeeglaa
