/- Law CodecBack: the walk. Own work. -/
import Derived.Test.YtlinmnlfcboicaaAlive
namespace Go.Proofs.Ytlinmnlfcboicaa
set_option linter.unusedVariables false
open Go.RowKit

theorem i64_and255 (n : Nat) (h : n < 9223372036854775808) : bits BinOp.and IntKind.i64 (n : Int) 255 = (n : Int) % 256 := by
  have hx : n &&& 255 = n % 256 := Nat.and_two_pow_sub_one_eq_mod n 8
  show IntKind.i64.wrap ((BitVec.ofInt 64 (n : Int) &&& BitVec.ofInt 64 ((255 : Nat) : Int)).toNat : Int) = _
  rw [BitVec.toNat_and, ofInt_u64 n (by omega), ofInt_u64 255 (by omega), IntKind.wrap_i64, hx]
  omega

theorem back_one (m n : Nat) : numsO [] 0 [(m : Int), (n : Int)] = (enc m ++ enc n, 0) := by
  simp only [numsO, List.foldl_cons, List.foldl_nil, numO_ok, List.nil_append]
theorem back_two (m n : Nat) (s t : ByteArray) : textsO (enc m ++ enc n) 0 [s, t] = (enc m ++ (enc n ++ (enc s.size ++ (s.data.toList ++ (enc t.size ++ t.data.toList)))), 0) := by
  simp only [textsO, List.foldl_cons, List.foldl_nil, textO_ok, List.append_assoc]
theorem back_three (l : List UInt8) (t : ByteArray) : rawsO l 0 [t] = (l ++ t.data.toList, 0) := by simp [rawsO, rawO]
theorem back_four (l : List UInt8) (n : Nat) : bytesO l 0 [(n : Int) % 256] = (l ++ [UInt8.ofNat (n % 256)], 0) := by
  have : ((n : Int) % 256) = ((n % 256 : Nat) : Int) := by omega
  rw [this]
  simp only [bytesO, List.foldl_cons, List.foldl_nil, byteO, if_true]
  rw [if_neg (by omega), Int.toNat_natCast]

set_option maxRecDepth 100000 in
set_option maxHeartbeats 1600000 in
theorem back_good (m n : Nat) (hm : m < 9223372036854775808) (hn : n < 9223372036854775808) (s t : ByteArray) (hs : s.size ≤ 1000) (ht : t.size ≤ 1000) (w : World) :
    Calls Try.prog 5 #[.int .i64 m, .int .i64 n, .string s, .string t] w fun e w' => e = .returned (.bool true) ∧ Below w.heap.size w w' := by
  have hm0 : (m : Int) ≤ 9223372036854775807 := by omega
  have hn0 : (n : Int) ≤ 9223372036854775807 := by omega
  have hand := i64_and255 m hm
  have lm := enc_le m hm
  have ln := enc_le n hn
  have ls := enc_le s.size (by omega)
  have lt := enc_le t.size (by omega)
  have es := Lib.hid (Lib.size_eq s)
  have et := Lib.hid (Lib.size_eq t)
  go_enter Try.func5, Try.ntmps5
  go_wp2_with fail
  refine (alive_any _).mono ?_
  rintro r w1 ⟨rfl, hb⟩
  have H1 := Lib.hid (OutIs.new hb)
  clear hb
  go_wp2_with fail
  refine (isNum H1.out [(m : Int), (n : Int)] (by simp) rfl (by simp; omega) (by simp)).mono ?_
  rintro r w2 ⟨rfl, h1⟩
  rw [back_one] at h1
  have H2 := Lib.hid h1
  clear h1 H1
  go_wp2_with fail
  refine (isText H2.out [s, t] rfl rfl (by simp [sum_two]; omega)).mono ?_
  rintro r w3 ⟨rfl, h1⟩
  rw [back_two] at h1
  have H3 := Lib.hid h1
  clear h1 H2
  go_wp2_with fail
  refine (isRaw H3.out [t] (n := 1) rfl rfl (by omega) (by simp only [sum_one, List.length_append, ← es.out, ← et.out]; omega)).mono ?_
  rintro r w4 ⟨rfl, h1⟩
  rw [back_three] at h1
  have H4 := Lib.hid h1
  clear h1 H3
  go_wp2_with fail
  refine (isByte H4.out [(m : Int) % 256] (n := 1) rfl rfl (by simp only [List.length_append, ← es.out, ← et.out]; omega)).mono ?_
  rintro r w5 ⟨rfl, h1⟩
  rw [back_four] at h1
  simp only [List.append_assoc] at h1
  have H5 := Lib.hid h1
  clear h1 H4
  go_wp2_with fail
  refine (isEnd H5.out).mono ?_
  rintro r w6 ⟨rfl, nq, rfl⟩
  have H6 := Lib.hid (H5.out.drewN nq).below
  clear H5
  obtain ⟨X, hX⟩ : ∃ X, X = enc m ++ (enc n ++ (enc s.size ++ (s.data.toList ++ (enc t.size ++ (t.data.toList ++ (t.data.toList ++ [UInt8.ofNat (m % 256)])))))) := ⟨_, rfl⟩
  have hXl : X.length ≤ 5000 := by rw [hX]; simp only [List.length_append, ← es.out, ← et.out, List.length_singleton]; omega
  rw [← hX]
  have HX := Lib.hid hX
  clear hX
  go_wp2_with fail
  refine (inOn H6.out _).mono ?_
  rintro r w7 ⟨rfl, h1⟩
  have k1 := inNum h1 (by rw [size_mk]; omega)
  rw [HX.out, numS_enc m _ hm] at k1
  have K1 := Lib.hid k1
  clear k1 H6 h1
  go_wp2_with fail
  refine K1.out.mono ?_
  rintro r w8 ⟨rfl, h1⟩
  have k1 := inNum h1 (by rw [size_mk]; have := congrArg List.length HX.out; simp only [List.length_append] at this ⊢; omega)
  rw [numS_enc n _ hn] at k1
  have K2 := Lib.hid k1
  clear k1 K1 h1
  go_wp2_with fail
  refine K2.out.mono ?_
  rintro r w9 ⟨rfl, h1⟩
  have k1 := inText h1 (by rw [size_mk]; have := congrArg List.length HX.out; simp only [List.length_append] at this ⊢; omega)
  rw [textS_text s _ (by omega)] at k1
  have K3 := Lib.hid k1
  clear k1 K2 h1
  go_wp2_with fail
  refine K3.out.mono ?_
  rintro r w10 ⟨rfl, h1⟩
  have k1 := inText h1 (by rw [size_mk]; have := congrArg List.length HX.out; simp only [List.length_append] at this ⊢; omega)
  rw [textS_text t _ (by omega)] at k1
  have K4 := Lib.hid k1
  clear k1 K3 h1
  go_wp2_with fail
  refine K4.out.mono ?_
  rintro r w11 ⟨rfl, h1⟩
  have k1 := inRaw t.size h1 (by rw [size_mk]; have := congrArg List.length HX.out; simp only [List.length_append] at this ⊢; omega)
  rw [rawS_text t _] at k1
  have K5 := Lib.hid k1
  clear k1 K4 h1
  go_wp2_with fail
  refine K5.out.mono ?_
  rintro r w12 ⟨rfl, h1⟩
  have k1 := inByte h1 (by simp [size_mk])
  rw [byteS_cons, toNat_ofNat (by omega)] at k1
  have K6 := Lib.hid k1
  clear k1 K5 h1
  go_wp2_with fail
  refine K6.out.mono ?_
  rintro r w13 ⟨rfl, h1⟩
  have k1 := inEnd h1 (by simp [size_mk])
  have K7 := Lib.hid k1
  clear k1 K6 h1
  go_wp2_with fail
  refine K7.out.mono ?_
  rintro r w14 ⟨rfl, h1⟩
  have H9 := Lib.hid h1.2.1
  clear h1 K7
  go_wp2_with fail
  go_ret
  exact ⟨rfl, H9.out⟩

set_option maxRecDepth 100000 in
set_option maxHeartbeats 1600000 in
theorem walk_CodecBack (a0 : Int) (w0 : (Lit.int .i64 a0).wf = true) (a1 : Int) (w1 : (Lit.int .i64 a1).wf = true) (a2 : ByteArray) (w2 : a2.size ≤ maxLen) (a3 : ByteArray) (w3 : a3.size ≤ maxLen) (w : World) :
    Calls Try.prog 5 #[.int .i64 a0, .int .i64 a1, .string a2, .string a3] w fun e w' => e = .returned (.bool true) ∧ Below w.heap.size w w' := by
  have b0 : -9223372036854775808 ≤ a0 ∧ a0 ≤ 9223372036854775807 := by simpa [Lit.wf, IntKind.min, IntKind.max, IntKind.signed, IntKind.bits] using w0
  have b1 : -9223372036854775808 ≤ a1 ∧ a1 ≤ 9223372036854775807 := by simpa [Lit.wf, IntKind.min, IntKind.max, IntKind.signed, IntKind.bits] using w1
  obtain ⟨b0, b0'⟩ := b0
  obtain ⟨b1, b1'⟩ := b1
  clear w0 w1
  unfold maxLen at w2 w3
  by_cases hgood : a2.size ≤ 1000 ∧ a3.size ≤ 1000 ∧ 0 ≤ a0 ∧ 0 ≤ a1
  · obtain ⟨g1, g2, g3, g4⟩ := hgood
    obtain ⟨m, rfl⟩ := Int.eq_ofNat_of_zero_le g3
    obtain ⟨n, rfl⟩ := Int.eq_ofNat_of_zero_le g4
    exact back_good m n (by omega) (by omega) a2 a3 g1 g2 w
  · have hcase : 1000 < a2.size ∨ (a2.size ≤ 1000 ∧ 1000 < a3.size) ∨ (a2.size ≤ 1000 ∧ a3.size ≤ 1000 ∧ a0 < 0) ∨ (a2.size ≤ 1000 ∧ a3.size ≤ 1000 ∧ 0 ≤ a0 ∧ a1 < 0) := by omega
    clear hgood
    rcases hcase with h | ⟨h, h2⟩ | ⟨h, h2, h3⟩ | ⟨h, h2, h3, h4⟩
    all_goals
      go_enter Try.func5, Try.ntmps5
      go_wp2_with fail
      refine (alive_any _).mono ?_
      rintro r w1 ⟨rfl, hb⟩
      go_wp2_with fail
      go_ret
      exact ⟨rfl, hb⟩

end Go.Proofs.Ytlinmnlfcboicaa
