/- Law CodecShort: the walk. Own work. -/
import Derived.Test.YtlinmnlfcboicaaAlive
namespace Go.Proofs.Ytlinmnlfcboicaa
set_option linter.unusedVariables false
open Go.RowKit

theorem numS_bad (s : ByteArray) {e : Int} (he : e ≠ 0) : numS s e = (0, s, e) := if_neg he
theorem rawS_bad (s : ByteArray) {e : Int} (n : Int) (he : e ≠ 0) : rawS s e n = (.empty, s, e) := if_neg he
theorem textS_bad (s : ByteArray) {e : Int} (he : e ≠ 0) : textS s e = (.empty, s, e) := by
  unfold textS
  rw [numS_bad s he]
  exact rawS_bad s 0 he

theorem numS_cut (n k : Nat) (hn : n < 9223372036854775808) (hk : k < (enc n).length) : numS ⟨((enc n).take k).toArray⟩ 0 = (0, .empty, 2) := by
  unfold numS
  rw [if_pos rfl]
  have hd := dec_cut n 0 0 k (by have := enc_le n hn; omega) hk
  simp only [hd]
  rfl

/-- What is cut off anywhere is too short. -/
theorem short_text (n : Nat) (hn : n < 9223372036854775808) (s : ByteArray) (hs : s.size < 9223372036854775808) (k : Nat) (hk : k < (enc n ++ (enc s.size ++ s.data.toList)).length) :
    textS (numS ⟨((enc n ++ (enc s.size ++ s.data.toList)).take k).toArray⟩ 0).2.1 (numS ⟨((enc n ++ (enc s.size ++ s.data.toList)).take k).toArray⟩ 0).2.2 = (.empty, .empty, 2) := by
  have es := Lib.size_eq s
  simp only [List.length_append] at hk
  by_cases h1 : k < (enc n).length
  · rw [List.take_append_of_le_length (by omega), numS_cut n k hn h1]
    exact textS_bad .empty (by decide)
  · rw [List.take_append, List.take_of_length_le (by omega), numS_enc n _ hn]
    generalize hj : k - (enc n).length = j
    by_cases h2 : j < (enc s.size).length
    · rw [List.take_append_of_le_length (by omega)]
      unfold textS
      simp only [numS_cut s.size j hs h2]
      exact rawS_bad .empty 0 (by decide)
    · rw [List.take_append, List.take_of_length_le (by omega)]
      unfold textS
      simp only [numS_enc s.size _ hs]
      unfold rawS
      rw [if_pos rfl, if_neg (by omega), if_pos (by rw [size_mk, List.length_take]; omega)]

theorem short_bytes (n : Nat) (s : ByteArray) : textsO (numsO [] 0 [(n : Int)]).1 (numsO [] 0 [(n : Int)]).2 [s] = (enc n ++ (enc s.size ++ s.data.toList), 0) := by
  rw [numsO_one, textsO_one]
  rfl

set_option maxRecDepth 100000 in
set_option maxHeartbeats 1600000 in
theorem short_good (n c : Nat) (hn : n < 9223372036854775808) (hc : c < 9223372036854775808) (s : ByteArray) (hs : s.size ≤ 500) (w : World) :
    Calls Try.prog 7 #[.int .i64 n, .string s, .int .i64 c] w fun e w' => e = .returned (.bool true) ∧ Below w.heap.size w w' := by
  have hn0 : (n : Int) ≤ 9223372036854775807 := by omega
  have hc0 : (c : Int) ≤ 9223372036854775807 := by omega
  have ln := enc_le n hn
  have ls := enc_le s.size (by omega)
  have es := Lib.hid (Lib.size_eq s)
  go_enter Try.func7, Try.ntmps7
  go_wp2_with fail
  refine (alive_any _).mono ?_
  rintro r w1 ⟨rfl, hb⟩
  have H1 := Lib.hid (OutIs.new hb)
  clear hb
  go_wp2_with fail
  refine (isNum H1.out [(n : Int)] (by simp) rfl (by simp; omega) (by simp)).mono ?_
  rintro r w2 ⟨rfl, h1⟩
  have H2 := Lib.hid h1
  clear h1 H1
  go_wp2_with fail
  refine (isText H2.out [s] (n := 1) rfl rfl (by rw [numsO_one, sum_one]; simp; omega)).mono ?_
  rintro r w3 ⟨rfl, h1⟩
  rw [short_bytes] at h1
  have H3 := Lib.hid h1
  clear h1 H2
  obtain ⟨X, hX⟩ : ∃ X, X = enc n ++ (enc s.size ++ s.data.toList) := ⟨_, rfl⟩
  have hXl : X.length ≤ 600 := by rw [hX]; simp only [List.length_append, ← es.out]; omega
  have hE := isEnd H3.out
  rw [← hX] at hE
  have HX := Lib.hid hX
  have HE := Lib.hid hE
  clear hX hE
  go_wp2_with fail
  refine HE.out.mono ?_
  rintro r w6 ⟨rfl, nq, rfl⟩
  have H6 := Lib.hid (H3.out.drewN nq).below
  clear H3 HE
  obtain ⟨K, hK⟩ : ∃ K, K = c % (X.length + 1) := ⟨_, rfl⟩
  have hKl : K ≤ X.length := by have := Nat.mod_lt c (show 0 < X.length + 1 by omega); omega
  have hk : ((c : Int) % ((X.length : Int) + 1)) = (K : Int) := by rw [hK]; simp
  clear hK
  go_wp2_with fail
  rw [extract_mk, List.drop_zero]
  refine (inOn H6.out _).mono ?_
  rintro r w7 ⟨rfl, h1⟩
  have k1 := inNum h1 (by rw [size_mk, List.length_take]; omega)
  by_cases hKX : K = X.length
  · subst hKX
    rw [List.take_of_length_le (Nat.le_refl _), HX.out, numS_enc n _ hn] at k1
    have K1 := Lib.hid k1
    have hkb : ((c : Int) % ((X.length : Int) + 1) == (X.length : Int)) = true := by rw [hk]; simp
    clear k1 H6 h1 hk
    go_wp2_with fail
    refine K1.out.mono ?_
    rintro r w8 ⟨rfl, h1⟩
    have k1 := inText h1 (by rw [size_mk]; have := congrArg List.length HX.out; simp only [List.length_append] at this ⊢; omega)
    have ht := textS_text s [] (by omega)
    rw [List.append_nil] at ht
    rw [ht] at k1
    have K2 := Lib.hid k1
    clear k1 K1 h1 ht
    go_wp2_with fail
    refine K2.out.mono ?_
    rintro r w9 ⟨rfl, h1⟩
    have k1 := inEnd h1 (by simp [size_mk])
    have K3 := Lib.hid k1
    clear k1 K2 h1
    go_wp2_with fail
    refine K3.out.mono ?_
    rintro r w10 ⟨rfl, h1⟩
    have H9 := Lib.hid h1.2.1
    clear h1 K3
    go_wp2_with fail
    go_ret
    exact ⟨rfl, H9.out⟩
  · have hkb : ((c : Int) % ((X.length : Int) + 1) == (X.length : Int)) = false := by rw [hk]; simp; omega
    have hst := short_text n hn s (by omega) K (by rw [← HX.out]; omega)
    rw [← HX.out] at hst
    obtain ⟨u, s1, e1, hu⟩ : ∃ u s1 e1, numS ⟨(X.take K).toArray⟩ 0 = (u, s1, e1) := ⟨_, _, _, rfl⟩
    have hsz : (numS ⟨(X.take K).toArray⟩ 0).2.1.size ≤ 600 := Nat.le_trans (numS_size _ _) (by rw [size_mk, List.length_take]; omega)
    rw [hu] at k1 hst hsz
    have K1 := Lib.hid k1
    have ST := Lib.hid hst
    have hsz2 : s1.size ≤ 600 := hsz
    clear k1 H6 h1 hu hsz hst hKX hk
    go_wp2_with fail
    refine K1.out.mono ?_
    rintro r w8 ⟨rfl, h1⟩
    have k1 := inText h1 (by show s1.size ≤ _; omega)
    rw [ST.out] at k1
    have K2 := Lib.hid k1
    clear k1 K1 h1
    go_wp2_with fail
    refine K2.out.mono ?_
    rintro r w9 ⟨rfl, h1⟩
    have k1 := inLeft h1 (by decide)
    have k2 := inEnd h1 (by decide)
    have K3 := Lib.hid k1
    have K4 := Lib.hid k2
    clear k1 k2 K2 h1
    go_wp2_with fail
    refine K3.out.mono ?_
    rintro r w10 ⟨rfl, rfl⟩
    go_wp2_with fail
    refine K4.out.mono ?_
    rintro r w11 ⟨rfl, h1⟩
    have K5 := Lib.hid (inEnd h1 (by decide))
    clear h1 K4
    go_wp2_with fail
    refine K5.out.mono ?_
    rintro r w12 ⟨rfl, h1⟩
    have H9 := Lib.hid h1.2.1
    clear h1 K5
    go_wp2_with fail
    go_ret
    exact ⟨rfl, H9.out⟩

set_option maxRecDepth 100000 in
set_option maxHeartbeats 1600000 in
theorem walk_CodecShort (a0 : Int) (w0 : (Lit.int .i64 a0).wf = true) (a1 : ByteArray) (w1 : a1.size ≤ maxLen) (a2 : Int) (w2 : (Lit.int .i64 a2).wf = true) (w : World) :
    Calls Try.prog 7 #[.int .i64 a0, .string a1, .int .i64 a2] w fun e w' => e = .returned (.bool true) ∧ Below w.heap.size w w' := by
  have b0 : -9223372036854775808 ≤ a0 ∧ a0 ≤ 9223372036854775807 := by simpa [Lit.wf, IntKind.min, IntKind.max, IntKind.signed, IntKind.bits] using w0
  have b2 : -9223372036854775808 ≤ a2 ∧ a2 ≤ 9223372036854775807 := by simpa [Lit.wf, IntKind.min, IntKind.max, IntKind.signed, IntKind.bits] using w2
  obtain ⟨b0, b0'⟩ := b0
  obtain ⟨b2, b2'⟩ := b2
  clear w0 w2
  unfold maxLen at w1
  by_cases hgood : a1.size ≤ 500 ∧ 0 ≤ a0 ∧ 0 ≤ a2
  · obtain ⟨g1, g2, g3⟩ := hgood
    obtain ⟨m, rfl⟩ := Int.eq_ofNat_of_zero_le g2
    obtain ⟨n, rfl⟩ := Int.eq_ofNat_of_zero_le g3
    exact short_good m n (by omega) (by omega) a1 g1 w
  · have hcase : 500 < a1.size ∨ (a1.size ≤ 500 ∧ a0 < 0) ∨ (a1.size ≤ 500 ∧ 0 ≤ a0 ∧ a2 < 0) := by omega
    clear hgood
    rcases hcase with h | ⟨h, h2⟩ | ⟨h, h2, h3⟩
    all_goals
      go_enter Try.func7, Try.ntmps7
      go_wp2_with fail
      refine (alive_any _).mono ?_
      rintro r w1 ⟨rfl, hb⟩
      go_wp2_with fail
      go_ret
      exact ⟨rfl, hb⟩

end Go.Proofs.Ytlinmnlfcboicaa
