/- The document's own reader (pontoonref1.In): it reads what codec.In reads. Own work. -/
import Derived.Test.YtihdiijnidcgkaaCodec
namespace Go.Proofs.Ytihdiijnidcgkaa
set_option linter.unusedVariables false
set_option linter.unusedSimpArgs false
open Go.RowKit

/-- How many bytes go on. -/
def cnt : List UInt8 → Nat
  | [] => 0
  | b :: r => if 128 ≤ b.toNat then cnt r + 1 else 0
/-- The number that bytes make, the lowest first. -/
def val : List UInt8 → Nat
  | [] => 0
  | b :: r => b.toNat % 128 + 128 * val r

theorem cnt_on {b : UInt8} {r : List UInt8} (h : 128 ≤ b.toNat) : cnt (b :: r) = cnt r + 1 := if_pos h
theorem cnt_off {b : UInt8} {r : List UInt8} (h : b.toNat < 128) : cnt (b :: r) = 0 := if_neg (by omega)
theorem cnt_le (l : List UInt8) : cnt l ≤ l.length := by
  induction l with
  | nil => simp [cnt]
  | cons b r ih =>
    by_cases h : 128 ≤ b.toNat
    · rw [cnt_on h]; simp; exact ih
    · rw [cnt_off (by omega)]; simp
theorem val_lt (l : List UInt8) : val l < 128 ^ l.length := by
  induction l with
  | nil => simp [val]
  | cons b r ih =>
    simp only [val, List.length_cons, Nat.pow_succ]
    have : b.toNat % 128 < 128 := Nat.mod_lt _ (by omega)
    omega

/-- The reading by counting says what the reading byte by byte says. -/
theorem dec_ref (l : List UInt8) : ∀ k m, k ≤ 9 → dec k m l =
    if 8 < k + cnt l ∧ 9 < k + l.length then (0, 0, 3) else if cnt l = l.length then (0, 0, 2) else if 0 < k + cnt l ∧ (l.getD (cnt l) 0).toNat = 0 then (0, 0, 3) else (m + 128 ^ k * val (l.take (cnt l + 1)), k + cnt l + 1, 0) := by
  induction l with
  | nil =>
    intro k m hk
    have h1 : ¬ (8 < k + cnt ([] : List UInt8) ∧ 9 < k + ([] : List UInt8).length) := by simp [cnt]; omega
    rw [if_neg h1, if_pos (by simp [cnt])]
    rfl
  | cons b r ih =>
    intro k m hk
    by_cases h9 : k = 9
    · subst h9
      rw [dec_nine, if_pos (by simp; omega)]
    · by_cases hb : 128 ≤ b.toNat
      · rw [dec_on h9 hb, ih (k + 1) _ (by omega), cnt_on hb]
        have e0 : k + 1 + cnt r = k + (cnt r + 1) := by omega
        have e1 : k + 1 + r.length = k + (b :: r).length := by simp; omega
        rw [e0, e1]
        have e2 : (cnt r = r.length) ↔ (cnt r + 1 = (b :: r).length) := by simp
        have e3 : (b :: r).getD (cnt r + 1) 0 = r.getD (cnt r) 0 := by simp
        rw [e3]
        have e4 : m + b.toNat % 128 * 128 ^ k + 128 ^ (k + 1) * val (r.take (cnt r + 1)) = m + 128 ^ k * val ((b :: r).take (cnt r + 1 + 1)) := by
          rw [List.take_succ_cons]
          simp only [val, Nat.pow_succ, Nat.mul_add]
          rw [Nat.mul_comm (b.toNat % 128), Nat.mul_assoc]
          omega
        rw [e4]
        by_cases c1 : 8 < k + (cnt r + 1) ∧ 9 < k + (b :: r).length
        · rw [if_pos c1, if_pos c1]
        · rw [if_neg c1, if_neg c1]
          by_cases c2 : cnt r = r.length
          · rw [if_pos c2, if_pos (e2.1 c2)]
          · rw [if_neg c2, if_neg (fun h => c2 (e2.2 h))]
      · have hc := cnt_off (r := r) (show b.toNat < 128 by omega)
        rw [hc, if_neg (by omega), if_neg (by simp)]
        by_cases hz : b.toNat = 0 ∧ 0 < k
        · rw [dec_zero h9 hz.1 hz.2, if_pos (by simp [hz.1]; exact hz.2)]
        · rw [dec_end h9 (by omega) (by omega), if_neg (by simp; omega)]
          simp [val, Nat.mul_comm]

/-- The document's reader behind a pointer. -/
def RefAt (w : World) (p : Nat) (s : ByteArray) (e : Int) : Prop := w.heap[p]? = some (.cells #[.string s, .int .i64 e] 38 (0, 0))
namespace RefAt
variable {w w' : World} {p : Nat} {s : ByteArray} {e : Int}
theorem lt (h : RefAt w p s e) : p < w.heap.size := lt_heap h
theorem c0 (h : RefAt w p s e) : w.cell? ⟨p, 0, none⟩ = some (.string s) := cell_at h 0
theorem c1 (h : RefAt w p s e) : w.cell? ⟨p, 1, none⟩ = some (.int .i64 e) := cell_at h 1
theorem fr (h : RefAt w p s e) (i : Nat) : w.frozen? ⟨p, i, none⟩ = false := free_at h i
theorem keep {S : Nat → Prop} (h : RefAt w p s e) (k : Keep S w w') (hn : ¬ S p) : RefAt w' p s e := k.heap h hn
theorem set0 (h : RefAt w p s e) (t : ByteArray) : RefAt (w.setCell ⟨p, 0, none⟩ (.string t)) p t e := heap_set h 0 _
theorem set1 (h : RefAt w p s e) (f : Int) : RefAt (w.setCell ⟨p, 1, none⟩ (.int .i64 f)) p s f := heap_set h 1 _
end RefAt

/-- Behind a call: the same error; the same rest, where there is none. -/
def RefTo (p : Nat) (w : World) (s : ByteArray) (e : Int) (w' : World) : Prop := ∃ t, RefAt w' p t e ∧ (e = 0 → t = s) ∧ Keep (· = p) w w'

theorem ref_err {w : World} {p : Nat} {s t : ByteArray} {e f : Int} (h : RefAt w p s e) (hf : f ≠ 0) : RefTo p w t f (w.setCell ⟨p, 1, none⟩ (.int .i64 f)) :=
  ⟨s, h.set1 f, fun x => absurd x hf, keep_set w p 1 _⟩
theorem ref_rest {w : World} {p : Nat} {s t : ByteArray} (h : RefAt w p s 0) : RefTo p w t 0 (w.setCell ⟨p, 0, none⟩ (.string t)) :=
  ⟨t, h.set0 t, fun _ => rfl, keep_set w p 0 _⟩

theorem getD_at (s : ByteArray) (k : Nat) (h : k < s.size) : s.data.toList.getD k 0 = s[k] := by
  rw [List.getD_eq_getElem?_getD, List.getElem?_eq_getElem (by simpa using h)]
  rfl

set_option maxRecDepth 100000 in
set_option maxHeartbeats 3200000 in
theorem refnum_ok (p : Nat) (s : ByteArray) (w : World) (h : RefAt w p s 0) (hs : s.size ≤ 281474976710656) :
    Calls Try.prog 36 #[.pointer (some ⟨p, 0, none⟩)] w fun r w' => r = .returned (.int .i64 (numS s 0).1) ∧ RefTo p w (numS s 0).2.1 (numS s 0).2.2 w' := by
  have c0 := h.c0
  have c1 := h.c1
  have f0 := h.fr 0
  have f1 := h.fr 1
  have HR := Lib.hid h
  clear h
  have hls : s.data.toList.length = s.size := by simp
  have HD := Lib.hid (dec_ref s.data.toList 0 0 (by omega))
  have HL := Lib.hid hls
  clear hls
  go_enter Try.func36, Try.ntmps36
  go_wp2_with fail
  go_loop [3] (fun a => ∃ j : Nat, a = .int .i64 j ∧ j ≤ s.size ∧ Hid (j + cnt (s.data.toList.drop j) = cnt s.data.toList)) (fun a => s.size - (intOf a).toNat)
  case atStart => exact ⟨0, rfl, by omega, by show _ = _; simp⟩
  case round =>
    obtain ⟨j, rfl, hj, hc⟩ := hrel
    by_cases hon : ∃ hlt : j < s.size, 128 ≤ s[j].toNat
    · obtain ⟨hlt, hb⟩ := hon
      have H1 := Lib.hid (drop_at s j hlt)
      go_wp2_with fail
      go_round
      case rel =>
        have h2 := hc.out
        rw [H1.out, cnt_on hb] at h2
        have h3 : j + 1 + cnt (s.data.toList.drop (j + 1)) = cnt s.data.toList := by omega
        exact ⟨j + 1, by go_num, by omega, h3⟩
      case measure => simp [intOf]; omega
    · have hcnt : cnt s.data.toList = j := by
        rw [← hc.out]
        by_cases hlt : j < s.size
        · rw [drop_at s j hlt, cnt_off]
          · rfl
          · have : ¬ 128 ≤ s[j].toNat := fun x => hon ⟨hlt, x⟩
            omega
        · rw [List.drop_of_length_le (by rw [HL.out]; omega)]; rfl
      have hd := HD.out
      rw [hcnt, HL.out, Nat.zero_add, Nat.zero_add] at hd
      have HD2 := Lib.hid hd
      clear hd HD hcnt hc
      have hnum : ∀ x, dec 0 0 s.data.toList = x → numS s 0 = if x.2.2 = 0 then ((x.1 : Int), s.extract x.2.1 s.size, 0) else (0, .empty, x.2.2) := fun x hx => by
        rw [numS, if_pos rfl, hx]
      have HN := Lib.hid hnum
      clear hnum
      by_cases hlt : j < s.size
      · have hb : s[j].toNat < 128 := by
          have : ¬ 128 ≤ s[j].toNat := fun x => hon ⟨hlt, x⟩
          omega
        clear hon
        by_cases k1 : 8 < j ∧ 9 < s.size
        · have hd := HD2.out
          rw [if_pos k1] at hd
          have hn := HN.out _ hd
          have hn2 : numS s 0 = (0, .empty, 3) := by rw [hn]; simp
          obtain ⟨k11, k12⟩ := k1
          have HF := Lib.hid (ref_err (t := .empty) (f := 3) HR.out (by decide))
          have HN2 := Lib.hid hn2
          clear hd hn hn2
          go_wp2_with fail
          go_ret
          rw [HN2.out]
          exact ⟨rfl, HF.out⟩
        · by_cases k3 : 0 < j ∧ s[j].toNat = 0
          · have hd := HD2.out
            rw [if_neg k1, if_neg (by omega), if_pos (by rw [getD_at s j hlt]; exact k3)] at hd
            have hn := HN.out _ hd
            have hn2 : numS s 0 = (0, .empty, 3) := by rw [hn]; simp
            obtain ⟨k31, k32⟩ := k3
            have HF := Lib.hid (ref_err (t := .empty) (f := 3) HR.out (by decide))
            have HN2 := Lib.hid hn2
            clear hd hn hn2
            have hjs : ((j : Int) == (s.size : Int)) = false := by simp; omega
            by_cases k8 : 8 < j
            · have hs9 : s.size ≤ 9 := by omega
              omega
            · clear k1
              go_wp2_with fail
              go_ret
              rw [HN2.out]
              exact ⟨rfl, HF.out⟩
          · have hd := HD2.out
            rw [if_neg k1, if_neg (by omega), if_neg (by rw [getD_at s j hlt]; exact k3)] at hd
            have hn := HN.out _ hd
            have hj8 : j ≤ 8 := by omega
            have hn2 : numS s 0 = (((val (s.data.toList.take (j + 1)) : Nat) : Int), s.extract (j + 1) s.size, 0) := by rw [hn]; simp
            have HF := Lib.hid (ref_rest (t := s.extract (j + 1) s.size) HR.out)
            have HN2 := Lib.hid hn2
            have hjs : ((j : Int) == (s.size : Int)) = false := by simp; omega
            clear hd hn hn2 k1 HD2 HN
            have hcase : j < 1 ∨ (0 < j ∧ (((s[j].toNat : Int)) == 0) = false) := by
              rcases Nat.eq_zero_or_pos j with e | e
              · exact .inl (by omega)
              · right; exact ⟨e, by simp; omega⟩
            clear k3
            have hlen : (s.data.toList.take (j + 1)).length = j + 1 := by rw [List.length_take, HL.out]; omega
            have HLT := Lib.hid hlen
            clear hlen
            rcases hcase with hz | ⟨hz, hz2⟩
            all_goals
              go_wp2_with fail
              go_loop [4, 5] (fun v i => ∃ q : Int, -1 ≤ q ∧ q ≤ j ∧ i = .int .i64 q ∧ v = .int .i64 (val ((s.data.toList.take (j + 1)).drop (q + 1).toNat))) (fun _ i => (intOf i + 1).toNat)
              case atStart => exact ⟨j, by omega, by omega, rfl, by rw [List.drop_of_length_le (by rw [HLT.out]; omega)]; rfl⟩
              case round =>
                obtain ⟨q, hq0, hq1, rfl, rfl⟩ := hrel
                by_cases hqn : q < 0
                · obtain rfl : q = -1 := by omega
                  go_wp2_with fail
                  go_ret
                  rw [HN2.out]
                  exact ⟨rfl, HF.out⟩
                · obtain ⟨t, rfl⟩ := Int.eq_ofNat_of_zero_le (show 0 ≤ q from by omega)
                  have htl : t < s.size := by omega
                  have e0 : ((t : Int) + 1).toNat = t + 1 := by omega
                  have hvl := val_lt ((s.data.toList.take (j + 1)).drop (t + 1))
                  rw [List.length_drop, HLT.out] at hvl
                  have hvl2 : 128 ^ (j + 1 - (t + 1)) ≤ 128 ^ 8 := Nat.pow_le_pow_right (by omega) (by omega)
                  have hstep : val ((s.data.toList.take (j + 1)).drop t) = s[t].toNat % 128 + 128 * val ((s.data.toList.take (j + 1)).drop (t + 1)) := by
                    have hi : t < (s.data.toList.take (j + 1)).length := by rw [HLT.out]; omega
                    rw [List.drop_eq_getElem_cons hi]
                    simp only [val, List.getElem_take]
                    rfl
                  have HST := Lib.hid hstep
                  rw [e0]
                  have hvm : val ((s.data.toList.take (j + 1)).drop (t + 1)) ≤ 72057594037927935 := by omega
                  generalize val ((s.data.toList.take (j + 1)).drop (t + 1)) = V at *
                  have hV1 : (V : Int) ≤ 72057594037927935 := by omega
                  clear hstep hvl hvl2 e0 hvm hb hz hjs
                  try clear hz2
                  go_wp2_with fail
                  go_round
                  case rel =>
                    refine ⟨(t : Int) - 1, by omega, by omega, by go_num, ?_⟩
                    rw [show ((t : Int) - 1 + 1).toNat = t from by omega, HST.out]
                    exact congrArg (Value.int IntKind.i64) (by omega)
                  case measure => first | (simp [intOf]; done) | (simp [intOf]; omega)
      · have hjl : j = s.size := by omega
        clear hon
        by_cases k1 : 8 < j ∧ 9 < s.size
        · have hd := HD2.out
          rw [if_pos k1] at hd
          have hn := HN.out _ hd
          have hn2 : numS s 0 = (0, .empty, 3) := by rw [hn]; simp
          obtain ⟨k11, k12⟩ := k1
          have HF := Lib.hid (ref_err (t := .empty) (f := 3) HR.out (by decide))
          have HN2 := Lib.hid hn2
          clear hd hn hn2 hjl
          go_wp2_with fail
          go_ret
          rw [HN2.out]
          exact ⟨rfl, HF.out⟩
        · have hd := HD2.out
          rw [if_neg k1, if_pos hjl] at hd
          have hn := HN.out _ hd
          have hn2 : numS s 0 = (0, .empty, 2) := by rw [hn]; simp
          have HF := Lib.hid (ref_err (t := .empty) (f := 2) HR.out (by decide))
          have HN2 := Lib.hid hn2
          have hjs : ((j : Int) == (s.size : Int)) = true := by rw [hjl]; simp
          have hcase : j ≤ 8 ∨ (8 < j ∧ s.size ≤ 9) := by omega
          clear hd hn hn2 hjl k1
          rcases hcase with h1 | ⟨h1, h2⟩
          all_goals
            go_wp2_with fail
            go_ret
            rw [HN2.out]
            exact ⟨rfl, HF.out⟩

set_option maxRecDepth 100000 in
set_option maxHeartbeats 400000 in
theorem refnum_bad (p : Nat) (s : ByteArray) (e : Int) (w : World) (h : RefAt w p s e) (he : e ≠ 0) :
    Calls Try.prog 36 #[.pointer (some ⟨p, 0, none⟩)] w fun r w' => r = .returned (.int .i64 0) ∧ w = w' := by
  have c1 := h.c1
  have h1 : (e != 0) = true := by simpa using he
  clear h he
  go_enter Try.func36, Try.ntmps36
  go_wp2
  go_ret
  exact ⟨rfl, rfl⟩

theorem refnum_any (p : Nat) (s t : ByteArray) (e : Int) (w : World) (h : RefAt w p t e) (ht : e = 0 → t = s) (hs : s.size ≤ 281474976710656) :
    Calls Try.prog 36 #[.pointer (some ⟨p, 0, none⟩)] w fun r w' => r = .returned (.int .i64 (numS s e).1) ∧ RefTo p w (numS s e).2.1 (numS s e).2.2 w' := by
  by_cases he : e = 0
  · subst he
    obtain rfl := ht rfl
    exact refnum_ok p t w h hs
  · refine (refnum_bad p t e w h he).mono fun r w' ⟨hr, hw⟩ => ?_
    subst hw
    rw [show numS s e = (0, s, e) from if_neg he]
    exact ⟨hr, t, h, fun x => absurd x he, Keep.refl _ _⟩

set_option maxRecDepth 100000 in
set_option maxHeartbeats 800000 in
theorem refraw_any (p : Nat) (s t : ByteArray) (e n : Int) (w : World) (h : RefAt w p t e) (ht : e = 0 → t = s) (hs : s.size ≤ 281474976710656) :
    Calls Try.prog 52 #[.pointer (some ⟨p, 0, none⟩), .int .i64 n] w fun r w' => r = .returned (.string (rawS s e n).1) ∧ RefTo p w (rawS s e n).2.1 (rawS s e n).2.2 w' := by
  have c0 := h.c0
  have c1 := h.c1
  have f0 := h.fr 0
  have f1 := h.fr 1
  by_cases he : e = 0
  · subst he
    obtain rfl := ht rfl
    clear ht
    by_cases hn : n < 0
    · have HN := Lib.hid (show rawS t 0 n = (.empty, .empty, 1) from by simp [rawS, hn])
      have HF := Lib.hid (ref_err (t := .empty) (f := 1) h (by decide))
      clear h
      go_enter Try.func52, Try.ntmps52
      go_wp2_with fail
      go_ret
      rw [HN.out]
      exact ⟨rfl, HF.out⟩
    · by_cases hl : t.size < n
      · have HN := Lib.hid (show rawS t 0 n = (.empty, .empty, 2) from by simp [rawS, hn, hl])
        have HF := Lib.hid (ref_err (t := .empty) (f := 2) h (by decide))
        clear h
        go_enter Try.func52, Try.ntmps52
        go_wp2_with fail
        go_ret
        rw [HN.out]
        exact ⟨rfl, HF.out⟩
      · obtain ⟨k, rfl⟩ := Int.eq_ofNat_of_zero_le (show 0 ≤ n from by omega)
        have HN := Lib.hid (show rawS t 0 k = (t.extract 0 k, t.extract k t.size, 0) from by rw [rawS, if_pos rfl, if_neg (by omega), if_neg (by omega), Int.toNat_natCast])
        have HF := Lib.hid (ref_rest (t := t.extract k t.size) h)
        have hkl : k ≤ t.size := by omega
        clear h hn hl
        go_enter Try.func52, Try.ntmps52
        go_wp2_with fail
        go_ret
        rw [HN.out]
        exact ⟨rfl, HF.out⟩
  · have HN := Lib.hid (show rawS s e n = (.empty, s, e) from if_neg he)
    have HF : Hid (RefTo p w s e w) := ⟨t, h, fun x => absurd x he, Keep.refl _ _⟩
    have h1 : (e != 0) = true := by simpa using he
    clear h ht he
    go_enter Try.func52, Try.ntmps52
    go_wp2_with fail
    go_ret
    rw [HN.out]
    exact ⟨rfl, HF.out⟩

theorem RefTo.trans {p : Nat} {w w1 w2 : World} {s : ByteArray} {e : Int} (k : Keep (· = p) w w1) (h : RefTo p w1 s e w2) : RefTo p w s e w2 := by
  obtain ⟨t, h1, h2, h3⟩ := h
  exact ⟨t, h1, h2, k.trans h3 fun _ _ x => x⟩

set_option maxRecDepth 100000 in
set_option maxHeartbeats 400000 in
theorem refbyte_any (p : Nat) (s t : ByteArray) (e : Int) (w : World) (h : RefAt w p t e) (ht : e = 0 → t = s) (hs : s.size ≤ 281474976710656) :
    Calls Try.prog 37 #[.pointer (some ⟨p, 0, none⟩)] w fun r w' => r = .returned (.int .i64 (byteS s e).1) ∧ RefTo p w (byteS s e).2.1 (byteS s e).2.2 w' := by
  have HI := Lib.hid h
  have HT := Lib.hid ht
  clear h ht
  go_enter Try.func37, Try.ntmps37
  go_wp2_with fail
  refine (refraw_any p s t e 1 _ HI.out HT.out hs).mono ?_
  rintro r w1 ⟨rfl, h1⟩
  have H1 := Lib.hid h1
  clear h1
  have HB : Hid ((byteS s e).1 = (((rawS s e 1).1.data.toList.headD 0).toNat : Int)) := rfl
  generalize (rawS s e 1).1 = x at *
  by_cases h0 : x.size = 0
  · have hx := is_empty h0
    subst hx
    go_wp2
    go_ret
    exact ⟨ret1 (by rw [HB.out]; rfl), H1.out⟩
  · have h1 := not_empty h0
    have h2 : 0 < x.size := by omega
    have H3 := Lib.hid (head_at x h2)
    have h4 := x[0].toNat_lt
    clear h0
    go_wp2
    go_ret
    exact ⟨ret1 (by rw [HB.out, H3.out]), H1.out⟩

end Go.Proofs.Ytihdiijnidcgkaa
