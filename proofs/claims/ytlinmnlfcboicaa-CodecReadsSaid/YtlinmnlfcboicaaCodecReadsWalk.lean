/- Law CodecReads: the walk. Own work. -/
import Derived.Test.YtlinmnlfcboicaaLight
import Derived.Test.YtlinmnlfcboicaaRefIn
namespace Go.Proofs.Ytlinmnlfcboicaa
set_option linter.unusedVariables false
open Go.RowKit

/-- Both readers read the same. -/
def Both (w0 : World) (pg pr : Nat) (s : ByteArray) (e : Int) (w : World) : Prop :=
  InAt w pg s e ∧ (∃ t, RefAt w pr t e ∧ (e = 0 → t = s)) ∧ (e ≠ 0 → s.size = 0) ∧ pg ≠ pr ∧ Below w0.heap.size w0 w ∧ w0.heap.size ≤ pg ∧ w0.heap.size ≤ pr

namespace Both
variable {w0 w w1 w2 : World} {pg pr : Nat} {s s' : ByteArray} {e e' : Int}
theorem below (h : Both w0 pg pr s e w) : Below w0.heap.size w0 w := h.2.2.2.2.1
theorem drew (h : Both w0 pg pr s e w) : Both w0 pg pr s e w.drew := ⟨h.1, h.2.1, h.2.2.1, h.2.2.2.1, h.below.drew, h.2.2.2.2.2⟩
/-- One call on each. -/
theorem step (h : Both w0 pg pr s e w) (h1 : InAt w1 pg s' e') (k1 : Keep (· = pg) w w1) (h2 : RefTo pr w1 s' e' w2) (hz : e' ≠ 0 → s'.size = 0) : Both w0 pg pr s' e' w2 := by
  obtain ⟨_, _, _, hne, hb, hg, hr⟩ := h
  obtain ⟨t, h3, h4, k2⟩ := h2
  have hs := hb.size
  refine ⟨h1.keep k2 hne, ⟨t, h3, h4⟩, hz, hne, (hb.trans (k1.below hs fun k hk e => by omega)).trans (k2.below (Nat.le_trans hs k1.size) fun k hk e => by omega), hg, hr⟩
theorem ref (h : Both w0 pg pr s e w) (k1 : Keep (· = pg) w w1) : ∃ t, RefAt w1 pr t e ∧ (e = 0 → t = s) := by
  obtain ⟨_, ⟨t, h3, h4⟩, _, hne, _⟩ := h
  exact ⟨t, h3.keep k1 (fun x => hne x.symm), h4⟩
end Both

theorem empty_size : (ByteArray.empty).size = 0 := rfl

theorem numS_zero (s : ByteArray) (e : Int) (h : e ≠ 0 → s.size = 0) : (numS s e).2.2 ≠ 0 → (numS s e).2.1.size = 0 := by
  unfold numS
  split
  · split
    · intro x; exact absurd rfl x
    · intro _; rfl
  · exact h
theorem rawS_zero (s : ByteArray) (e n : Int) (h : e ≠ 0 → s.size = 0) : (rawS s e n).2.2 ≠ 0 → (rawS s e n).2.1.size = 0 := by
  unfold rawS
  split
  · split
    · intro _; rfl
    · split
      · intro _; rfl
      · intro x; exact absurd rfl x
  · exact h
theorem textS_zero (s : ByteArray) (e : Int) (h : e ≠ 0 → s.size = 0) : (textS s e).2.2 ≠ 0 → (textS s e).2.1.size = 0 := rawS_zero _ _ _ (numS_zero s e h)
theorem byteS_zero (s : ByteArray) (e : Int) (h : e ≠ 0 → s.size = 0) : (byteS s e).2.2 ≠ 0 → (byteS s e).2.1.size = 0 := rawS_zero s e 1 h
theorem rawS_size (s : ByteArray) (e n : Int) : (rawS s e n).2.1.size ≤ s.size := by
  unfold rawS
  split
  · split
    · simp
    · split
      · simp
      · simp
  · simp
theorem textS_size (s : ByteArray) (e : Int) : (textS s e).2.1.size ≤ s.size := Nat.le_trans (rawS_size _ _ _) (numS_size s e)
theorem byteS_size (s : ByteArray) (e : Int) : (byteS s e).2.1.size ≤ s.size := rawS_size s e 1

set_option maxRecDepth 100000 in
set_option maxHeartbeats 6400000 in
theorem reads_good (s : ByteArray) (A : Option Addr) (n cap : Nat) (ops : List OpV) (w : World) (hs : s.size ≤ 2000) (h : OpsAt w A n ops) :
    Calls Try.prog 4 #[.string s, .slice A n cap] w fun e w' => e = .returned (.bool true) ∧ Below w.heap.size w w' := by
  have HO := Lib.hid h
  have hm := h.2.1
  unfold maxLen at hm
  clear h
  go_enter Try.func4, Try.ntmps4
  go_wp2_with fail
  refine (light_any A n cap ops _ HO.out).mono ?_
  rintro r w1 ⟨⟨bb, rfl, hbb⟩, hb⟩
  have HB := Lib.hid hb
  clear hb
  cases bb with
  | false =>
    clear hbb
    go_wp2_with fail
    refine (alive_any _).mono ?_
    rintro r w2 ⟨rfl, hb⟩
    have H2 := Lib.hid (HB.out.trans (hb.mono HB.out.size))
    clear hb
    go_wp2_with fail
    go_ret
    exact ⟨rfl, H2.out⟩
  | true =>
    obtain ⟨hn40, _⟩ := hbb rfl
    clear hbb
    go_wp2_with fail
    refine (alive_any _).mono ?_
    rintro r w2 ⟨rfl, hb⟩
    have H2 := Lib.hid (HB.out.trans (hb.mono HB.out.size))
    clear hb HB
    go_wp2_with fail
    refine (inOn H2.out s).mono ?_
    rintro r w3 ⟨rfl, h3⟩
    have hB : Both w w2.heap.size w3.heap.size s 0 (w3.alloc (.cells #[.string s, .int .i64 0] 49)) := by
      have hlt := h3.1.lt
      exact ⟨heap_alloc h3.1 _, ⟨s, heap_alloc_new w3 _, fun _ => rfl⟩, fun x => absurd rfl x, by omega, h3.2.1.alloc h3.2.1.size _, h3.2.2, h3.2.1.size⟩
    have HB := Lib.hid hB
    clear hB h3 H2
    go_wp2_with fail
    go_loopw [7] (fun i wr => ∃ (k : Nat) (s2 : ByteArray) (e2 : Int), i = .int .i64 k ∧ k ≤ n ∧ s2.size ≤ 2000 ∧ Hid (Both w w2.heap.size w3.heap.size s2 e2 wr)) (fun i _ => n - (intOf i).toNat)
    case atStart => exact ⟨0, s, 0, rfl, by omega, hs, HB⟩
    case round =>
      obtain ⟨k, s2, e2, rfl, hk, hs2, H3⟩ := hrel
      have hbig : s2.size ≤ 281474976710656 := by omega
      by_cases hlt : k < n
      · obtain ⟨o, hok⟩ : ∃ o, ops[k]? = some o := ⟨ops[k]'(by rw [HO.out.1]; exact hlt), List.getElem?_eq_getElem _⟩
        obtain ⟨b, off, rfl, hbl, hc⟩ := HO.out.2.2 (by omega)
        obtain ⟨hK, hN, _, _, bk, bn⟩ := hc k o hok
        have hK0 := (H3.out.below.cell (p := ⟨b, off + k * 4, none⟩) hbl).trans hK
        have hN0 := (H3.out.below.cell (p := ⟨b, off + k * 4 + 1, none⟩) hbl).trans hN
        have HN1 := Lib.hid hN
        clear hK hN hc hok
        by_cases h1 : o.kind = 1
        · have hb1 : (o.kind == 1) = true := by simpa using h1
          clear h1
          go_wp2_with fail
          refine (innum_any _ s2 e2 _ H3.out.1 (by first | omega | (unfold maxLen; omega))).mono ?_
          rintro r wa ⟨rfl, h4, k4⟩
          obtain ⟨t2, h5, ht5⟩ := H3.out.ref k4
          have K5 := Lib.hid ((refnum_any w3.heap.size s2 t2 e2 wa h5 ht5 hbig).mono (fun r' w' hh => (⟨hh.1, Hid.out (Lib.hid (H3.out.step h4 k4 hh.2 (numS_zero s2 e2 H3.out.2.2.1)))⟩ : r' = _ ∧ Both w w2.heap.size w3.heap.size (numS s2 e2).2.1 (numS s2 e2).2.2 w')))
          have hsz : (numS s2 e2).2.1.size ≤ 2000 := Nat.le_trans (numS_size s2 e2) hs2
          clear h4 k4 h5 ht5 hK0 hN0
          generalize numS s2 e2 = X at *
          go_wp2_with fail
          refine K5.out.mono ?_
          rintro r wb ⟨rfl, h6⟩
          have H6 := Lib.hid h6
          clear h6 K5
          go_wp2_with fail
          refine (inleft_any _ _ _ _ H6.out.1 (by omega)).mono ?_
          rintro r wc ⟨rfl, rfl⟩
          obtain ⟨t3, h7, ht7⟩ := H6.out.2.1
          have K7 := Lib.hid (refleft_any w3.heap.size _ t3 _ wb h7 ht7 H6.out.2.2.1)
          clear h7 ht7
          go_wp2_with fail
          refine K7.out.mono ?_
          rintro r wd ⟨rfl, rfl⟩
          go_wp2_with fail
          go_roundw
          case rel => exact ⟨k + 1, _, _, by go_num, by omega, hsz, H6⟩
          case measure => simp [intOf]; omega
        · have hb1 : (o.kind == 1) = false := by simpa using h1
          by_cases h2 : o.kind = 2
          · have hb2 : (o.kind == 2) = true := by simpa using h2
            clear h1 h2
            go_wp2_with fail
            refine (inbyte_any _ s2 e2 _ H3.out.1 (by first | omega | (unfold maxLen; omega))).mono ?_
            rintro r wa ⟨rfl, h4, k4⟩
            obtain ⟨t2, h5, ht5⟩ := H3.out.ref k4
            have K5 := Lib.hid ((refbyte_any w3.heap.size s2 t2 e2 wa h5 ht5 hbig).mono (fun r' w' hh => (⟨hh.1, Hid.out (Lib.hid (H3.out.step h4 k4 hh.2 (byteS_zero s2 e2 H3.out.2.2.1)))⟩ : r' = _ ∧ Both w w2.heap.size w3.heap.size (byteS s2 e2).2.1 (byteS s2 e2).2.2 w')))
            have hsz : (byteS s2 e2).2.1.size ≤ 2000 := Nat.le_trans (byteS_size s2 e2) hs2
            clear h4 k4 h5 ht5 hK0 hN0
            generalize byteS s2 e2 = X at *
            go_wp2_with fail
            refine K5.out.mono ?_
            rintro r wb ⟨rfl, h6⟩
            have H6 := Lib.hid h6
            clear h6 K5
            go_wp2_with fail
            refine (inleft_any _ _ _ _ H6.out.1 (by omega)).mono ?_
            rintro r wc ⟨rfl, rfl⟩
            obtain ⟨t3, h7, ht7⟩ := H6.out.2.1
            have K7 := Lib.hid (refleft_any w3.heap.size _ t3 _ wb h7 ht7 H6.out.2.2.1)
            clear h7 ht7
            go_wp2_with fail
            refine K7.out.mono ?_
            rintro r wd ⟨rfl, rfl⟩
            go_wp2_with fail
            go_roundw
            case rel => exact ⟨k + 1, _, _, by go_num, by omega, hsz, H6⟩
            case measure => simp [intOf]; omega
          · have hb2 : (o.kind == 2) = false := by simpa using h2
            by_cases h3 : o.kind = 3
            · have hb3 : (o.kind == 3) = true := by simpa using h3
              clear h1 h2 h3
              go_wp2_with fail
              refine (intext_any _ s2 e2 _ H3.out.1 (by first | omega | (unfold maxLen; omega))).mono ?_
              rintro r wa ⟨rfl, h4, k4⟩
              obtain ⟨t2, h5, ht5⟩ := H3.out.ref k4
              have K5 := Lib.hid ((reftext_any w3.heap.size s2 t2 e2 wa h5 ht5 hbig).mono (fun r' w' hh => (⟨hh.1, Hid.out (Lib.hid (H3.out.step h4 k4 hh.2 (textS_zero s2 e2 H3.out.2.2.1)))⟩ : r' = _ ∧ Both w w2.heap.size w3.heap.size (textS s2 e2).2.1 (textS s2 e2).2.2 w')))
              have hsz : (textS s2 e2).2.1.size ≤ 2000 := Nat.le_trans (textS_size s2 e2) hs2
              clear h4 k4 h5 ht5 hK0 hN0
              generalize textS s2 e2 = X at *
              go_wp2_with fail
              refine K5.out.mono ?_
              rintro r wb ⟨rfl, h6⟩
              have H6 := Lib.hid h6
              clear h6 K5
              go_wp2_with fail
              refine (inleft_any _ _ _ _ H6.out.1 (by omega)).mono ?_
              rintro r wc ⟨rfl, rfl⟩
              obtain ⟨t3, h7, ht7⟩ := H6.out.2.1
              have K7 := Lib.hid (refleft_any w3.heap.size _ t3 _ wb h7 ht7 H6.out.2.2.1)
              clear h7 ht7
              go_wp2_with fail
              refine K7.out.mono ?_
              rintro r wd ⟨rfl, rfl⟩
              go_wp2_with fail
              go_roundw
              case rel => exact ⟨k + 1, _, _, by go_num, by omega, hsz, H6⟩
              case measure => simp [intOf]; omega
            · have hb3 : (o.kind == 3) = false := by simpa using h3
              clear h1 h2 h3
              have hsz : (rawS s2 e2 o.n).2.1.size ≤ 2000 := Nat.le_trans (rawS_size s2 e2 o.n) hs2
              have HZ := Lib.hid (rawS_zero s2 e2 o.n H3.out.2.2.1)
              have H3d := Lib.hid H3.out.drew
              have hbne : b ≠ w2.heap.size := by have := H3.out.2.2.2.2.2.1; omega
              generalize hX : rawS s2 e2 o.n = X at *
              have HX := Lib.hid hX
              clear hX
              go_wp2_with fail
              go_region_held3 (fun w' => w'.cell? ⟨b, off + k * 4 + 1, none⟩ = some (.int .i64 o.n)) (first | exact hN0 | exact hN2 | exact hN3 | go_keep) (first | (go_at_call 31; refine (inraw_any w2.heap.size s2 e2 o.n _ ?_ hbig).mono ?_; (exact H3d.out.1); rw [HX.out]; rintro r wa ⟨rfl, h4, k4⟩; have hN2 := (k4.cell (p := ⟨b, off + k * 4 + 1, none⟩) (Nat.lt_of_lt_of_le hbl H3d.out.below.size) (fun x => hbne x)).trans hN0; obtain ⟨t2, h5, ht5⟩ := H3d.out.ref k4) | (go_at_call 32; refine (refraw_any w3.heap.size s2 t2 e2 o.n _ h5 ht5 hbig).mono ?_; rw [HX.out]; rintro r wb ⟨rfl, h6⟩; have H6 := Lib.hid (H3d.out.step h4 k4 h6 HZ.out); have hN3 := (H6.out.below.cell (p := ⟨b, off + k * 4 + 1, none⟩) hbl).trans HN1.out))
              clear hN0
              go_wp2_with fail
              refine (inleft_any _ _ _ _ H6.out.1 (by omega)).mono ?_
              rintro r wc ⟨rfl, rfl⟩
              obtain ⟨t3, h7, ht7⟩ := H6.out.2.1
              have K7 := Lib.hid (refleft_any w3.heap.size _ t3 _ wb h7 ht7 H6.out.2.2.1)
              clear h7 ht7
              go_wp2_with fail
              refine K7.out.mono ?_
              rintro r wd ⟨rfl, rfl⟩
              go_wp2_with fail
              go_roundw
              case rel => exact ⟨k + 1, _, _, by go_num, by omega, hsz, H6⟩
              case measure => simp [intOf]; omega
      · go_wp2_with fail
        refine (inend_any _ s2 e2 _ H3.out.1 hbig).mono ?_
        rintro r wa ⟨rfl, h4, k4⟩
        obtain ⟨t2, h5, ht5⟩ := H3.out.ref k4
        have K5 := Lib.hid (refend_any w3.heap.size s2 t2 e2 wa h5 ht5 H3.out.2.2.1 hbig)
        have HB3 := Lib.hid (H3.out.below.trans (k4.below H3.out.below.size (fun j hj x => by have := H3.out.2.2.2.2.2.1; omega)))
        clear h4 k4 h5 ht5
        generalize endS s2 e2 = X at *
        go_wp2_with fail
        refine K5.out.mono ?_
        rintro r wb ⟨rfl, k6⟩
        have H6 := Lib.hid (HB3.out.trans (k6.below HB3.out.size (fun j hj x => by have := H3.out.2.2.2.2.2.2; omega)))
        clear k6 K5
        go_wp2_with fail
        go_ret
        exact ⟨rfl, H6.out⟩

set_option maxRecDepth 100000 in
set_option maxHeartbeats 1600000 in
theorem walk_CodecReads (a0 : ByteArray) (w0 : a0.size ≤ maxLen) (A : Option Addr) (len cap : Nat) (ops : List OpV) (w : World) (h : OpsAt w A len ops) :
    Calls Try.prog 4 #[.string a0, .slice A len cap] w fun e w' => e = .returned (.bool true) ∧ Below w.heap.size w w' := by
  unfold maxLen at w0
  by_cases hs : a0.size ≤ 2000
  · exact reads_good a0 A len cap ops w hs h
  · clear h
    go_enter Try.func4, Try.ntmps4
    go_wp2_with fail
    refine (alive_any _).mono ?_
    rintro r w1 ⟨rfl, hb⟩
    go_wp2_with fail
    go_ret
    exact ⟨rfl, hb⟩

end Go.Proofs.Ytlinmnlfcboicaa
