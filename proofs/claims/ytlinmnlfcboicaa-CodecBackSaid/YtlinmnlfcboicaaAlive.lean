/- What was laid is read as it was; alive. Own work. -/
import Derived.Test.YtlinmnlfcboicaaEnd
namespace Go.Proofs.Ytlinmnlfcboicaa
set_option linter.unusedVariables false
open Go.RowKit

theorem extract_mk (l : List UInt8) (a b : Nat) : (⟨l.toArray⟩ : ByteArray).extract a b = ⟨((l.take b).drop a).toArray⟩ := by
  apply ByteArray.ext
  simp [ByteArray.data_extract, List.drop_take]

theorem size_mk (l : List UInt8) : (⟨l.toArray⟩ : ByteArray).size = l.length := rfl

theorem extract_end (l r : List UInt8) : (⟨(l ++ r).toArray⟩ : ByteArray).extract l.length (⟨(l ++ r).toArray⟩ : ByteArray).size = ⟨r.toArray⟩ := by
  rw [extract_mk, size_mk, List.take_of_length_le (Nat.le_refl _), List.drop_left]
theorem extract_start (l r : List UInt8) : (⟨(l ++ r).toArray⟩ : ByteArray).extract 0 l.length = ⟨l.toArray⟩ := by
  rw [extract_mk, List.take_left, List.drop_zero]

theorem numS_enc (n : Nat) (r : List UInt8) (h : n < 9223372036854775808) : numS ⟨(enc n ++ r).toArray⟩ 0 = ((n : Int), ⟨r.toArray⟩, 0) := by
  unfold numS
  rw [if_pos rfl]
  have hd := dec_enc0 n r h
  simp only [hd, if_true, extract_end]

theorem rawS_app (l r : List UInt8) : rawS ⟨(l ++ r).toArray⟩ 0 l.length = (⟨l.toArray⟩, ⟨r.toArray⟩, 0) := by
  unfold rawS
  rw [if_pos rfl, if_neg (by omega), if_neg (by rw [size_mk, List.length_append]; omega)]
  simp only [Int.toNat_natCast, extract_start, extract_end]

theorem textS_enc (l r : List UInt8) (h : l.length < 9223372036854775808) : textS ⟨(enc l.length ++ (l ++ r)).toArray⟩ 0 = (⟨l.toArray⟩, ⟨r.toArray⟩, 0) := by
  unfold textS
  rw [numS_enc _ _ h]
  exact rawS_app l r

theorem byteS_cons (b : UInt8) (r : List UInt8) : byteS ⟨(b :: r).toArray⟩ 0 = ((b.toNat : Int), ⟨r.toArray⟩, 0) := by
  have := rawS_app [b] r
  simp only [List.length_singleton, List.singleton_append] at this
  unfold byteS
  rw [show ((1 : Int)) = ((1 : Nat) : Int) from rfl, this]
  rfl

/-- A slice that the call has just laid. -/
theorem slice_new {w : World} {g : Nat} (hg : g = w.heap.size) (vs : List Value) (t : TypeId) {S : Nat → Prop} (hS : ¬ S g) : SliceAt (w.alloc (.cells vs.toArray t)) (some ⟨g, 0, none⟩) vs S := by
  subst hg
  intro _
  refine ⟨_, 0, rfl, by simp, hS, fun i v hv => ?_⟩
  rw [Nat.zero_add, cell_of_row _ _ i _ t (0, 0) (heap_alloc_new w _)]
  simpa using hv

theorem row_free {w : World} {p : Nat} {A : Option Addr} {c : Nat} {l : List UInt8} {e : Int} (h : OutAt w p A c l e) : ¬ (w.heap.size = p ∨ blk A = some w.heap.size) := by
  rintro (x | x)
  · have := h.lt; omega
  · have := h.row x; omega

theorem alive_bytes : textsO (numsO [] 0 [1, 300]).1 (numsO [] 0 [1, 300]).2 [⟨#[97]⟩] = ([1, 172, 2, 1, 97], 0) := by
  have e1 : numsO [] 0 [1, 300] = ([1, 172, 2], 0) := by
    simp [numsO, numO, enc_small, enc_big]
  rw [e1]
  have e2 : (⟨#[97]⟩ : ByteArray).size = 1 := rfl
  simp [textsO, textO, numO, rawO, e2, enc_small]

theorem mk_data (s : ByteArray) : (⟨s.data.toList.toArray⟩ : ByteArray) = s := by
  apply ByteArray.ext
  simp
theorem numO_ok {l : List UInt8} {n : Nat} : numO l 0 n = (l ++ enc n, 0) := by simp [numO]
theorem textO_ok {l : List UInt8} {s : ByteArray} : textO l 0 s = (l ++ (enc s.size ++ s.data.toList), 0) := by
  unfold textO
  rw [numO_ok]
  simp [rawO]
theorem textsO_one {l : List UInt8} {s : ByteArray} : textsO l 0 [s] = (l ++ (enc s.size ++ s.data.toList), 0) := textO_ok
theorem numsO_one {l : List UInt8} {n : Nat} : numsO l 0 [(n : Int)] = (l ++ enc n, 0) := numO_ok
theorem textS_text (s : ByteArray) (r : List UInt8) (h : s.size < 9223372036854775808) : textS ⟨(enc s.size ++ (s.data.toList ++ r)).toArray⟩ 0 = (s, ⟨r.toArray⟩, 0) := by
  have := textS_enc s.data.toList r (by rw [← Lib.size_eq]; exact h)
  rw [← Lib.size_eq] at this
  rw [this, mk_data]
theorem rawS_text (s : ByteArray) (r : List UInt8) : rawS ⟨(s.data.toList ++ r).toArray⟩ 0 s.size = (s, ⟨r.toArray⟩, 0) := by
  have := rawS_app s.data.toList r
  rw [← Lib.size_eq] at this
  rw [this, mk_data]
theorem sum_one (s : ByteArray) : sum [s] = s.size := by simp [sum]
theorem sum_two (s t : ByteArray) : sum [s, t] = s.size + t.size := by simp [sum]

/-! ### A writer, a reader, of the call's own: all that was there when the call began (w0) is as it was -/
def OutIs (w0 : World) (p : Nat) (st : List UInt8 × Int) (w : World) : Prop :=
  ∃ A c, OutAt w p A c st.1 st.2 ∧ Below w0.heap.size w0 w ∧ w0.heap.size ≤ p ∧ ∀ k, blk A = some k → w0.heap.size ≤ k
def InIs (w0 : World) (p : Nat) (s : ByteArray) (e : Int) (w : World) : Prop := InAt w p s e ∧ Below w0.heap.size w0 w ∧ w0.heap.size ≤ p

theorem OutIs.new {w0 w : World} (h : Below w0.heap.size w0 w) : OutIs w0 w.heap.size ([], 0) (w.alloc (.cells #[.slice none 0 0, .int .i64 0] 29)) :=
  ⟨none, 0, OutAt.new w, h.alloc h.size _, h.size, fun k hk => by simp [blk] at hk⟩
theorem OutIs.below {w0 w : World} {p : Nat} {st : List UInt8 × Int} (h : OutIs w0 p st w) : Below w0.heap.size w0 w := by obtain ⟨A, c, _, h, _⟩ := h; exact h
theorem OutIs.drewN {w0 w : World} {p : Nat} {st : List UInt8 × Int} (h : OutIs w0 p st w) (n : Nat) : OutIs w0 p st (w.drewN n) := by
  obtain ⟨A, c, h1, h2, h3, h4⟩ := h
  exact ⟨A, c, ⟨h1.1, h1.2⟩, ⟨h2.os, h2.tape, h2.output, h2.size, h2.block⟩, h3, h4⟩

theorem OutIs.step {w0 w w1 w' : World} {p : Nat} {st' : List UInt8 × Int} {A A' : Option Addr} {c' : Nat} (hb : Below w0.heap.size w0 w) (hp : w0.heap.size ≤ p) (hA : ∀ k, blk A = some k → w0.heap.size ≤ k)
    (hw : Keep (fun _ => False) w w1) (h : OutAt w' p A' c' st'.1 st'.2) (hs : OutStep p A w1 A' w') : OutIs w0 p st' w' := by
  have hs2 := hw.size
  have hs0 := hb.size
  refine ⟨A', c', h, (hb.trans (hw.below hs0 (fun _ _ x => x))).trans (hs.1.below (by omega) (fun k hk => ?_)), hp, fun k hk => ?_⟩
  · rintro (x | x)
    · omega
    · have := hA k x; omega
  · rcases hs.2 k hk with x | x
    · exact hA k x
    · omega

theorem isNum {w0 w : World} {p : Nat} {st : List UInt8 × Int} (h : OutIs w0 p st w) (xs : List Int) {n g : Nat} (hg : g = w.heap.size) (hn : xs.length = n) (hi : ∀ x ∈ xs, x ≤ 9223372036854775807) (hl : st.1.length + 9 * n ≤ 1099511627776) :
    Calls Try.prog 14 #[.pointer (some ⟨p, 0, none⟩), .slice (some ⟨g, 0, none⟩) n n] (w.alloc (.cells (xs.map (Value.int .i64)).toArray 3)) fun r w' => r = .returned (.pointer (some ⟨p, 0, none⟩)) ∧ OutIs w0 p (numsO st.1 st.2 xs) w' := by
  obtain ⟨A, c, h1, h2, h3, h4⟩ := h
  subst hg
  refine (outNum_any p A c st.1 st.2 _ n n xs _ (h1.alloc _) (slice_new rfl _ _ (row_free h1)) hn hi hl).mono ?_
  rintro r w' ⟨rfl, A', c', h5, h6⟩
  exact ⟨rfl, OutIs.step h2 h3 h4 ((Keep.refl _ w).alloc _) h5 h6⟩
theorem isByte {w0 w : World} {p : Nat} {st : List UInt8 × Int} (h : OutIs w0 p st w) (xs : List Int) {n g : Nat} (hg : g = w.heap.size) (hn : xs.length = n) (hl : st.1.length + n ≤ 1099511627776) :
    Calls Try.prog 16 #[.pointer (some ⟨p, 0, none⟩), .slice (some ⟨g, 0, none⟩) n n] (w.alloc (.cells (xs.map (Value.int .i64)).toArray 3)) fun r w' => r = .returned (.pointer (some ⟨p, 0, none⟩)) ∧ OutIs w0 p (bytesO st.1 st.2 xs) w' := by
  obtain ⟨A, c, h1, h2, h3, h4⟩ := h
  subst hg
  refine (outByte_any p A c st.1 st.2 _ n n xs _ (h1.alloc _) (slice_new rfl _ _ (row_free h1)) hn hl).mono ?_
  rintro r w' ⟨rfl, A', c', h5, h6⟩
  exact ⟨rfl, OutIs.step h2 h3 h4 ((Keep.refl _ w).alloc _) h5 h6⟩
theorem isText {w0 w : World} {p : Nat} {st : List UInt8 × Int} (h : OutIs w0 p st w) (xs : List ByteArray) {n g : Nat} (hg : g = w.heap.size) (hn : xs.length = n) (hl : st.1.length + sum xs + 9 * n ≤ 1099511627776) :
    Calls Try.prog 17 #[.pointer (some ⟨p, 0, none⟩), .slice (some ⟨g, 0, none⟩) n n] (w.alloc (.cells (xs.map Value.string).toArray 9)) fun r w' => r = .returned (.pointer (some ⟨p, 0, none⟩)) ∧ OutIs w0 p (textsO st.1 st.2 xs) w' := by
  obtain ⟨A, c, h1, h2, h3, h4⟩ := h
  subst hg
  refine (outText_any p A c st.1 st.2 _ n n xs _ (h1.alloc _) (slice_new rfl _ _ (row_free h1)) hn hl).mono ?_
  rintro r w' ⟨rfl, A', c', h5, h6⟩
  exact ⟨rfl, OutIs.step h2 h3 h4 ((Keep.refl _ w).alloc _) h5 h6⟩
theorem isRaw {w0 w : World} {p : Nat} {st : List UInt8 × Int} (h : OutIs w0 p st w) (xs : List ByteArray) {n g : Nat} (hg : g = w.heap.size) (hn : xs.length = n) (hn2 : n ≤ 1099511627776) (hl : st.1.length + sum xs ≤ 1099511627776) :
    Calls Try.prog 19 #[.pointer (some ⟨p, 0, none⟩), .slice (some ⟨g, 0, none⟩) n n] (w.alloc (.cells (xs.map Value.string).toArray 9)) fun r w' => r = .returned (.pointer (some ⟨p, 0, none⟩)) ∧ OutIs w0 p (rawsO st.1 st.2 xs) w' := by
  obtain ⟨A, c, h1, h2, h3, h4⟩ := h
  subst hg
  refine (outRaw_any p A c st.1 st.2 _ n n xs _ (h1.alloc _) (slice_new rfl _ _ (row_free h1)) hn hn2 hl).mono ?_
  rintro r w' ⟨rfl, A', c', h5, h6⟩
  exact ⟨rfl, OutIs.step h2 h3 h4 ((Keep.refl _ w).alloc _) h5 h6⟩
theorem isEnd {w0 w : World} {p : Nat} {st : List UInt8 × Int} (h : OutIs w0 p st w) :
    Calls Try.prog 21 #[.pointer (some ⟨p, 0, none⟩)] w fun r w' => r = .returned (.tuple #[.string ⟨st.1.toArray⟩, .int .i64 st.2]) ∧ ∃ n, w' = w.drewN n := by
  obtain ⟨A, c, h1, _⟩ := h
  exact outend_any p A c _ _ w h1

theorem InIs.step {w0 w w' : World} {p : Nat} {s s' : ByteArray} {e e' : Int} (h : InIs w0 p s e w) (h1 : InAt w' p s' e') (k : Keep (· = p) w w') : InIs w0 p s' e' w' :=
  ⟨h1, h.2.1.trans (k.below h.2.1.size (fun j hj x => by have := h.2.2; omega)), h.2.2⟩
theorem inOn {w0 w : World} (h : Below w0.heap.size w0 w) (s : ByteArray) :
    Calls Try.prog 24 #[.string s] w fun e w' => e = .returned (.pointer (some ⟨w.heap.size, 0, none⟩)) ∧ InIs w0 w.heap.size s 0 w' :=
  (on_any s w).mono fun _ _ ⟨h1, h2, h3⟩ => ⟨h1, h2, h.trans (h3.mono h.size), h.size⟩
theorem inNum {w0 w : World} {p : Nat} {s : ByteArray} {e : Int} (h : InIs w0 p s e w) (hs : s.size ≤ 281474976710656) :
    Calls Try.prog 25 #[.pointer (some ⟨p, 0, none⟩)] w fun r w' => r = .returned (.int .i64 (numS s e).1) ∧ InIs w0 p (numS s e).2.1 (numS s e).2.2 w' :=
  (innum_any p s e w h.1 (by unfold maxLen; omega)).mono fun _ _ ⟨h1, h2, h3⟩ => ⟨h1, h.step h2 h3⟩
theorem inRaw {w0 w : World} {p : Nat} {s : ByteArray} {e : Int} (n : Int) (h : InIs w0 p s e w) (hs : s.size ≤ 281474976710656) :
    Calls Try.prog 31 #[.pointer (some ⟨p, 0, none⟩), .int .i64 n] w fun r w' => r = .returned (.string (rawS s e n).1) ∧ InIs w0 p (rawS s e n).2.1 (rawS s e n).2.2 w' :=
  (inraw_any p s e n w h.1 hs).mono fun _ _ ⟨h1, h2, h3⟩ => ⟨h1, h.step h2 h3⟩
theorem inText {w0 w : World} {p : Nat} {s : ByteArray} {e : Int} (h : InIs w0 p s e w) (hs : s.size ≤ 281474976710656) :
    Calls Try.prog 29 #[.pointer (some ⟨p, 0, none⟩)] w fun r w' => r = .returned (.string (textS s e).1) ∧ InIs w0 p (textS s e).2.1 (textS s e).2.2 w' :=
  (intext_any p s e w h.1 hs).mono fun _ _ ⟨h1, h2, h3⟩ => ⟨h1, h.step h2 h3⟩
theorem inByte {w0 w : World} {p : Nat} {s : ByteArray} {e : Int} (h : InIs w0 p s e w) (hs : s.size ≤ 281474976710656) :
    Calls Try.prog 27 #[.pointer (some ⟨p, 0, none⟩)] w fun r w' => r = .returned (.int .i64 (byteS s e).1) ∧ InIs w0 p (byteS s e).2.1 (byteS s e).2.2 w' :=
  (inbyte_any p s e w h.1 hs).mono fun _ _ ⟨h1, h2, h3⟩ => ⟨h1, h.step h2 h3⟩
theorem inLeft {w0 w : World} {p : Nat} {s : ByteArray} {e : Int} (h : InIs w0 p s e w) (hs : s.size ≤ 281474976710656) :
    Calls Try.prog 33 #[.pointer (some ⟨p, 0, none⟩)] w fun r w' => r = .returned (.int .i64 s.size) ∧ w = w' :=
  inleft_any p s e w h.1 hs
theorem inEnd {w0 w : World} {p : Nat} {s : ByteArray} {e : Int} (h : InIs w0 p s e w) (hs : s.size ≤ 281474976710656) :
    Calls Try.prog 35 #[.pointer (some ⟨p, 0, none⟩)] w fun r w' => r = .returned (.int .i64 (endS s e)) ∧ InIs w0 p .empty (endS s e) w' :=
  (inend_any p s e w h.1 hs).mono fun _ _ ⟨h1, h2, h3⟩ => ⟨h1, h.step h2 h3⟩

theorem alive_reads : numS ⟨#[1, 172, 2, 1, 97]⟩ 0 = (1, ⟨#[172, 2, 1, 97]⟩, 0) ∧ numS ⟨#[172, 2, 1, 97]⟩ 0 = (300, ⟨#[1, 97]⟩, 0) ∧ textS ⟨#[1, 97]⟩ 0 = (⟨#[97]⟩, ⟨#[]⟩, 0) := by
  have e1 : enc 1 = [1] := by simp [enc_small]
  have e2 : enc 300 = [172, 2] := by simp [enc_small, enc_big]
  refine ⟨?_, ?_, ?_⟩
  · have := numS_enc 1 [172, 2, 1, 97] (by omega); rw [e1] at this; exact this
  · have := numS_enc 300 [1, 97] (by omega); rw [e2] at this; exact this
  · have := textS_enc [97] [] (by simp); rw [show ([97] : List UInt8).length = 1 from rfl, e1] at this; exact this

set_option maxRecDepth 100000 in
set_option maxHeartbeats 800000 in
theorem alive_any (w : World) : Calls Try.prog 11 #[] w fun e w' => e = .returned (.bool true) ∧ Below w.heap.size w w' := by
  have H1 := Lib.hid (OutIs.new (Below.refl w.heap.size w))
  go_enter Try.func11, Try.ntmps11
  go_wp2_with fail
  refine (isNum H1.out [1, 300] (by simp) rfl (by simp) (by simp)).mono ?_
  rintro r w1 ⟨rfl, h1⟩
  have H2 := Lib.hid h1
  clear h1 H1
  go_wp2_with fail
  refine (isText H2.out [⟨#[97]⟩] rfl rfl (by rw [show (numsO [] 0 [1, 300]) = ([1, 172, 2], 0) from by simp [numsO, numO, enc_small, enc_big]]; simp [sum, size_mk])).mono ?_
  rintro r w2 ⟨rfl, h1⟩
  rw [alive_bytes] at h1
  have H3 := Lib.hid h1
  clear h1 H2
  go_wp2_with fail
  refine (isEnd H3.out).mono ?_
  rintro r w3 ⟨rfl, nq, rfl⟩
  have H4 := Lib.hid (H3.out.drewN nq).below
  clear H3
  go_wp2_with fail
  refine (inOn H4.out _).mono ?_
  rintro r w4 ⟨rfl, h1⟩
  have H5 := Lib.hid h1
  clear h1 H4
  have k1 := inNum H5.out (by simp [size_mk])
  rw [alive_reads.1] at k1
  have K1 := Lib.hid k1
  clear k1 H5
  go_wp2_with fail
  refine K1.out.mono ?_
  rintro r w5 ⟨rfl, h1⟩
  have k1 := inNum h1 (by simp [size_mk])
  rw [alive_reads.2.1] at k1
  have K2 := Lib.hid k1
  clear k1 K1 h1
  go_wp2_with fail
  refine K2.out.mono ?_
  rintro r w6 ⟨rfl, h1⟩
  have k1 := inText h1 (by simp [size_mk])
  rw [alive_reads.2.2] at k1
  have K3 := Lib.hid k1
  clear k1 K2 h1
  go_wp2_with fail
  refine K3.out.mono ?_
  rintro r w7 ⟨rfl, h1⟩
  have k1 := inEnd h1 (by simp [size_mk])
  have K4 := Lib.hid k1
  clear k1 K3 h1
  go_wp2_with fail
  refine K4.out.mono ?_
  rintro r w8 ⟨rfl, h1⟩
  have H9 := Lib.hid h1.2.1
  clear h1 K4
  go_wp2_with fail
  go_ret
  exact ⟨rfl, H9.out⟩

end Go.Proofs.Ytlinmnlfcboicaa
