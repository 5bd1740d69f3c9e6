/- Law CodecLays: the walk. Own work. -/
import Derived.Test.YtlinmnlfcboicaaRefOut
import Derived.Test.YtlinmnlfcboicaaBytes
import Derived.Lib.Builder
namespace Go.Proofs.Ytlinmnlfcboicaa
set_option linter.unusedVariables false
open Go.RowKit

/-- In a round: the writer, the operation's copy (at xb), the two lists that were lent. -/
structure Lay (w0 : World) (p : Nat) (st : List UInt8 × Int) (xb : Nat) (o : OpV) (AL AT : Option Addr) (cL cT gm cm gn cn : Nat) (w : World) : Prop where
  out : ∃ A c, OutAt w p A c st.1 st.2 ∧ ∀ k, blk A = some k → w0.heap.size ≤ k
  bel : Below w0.heap.size w0 w
  hp : w0.heap.size ≤ p
  x : w.heap[xb]? = some (.cells #[.int .i64 o.kind, .int .i64 o.n, .slice AL o.L.length cL, .slice AT o.T.length cT] 33 (0, 0))
  m : Lent w 3 gm cm (o.L.map (Value.int .i64)) (.int .i64 (-77))
  n : Lent w 9 gn cn (o.T.map Value.string) (.string ⟨#[109, 97, 114, 107]⟩)

namespace Lay
variable {w0 w w' : World} {p xb cL cT gm cm gn cn : Nat} {st st' : List UInt8 × Int} {o : OpV} {AL AT A A' : Option Addr} {c c' : Nat}
theorem keep (h : Lay w0 p st xb o AL AT cL cT gm cm gn cn w) (k : Keep (fun _ => False) w w') : Lay w0 p st xb o AL AT cL cT gm cm gn cn w' := by
  obtain ⟨A, c, h1, h2⟩ := h.out
  exact ⟨⟨A, c, h1.keep k (fun x => x) (fun _ _ x => x), h2⟩, h.bel.trans (k.below h.bel.size fun _ _ x => x), h.hp, k.heap h.x (fun x => x), h.m.keep k (fun x => x), h.n.keep k (fun x => x)⟩
theorem below (h : Lay w0 p st xb o AL AT cL cT gm cm gn cn w) (k : Below w.heap.size w w') : Lay w0 p st xb o AL AT cL cT gm cm gn cn w' := h.keep (Keep.of_below _ k)
theorem drewN (h : Lay w0 p st xb o AL AT cL cT gm cm gn cn w) (k : Nat) : Lay w0 p st xb o AL AT cL cT gm cm gn cn (w.drewN k) := h.keep ((Keep.refl _ w).drewN k)
theorem far (h : Lay w0 p st xb o AL AT cL cT gm cm gn cn w) (h1 : OutAt w p A c st.1 st.2) : ¬ (gm = p ∨ blk A = some gm) ∧ ¬ (gn = p ∨ blk A = some gn) ∧ ¬ (xb = p ∨ blk A = some xb) := by
  obtain ⟨c1, hc1⟩ := h.m.block
  obtain ⟨c2, hc2⟩ := h.n.block
  have hA : (Value.slice A st.1.length c).ownBlock = blk A := ownBlock_slice _ _ _
  refine ⟨?_, ?_, ?_⟩
  · rintro (x | x)
    · exact h.m.ne h1.1 (by decide) x
    · exact own_ne h1.2 hc1 (by decide) (hA.trans x)
  · rintro (x | x)
    · exact h.n.ne h1.1 (by decide) x
    · exact own_ne h1.2 hc2 (by decide) (hA.trans x)
  · rintro (x | x)
    · have h2 := h.x
      rw [x, h1.1] at h2
      simp at h2
    · exact own_ne h1.2 h.x (by decide) (hA.trans x)
theorem step (h : Lay w0 p st xb o AL AT cL cT gm cm gn cn w) (h1 : OutAt w p A c st.1 st.2) (hA : ∀ k, blk A = some k → w0.heap.size ≤ k) (h2 : OutAt w' p A' c' st'.1 st'.2) (hs : OutStep p A w A' w') : Lay w0 p st' xb o AL AT cL cT gm cm gn cn w' := by
  obtain ⟨f1, f2, f3⟩ := h.far h1
  have hz := h.bel.size
  refine ⟨⟨A', c', h2, fun k hk => ?_⟩, h.bel.trans (hs.1.below hz fun k hk => ?_), h.hp, hs.1.heap h.x f3, h.m.keep hs.1 f1, h.n.keep hs.1 f2⟩
  · rcases hs.2 k hk with x | x
    · exact hA k x
    · omega
  · have := h.hp
    rintro (x | x)
    · omega
    · have := hA k x; omega
end Lay

theorem one_byte (w : World) (y : Int) (h1 : 0 ≤ y) (h2 : y ≤ 255) : (convert 26 9 (.slice (some ⟨w.heap.size, 0, none⟩) 1 1)).run Try.prog (w.alloc (.cells #[.int .u8 y] 5)) = .ok (.string ⟨[UInt8.ofNat y.toNat].toArray⟩) (w.alloc (.cells #[.int .u8 y] 5)) := by
  have hr := Row.of_block (heap_alloc_new w (.cells #[.int .u8 y] 5)) (.inl (Nat.le_refl _)) (n := 1) (by simp) (by simp [maxLen])
  have e1 : (#[Value.int .u8 y] : Array Value).toList.take 1 = Lib.byteCells [UInt8.ofNat y.toNat] := by
    rw [byteCells_one, ← u8_wrap h1 h2]; rfl
  rw [e1] at hr
  exact run_row_string 26 9 5 hr Try.underlying26 Try.underlying5 Try.underlying9
theorem sum_mem {xs : List ByteArray} {x : ByteArray} (h : x ∈ xs) : x.size ≤ sum xs := by
  induction xs with
  | nil => cases h
  | cons y r ih =>
    have h1 : sum (y :: r) = y.size + sum r := by simp [sum]
    rcases List.mem_cons.1 h with e | e
    · rw [e, h1]; omega
    · have := ih e; omega
theorem out_info : (Try.prog.info? 29).isSome = true := by kernel_rfl

/-! ### the writer's calls, the lists lent -/
section LayCalls
variable {w0 w : World} {p xb cL cT gm cm gn cn : Nat} {st : List UInt8 × Int} {o : OpV} {AL AT : Option Addr}
theorem layNum (h : Lay w0 p st xb o AL AT cL cT gm cm gn cn w) (hi : ∀ x ∈ o.L, x ≤ 9223372036854775807) (hl : st.1.length + 9 * o.L.length ≤ 1099511627776) :
    Calls Try.prog 14 #[.pointer (some ⟨p, 0, none⟩), .slice (some ⟨gm, 0, none⟩) o.L.length cm] w fun r w' => r = .returned (.pointer (some ⟨p, 0, none⟩)) ∧ Lay w0 p (numsO st.1 st.2 o.L) xb o AL AT cL cT gm cm gn cn w' := by
  obtain ⟨A, c, h1, hA⟩ := h.out
  refine (outNum_any p A c st.1 st.2 _ o.L.length cm o.L w h1 (h.m.slice (h.far h1).1) rfl hi hl).mono ?_
  rintro r w' ⟨rfl, A', c', h2, hs⟩
  exact ⟨rfl, h.step h1 hA h2 hs⟩
theorem layByte (h : Lay w0 p st xb o AL AT cL cT gm cm gn cn w) (hl : st.1.length + o.L.length ≤ 1099511627776) :
    Calls Try.prog 16 #[.pointer (some ⟨p, 0, none⟩), .slice (some ⟨gm, 0, none⟩) o.L.length cm] w fun r w' => r = .returned (.pointer (some ⟨p, 0, none⟩)) ∧ Lay w0 p (bytesO st.1 st.2 o.L) xb o AL AT cL cT gm cm gn cn w' := by
  obtain ⟨A, c, h1, hA⟩ := h.out
  refine (outByte_any p A c st.1 st.2 _ o.L.length cm o.L w h1 (h.m.slice (h.far h1).1) rfl hl).mono ?_
  rintro r w' ⟨rfl, A', c', h2, hs⟩
  exact ⟨rfl, h.step h1 hA h2 hs⟩
theorem layText (h : Lay w0 p st xb o AL AT cL cT gm cm gn cn w) (hl : st.1.length + sum o.T + 9 * o.T.length ≤ 1099511627776) :
    Calls Try.prog 17 #[.pointer (some ⟨p, 0, none⟩), .slice (some ⟨gn, 0, none⟩) o.T.length cn] w fun r w' => r = .returned (.pointer (some ⟨p, 0, none⟩)) ∧ Lay w0 p (textsO st.1 st.2 o.T) xb o AL AT cL cT gm cm gn cn w' := by
  obtain ⟨A, c, h1, hA⟩ := h.out
  refine (outText_any p A c st.1 st.2 _ o.T.length cn o.T w h1 (h.n.slice (h.far h1).2.1) rfl hl).mono ?_
  rintro r w' ⟨rfl, A', c', h2, hs⟩
  exact ⟨rfl, h.step h1 hA h2 hs⟩
theorem layRaw (h : Lay w0 p st xb o AL AT cL cT gm cm gn cn w) (hl2 : o.T.length ≤ 1099511627776) (hl : st.1.length + sum o.T ≤ 1099511627776) :
    Calls Try.prog 19 #[.pointer (some ⟨p, 0, none⟩), .slice (some ⟨gn, 0, none⟩) o.T.length cn] w fun r w' => r = .returned (.pointer (some ⟨p, 0, none⟩)) ∧ Lay w0 p (rawsO st.1 st.2 o.T) xb o AL AT cL cT gm cm gn cn w' := by
  obtain ⟨A, c, h1, hA⟩ := h.out
  refine (outRaw_any p A c st.1 st.2 _ o.T.length cn o.T w h1 (h.n.slice (h.far h1).2.1) rfl hl2 hl).mono ?_
  rintro r w' ⟨rfl, A', c', h2, hs⟩
  exact ⟨rfl, h.step h1 hA h2 hs⟩
theorem layEnd (h : Lay w0 p st xb o AL AT cL cT gm cm gn cn w) :
    Calls Try.prog 21 #[.pointer (some ⟨p, 0, none⟩)] w fun r w' => r = .returned (.tuple #[.string ⟨st.1.toArray⟩, .int .i64 st.2]) ∧ ∃ n, w' = w.drewN n := by
  obtain ⟨A, c, h1, _⟩ := h.out
  exact outend_any p A c _ _ w h1
theorem Lay.outIs (h : Lay w0 p st xb o AL AT cL cT gm cm gn cn w) : OutIs w0 p st w := by
  obtain ⟨A, c, h1, hA⟩ := h.out
  exact ⟨A, c, h1, h.bel, h.hp, hA⟩
end LayCalls

theorem fold_stays {α : Type} (f : List UInt8 × Int → α → List UInt8 × Int) (hf : ∀ st x, st.2 ≠ 0 → f st x = st) (xs : List α) : ∀ st, st.2 ≠ 0 → xs.foldl f st = st := by
  induction xs with
  | nil => intro st _; rfl
  | cons x r ih => intro st h; rw [List.foldl_cons, hf st x h]; exact ih st h
/-- An error stays, whatever comes. -/
theorem fold_take {α : Type} (f : List UInt8 × Int → α → List UInt8 × Int) (hf : ∀ st x, st.2 ≠ 0 → f st x = st) (xs : List α) (st : List UInt8 × Int) (j : Nat) (h : ((xs.take j).foldl f st).2 ≠ 0) : xs.foldl f st = (xs.take j).foldl f st := by
  have h1 : xs.foldl f st = (xs.drop j).foldl f ((xs.take j).foldl f st) := by rw [← List.foldl_append, List.take_append_drop]
  rw [h1]
  exact fold_stays f hf _ _ h
theorem nums_take (l : List UInt8) (e : Int) (xs : List Int) (j : Nat) (h : (numsO l e (xs.take j)).2 ≠ 0) : numsO l e xs = numsO l e (xs.take j) :=
  fold_take (fun st n => numO st.1 st.2 n) (fun st x hs => by show numO st.1 st.2 x = st; rw [numO, if_neg hs]) xs (l, e) j h
theorem bytes_take (l : List UInt8) (e : Int) (xs : List Int) (j : Nat) (h : (bytesO l e (xs.take j)).2 ≠ 0) : bytesO l e xs = bytesO l e (xs.take j) :=
  fold_take (fun st n => byteO st.1 st.2 n) (fun st x hs => by show byteO st.1 st.2 x = st; rw [byteO, if_neg hs]) xs (l, e) j h
theorem textO_bad (st : List UInt8 × Int) (s : ByteArray) (h : st.2 ≠ 0) : textO st.1 st.2 s = st := by
  have h1 : numO st.1 st.2 s.size = st := by rw [numO, if_neg h]
  unfold textO
  rw [h1, rawO, if_neg h]
theorem texts_take (l : List UInt8) (e : Int) (xs : List ByteArray) (j : Nat) (h : (textsO l e (xs.take j)).2 ≠ 0) : textsO l e xs = textsO l e (xs.take j) :=
  fold_take (fun st s => textO st.1 st.2 s) (fun st x hs => textO_bad st x hs) xs (l, e) j h

theorem rawsO_all (l : List UInt8) (xs : List ByteArray) : rawsO l 0 xs = (l ++ joinL xs, 0) := by
  induction xs generalizing l with
  | nil => simp [rawsO, joinL]
  | cons x r ih =>
    have h1 : rawsO l 0 (x :: r) = rawsO (l ++ x.data.toList) 0 r := by simp [rawsO, rawO]
    rw [h1, ih]
    simp [joinL]
theorem rawsO_bad (l : List UInt8) (e : Int) (xs : List ByteArray) (h : e ≠ 0) : rawsO l e xs = (l, e) :=
  fold_stays (fun (st : List UInt8 × Int) (s : ByteArray) => rawO st.1 st.2 s.data.toList) (fun st x hs => by show rawO st.1 st.2 _ = st; rw [rawO, if_neg hs]) xs (l, e) h

/-- What is laid grows by so much at most; with an error it is empty. -/
theorem nums_len (l : List UInt8) (e : Int) (xs : List Int) (h : ∀ x ∈ xs, x ≤ 9223372036854775807) : (numsO l e xs).1.length ≤ l.length + 9 * xs.length := by
  induction xs generalizing l e with
  | nil => simp [numsO]
  | cons x r ih =>
    have h1 : numsO l e (x :: r) = numsO (numO l e x).1 (numO l e x).2 r := rfl
    have h2 := ih (numO l e x).1 (numO l e x).2 (fun y hy => h y (by simp [hy]))
    have h3 := numO_len l e x (h x (by simp))
    rw [h1, List.length_cons]; omega
theorem bytes_len (l : List UInt8) (e : Int) (xs : List Int) : (bytesO l e xs).1.length ≤ l.length + xs.length := by
  induction xs generalizing l e with
  | nil => simp [bytesO]
  | cons x r ih =>
    have h1 : bytesO l e (x :: r) = bytesO (byteO l e x).1 (byteO l e x).2 r := rfl
    have h2 := ih (byteO l e x).1 (byteO l e x).2
    have h3 := byteO_len l e x
    rw [h1, List.length_cons]; omega
theorem texts_len (l : List UInt8) (e : Int) (xs : List ByteArray) (h : ∀ s ∈ xs, s.size ≤ 9223372036854775807) : (textsO l e xs).1.length ≤ l.length + sum xs + 9 * xs.length := by
  induction xs generalizing l e with
  | nil => simp [textsO]
  | cons x r ih =>
    have h1 : textsO l e (x :: r) = textsO (textO l e x).1 (textO l e x).2 r := rfl
    have h2 := ih (textO l e x).1 (textO l e x).2 (fun y hy => h y (by simp [hy]))
    have h3 := textO_len l e x (h x (by simp))
    have h4 : sum (x :: r) = x.size + sum r := by simp [sum]
    rw [h1, List.length_cons]; omega
theorem numO_gone (l : List UInt8) (e n : Int) (h : e ≠ 0 → l = []) : (numO l e n).2 ≠ 0 → (numO l e n).1 = [] := by
  unfold numO
  split
  · split
    · intro _; rfl
    · intro x; exact absurd rfl x
  · exact h
theorem byteO_gone (l : List UInt8) (e n : Int) (h : e ≠ 0 → l = []) : (byteO l e n).2 ≠ 0 → (byteO l e n).1 = [] := by
  unfold byteO
  split
  · split
    · intro _; rfl
    · intro x; exact absurd rfl x
  · exact h
theorem rawO_gone (l s : List UInt8) (e : Int) (h : e ≠ 0 → l = []) : (rawO l e s).2 ≠ 0 → (rawO l e s).1 = [] := by
  unfold rawO
  split
  · intro x; exact absurd rfl x
  · exact h
theorem nums_gone (l : List UInt8) (e : Int) (xs : List Int) (h : e ≠ 0 → l = []) : (numsO l e xs).2 ≠ 0 → (numsO l e xs).1 = [] := by
  induction xs generalizing l e with
  | nil => exact h
  | cons x r ih => exact ih (numO l e x).1 (numO l e x).2 (numO_gone l e x h)
theorem bytes_gone (l : List UInt8) (e : Int) (xs : List Int) (h : e ≠ 0 → l = []) : (bytesO l e xs).2 ≠ 0 → (bytesO l e xs).1 = [] := by
  induction xs generalizing l e with
  | nil => exact h
  | cons x r ih => exact ih (byteO l e x).1 (byteO l e x).2 (byteO_gone l e x h)
theorem texts_gone (l : List UInt8) (e : Int) (xs : List ByteArray) (h : e ≠ 0 → l = []) : (textsO l e xs).2 ≠ 0 → (textsO l e xs).1 = [] := by
  induction xs generalizing l e with
  | nil => exact h
  | cons x r ih => exact ih (textO l e x).1 (textO l e x).2 (rawO_gone _ _ _ (numO_gone l e x.size h))

set_option maxRecDepth 100000 in
set_option maxHeartbeats 12800000 in
theorem lays_good (A : Option Addr) (n cap : Nat) (ops : List OpV) (w : World) (h : OpsAt w A n ops) :
    Calls Try.prog 3 #[.slice A n cap] w fun e w' => e = .returned (.bool true) ∧ Below w.heap.size w w' := by
  have HO := Lib.hid h
  have hm := h.2.1
  unfold maxLen at hm
  clear h
  go_enter Try.func3, Try.ntmps3
  go_wp2_with fail
  refine (light_any A n cap ops _ HO.out).mono ?_
  rintro r w1 ⟨⟨bb, rfl, hbb⟩, hb⟩
  have HB := Lib.hid hb
  clear hb
  cases bb with
  | false =>
    clear hbb
    go_wp2_with fail
    refine (alive_any _).mono ?_
    rintro r w2 ⟨rfl, hb⟩
    have H2 := Lib.hid (HB.out.trans (hb.mono HB.out.size))
    clear hb
    go_wp2_with fail
    go_ret
    exact ⟨rfl, H2.out⟩
  | true =>
    obtain ⟨hn40, hsmall⟩ := hbb rfl
    have HS := Lib.hid hsmall
    clear hbb hsmall
    go_wp2_with fail
    refine (alive_any _).mono ?_
    rintro r w2 ⟨rfl, hb⟩
    have H2 := Lib.hid (OutIs.new (HB.out.trans (hb.mono HB.out.size)))
    clear hb HB
    go_wp2_with fail
    go_loopw [4, 5, 6] (fun v b i wr => ∃ (k : Nat) (l wl : List UInt8) (e : Int), i = .int .i64 k ∧ k ≤ n ∧ b = .int .i64 e ∧ v = .string ⟨wl.toArray⟩ ∧ l.length ≤ 200000 * k ∧ wl.length ≤ 200000 * k ∧ Hid (OutIs w w2.heap.size (l, e) wr) ∧ Hid (e = 0 → wl = l) ∧ Hid (e ≠ 0 → l = [])) (fun _ _ i _ => n - (intOf i).toNat)
    case atStart => exact ⟨0, [], [], 0, rfl, by omega, rfl, rfl, by simp, by simp, H2, fun _ => rfl, fun x => absurd rfl x⟩
    case round =>
      obtain ⟨k, l, wl, e, rfl, hk, rfl, rfl, hll, hwl, H3, HE, HZ⟩ := hrel
      by_cases hlt : k < n
      · obtain ⟨o, hok⟩ : ∃ o, ops[k]? = some o := ⟨ops[k]'(by rw [HO.out.1]; exact hlt), List.getElem?_eq_getElem _⟩
        obtain ⟨b, off, rfl, hbl, hc⟩ := HO.out.2.2 (by omega)
        obtain ⟨hK, hN, ⟨AL, cL, hL, hLi⟩, ⟨AT, cT, hT, hTs⟩, bk, bn⟩ := hc k o hok
        obtain ⟨sL, sT, sS⟩ := HS.out o (List.mem_of_getElem? hok)
        have hK0 := (H3.out.below.cell (p := ⟨b, off + k * 4, none⟩) hbl).trans hK
        have hN0 := (H3.out.below.cell (p := ⟨b, off + k * 4 + 1, none⟩) hbl).trans hN
        have hL0 := (H3.out.below.cell (p := ⟨b, off + k * 4 + 2, none⟩) hbl).trans hL
        have hT0 := (H3.out.below.cell (p := ⟨b, off + k * 4 + 3, none⟩) hbl).trans hT
        have SL := Lib.hid (src_ints hLi)
        have ST := Lib.hid (src_strs hTs)
        have LB := Lib.hid hLi.2.2.1
        have TB := Lib.hid hTs.2.2.1
        have hll2 : l.length ≤ 8000000 := by omega
        have hwl2 : wl.length ≤ 8000000 := by omega
        clear hK hN hL hT hc hok bk bn
        obtain ⟨wo, rfl⟩ : ∃ wo : World, wo = wr := ⟨_, rfl⟩
        have B1 := Lib.hid (((H3.out.below).alloc H3.out.below.size (.cells #[.int .i64 o.kind, .int .i64 o.n, .slice AL o.L.length cL, .slice AT o.T.length cT] 33)).drew)
        have hxb := heap_alloc_new wo (.cells #[.int .i64 o.kind, .int .i64 o.n, .slice AL o.L.length cL, .slice AT o.T.length cT] 33)
        have XB := Lib.hid hxb
        have x2 : (wo.alloc (.cells #[.int .i64 o.kind, .int .i64 o.n, .slice AL o.L.length cL, .slice AT o.T.length cT] 33)).cell? ⟨wo.heap.size, 2, none⟩ = some (.slice AL o.L.length cL) := cell_at hxb 2
        have x3 : (wo.alloc (.cells #[.int .i64 o.kind, .int .i64 o.n, .slice AL o.L.length cL, .slice AT o.T.length cT] 33)).cell? ⟨wo.heap.size, 3, none⟩ = some (.slice AT o.T.length cT) := cell_at hxb 3
        have XLT : Hid (wo.heap.size < ((wo.alloc (.cells #[.int .i64 o.kind, .int .i64 o.n, .slice AL o.L.length cL, .slice AT o.T.length cT] 33)).drew).heap.size) := by show _ < _; simp
        clear hxb
        go_wp2_with fail
        go_region_held3 (fun w' => w'.cell? ⟨wo.heap.size, 2, none⟩ = some (.slice AL o.L.length cL) ∧ w'.cell? ⟨wo.heap.size, 3, none⟩ = some (.slice AT o.T.length cT)) (first | exact ⟨x2, x3⟩ | exact ⟨y2, y3⟩ | exact ⟨z2, z3⟩ | go_keep) (first | (go_at_call 12; refine (lent_Ints AL o.L.length cL o.L _ ?_ ?_).mono ?_; (exact SL.out.below B1.out); omega; rintro r wa ⟨gm, cm, rfl, hm1, hgm, hb1⟩; have y2 := (hb1.cell (p := ⟨wo.heap.size, 2, none⟩) XLT.out).trans x2; have y3 := (hb1.cell (p := ⟨wo.heap.size, 3, none⟩) XLT.out).trans x3; have HB1 := Lib.hid hb1; have HM1 := Lib.hid hm1) | (go_at_call 13; refine (lent_Texts AT o.T.length cT o.T wa ?_ ?_).mono ?_; (exact ST.out.below (B1.out.trans (HB1.out.mono B1.out.size))); omega; rintro r wb ⟨gn, cn, rfl, hn1, hgn, hb2⟩; have z2 := (hb2.cell (p := ⟨wo.heap.size, 2, none⟩) (Nat.lt_of_lt_of_le XLT.out HB1.out.size)).trans y2; have z3 := (hb2.cell (p := ⟨wo.heap.size, 3, none⟩) (Nat.lt_of_lt_of_le XLT.out HB1.out.size)).trans y3; have HB2 := Lib.hid hb2; have HN1 := Lib.hid hn1))
        have K1 : Keep (fun _ => False) wo wb := ((((Keep.refl (fun _ => False) wo).alloc _).drew).trans (Keep.of_below (fun _ => False) HB1.out) (fun _ _ x => x)).trans (Keep.of_below (fun _ => False) HB2.out) (fun _ _ x => x)
        have LAY : Hid (Lay w w2.heap.size (l, e) wo.heap.size o AL AT cL cT gm cm gn cn wb) := by
          obtain ⟨A1, c1, q1, q2, q3, q4⟩ := H3.out
          refine ⟨⟨A1, c1, q1.keep K1 (fun x => x) (fun _ _ x => x), q4⟩, q2.trans (K1.below q2.size fun _ _ x => x), q3, ?_, HM1.out.keep (Keep.of_below (fun _ => False) HB2.out) (fun x => x), HN1.out⟩
          have e1 := (HB1.out.block wo.heap.size (by simp)).trans XB.out
          exact (HB2.out.block wo.heap.size (lt_heap e1)).trans e1
        clear K1 hm1 hgm hb1 hn1 hgn hb2 hK0 hN0 hL0 hT0 x2 x3 y2 y3 z2 z3 HB1 HB2 HM1 HN1 B1 XB H3
        obtain ⟨j29, hj29⟩ := Option.isSome_iff_exists.1 out_info
        have hne := fun (W : World) => Lib.run_neq_ptr_same (P := Try.prog) W (tp := 25) (te := 29) ⟨w2.heap.size, 0, none⟩ Try.underlying25 hj29
        clear hj29
        by_cases h1 : o.kind = 1
        · have hb1 : (o.kind == 1) = true := by simpa using h1
          clear h1
          as_aux_lemma =>
            have xk : wb.cell? ⟨wo.heap.size, 0, none⟩ = some (.int .i64 o.kind) := cell_at LAY.out.x 0
            go_wp2_with fail
            refine (layNum LAY.out (fun x hx => (LB.out x hx).2) (by simp only; omega)).mono ?_
            rintro r wc ⟨rfl, hl1⟩
            have L1 := Lib.hid hl1
            have NG := Lib.hid (nums_gone l e o.L HZ.out)
            have NT := Lib.hid (nums_take l e o.L)
            clear hl1 xk
            have x2 : wc.cell? ⟨wo.heap.size, 2, none⟩ = some (.slice AL o.L.length cL) := cell_at L1.out.x 2
            go_wp2_with fail
            clear x2
            go_loopw [4, 5, 11] (fun v b i wr => ∃ (j : Nat) (e2 : Int) (wl2 : List UInt8), i = .int .i64 j ∧ j ≤ o.L.length ∧ b = .int .i64 e2 ∧ v = .string ⟨wl2.toArray⟩ ∧ wl2.length ≤ wl.length + 9 * j ∧ Hid (Lay w w2.heap.size (numsO l e o.L) wo.heap.size o AL AT cL cT gm cm gn cn wr) ∧ Hid (e2 = (numsO l e (o.L.take j)).2) ∧ Hid (e2 = 0 → wl2 = (numsO l e (o.L.take j)).1)) (fun _ _ i _ => o.L.length - (intOf i).toNat)
            case atStart => exact ⟨0, e, wl, rfl, by omega, rfl, rfl, by simp, L1, rfl, HE.out⟩
            case round =>
              obtain ⟨j, e2, wl2, rfl, hj, rfl, rfl, hw2, L2, E2, W2⟩ := hrel
              have x2 : wr.cell? ⟨wo.heap.size, 2, none⟩ = some (.slice AL o.L.length cL) := cell_at L2.out.x 2
              have hsum : sum (o.T.take j) ≤ 20000 := Nat.le_trans (sum_take o.T j) sS
              by_cases he0 : e2 = 0
              · subst he0
                by_cases hjl : j < o.L.length
                · obtain ⟨y, hy⟩ : ∃ y, o.L[j]? = some y := ⟨o.L[j], List.getElem?_eq_getElem _⟩
                  have hym := List.mem_of_getElem? hy
                  obtain ⟨b3, off3, hAA, _, hc3⟩ := (SL.out.below L2.out.bel).2 (by omega)
                  subst hAA
                  have hcx := hc3 j (.int .i64 y) (by rw [List.getElem?_map, hy]; rfl)
                  have e1 : numsO l e (o.L.take (j + 1)) = numO (numsO l e (o.L.take j)).1 (numsO l e (o.L.take j)).2 y := by rw [take_next hy, numsO_snoc]
                  rw [← W2.out rfl, ← E2.out] at e1
                  have E1 := Lib.hid e1
                  have H5 := Lib.hid (take_next hy)
                  clear hc3 hy e1
                  have hyb := LB.out y hym
                  obtain ⟨hyb1, hyb2⟩ := hyb
                  by_cases hy0 : y < 0
                  · have HN := Lib.hid (show numO wl2 0 y = ([], 1) from by rw [numO, if_pos rfl, if_pos hy0])
                    go_wp2_with fail
                    go_roundw
                    case rel => exact ⟨j + 1, 1, wl2, by go_num, by omega, rfl, rfl, by omega, L2, by show (1 : Int) = _; rw [E1.out, HN.out], fun h => absurd h (by decide)⟩
                    case measure => simp [intOf]; omega
                  · obtain ⟨q, rfl⟩ := Int.eq_ofNat_of_zero_le (show 0 ≤ y from by omega)
                    have he9 := enc_le q (by omega)
                    have HN := Lib.hid (numO_ok (l := wl2) (n := q))
                    have hz : (⟨wl2.toArray⟩ : ByteArray).size + (⟨(enc q).toArray⟩ : ByteArray).size ≤ 9223372036854775807 := by rw [size_mk, size_mk]; omega
                    have HM := Lib.hid (mk_add wl2 (enc q))
                    go_wp2_with fail
                    refine (refnum15_any q _ (by omega)).mono ?_
                    rintro r wd ⟨rfl, hb⟩
                    have L4 := Lib.hid (L2.out.below hb)
                    clear hb
                    go_wp2_with fail
                    go_roundw
                    case rel => exact ⟨j + 1, 0, wl2 ++ enc q, by go_num, by omega, rfl, by rw [HM.out], by rw [List.length_append]; omega, L4, by show (0 : Int) = _; rw [E1.out, HN.out], fun _ => by rw [E1.out, HN.out]⟩
                    case measure => simp [intOf]; omega
                · have hst : numsO l e (o.L.take j) = numsO l e o.L := by rw [List.take_of_length_le (by omega)]
                  have ww := W2.out rfl
                  have qq := E2.out
                  rw [hst] at ww qq
                  obtain ⟨l3, e3, hs3⟩ : ∃ l3 e3, numsO l e o.L = (l3, e3) := ⟨_, _, rfl⟩
                  rw [hs3] at ww qq L2
                  simp only at ww qq
                  subst ww qq
                  have L3 := L2
                  have hl3 : wl2.length ≤ 200000 * (k + 1) := by omega
                  obtain ⟨l3, rfl⟩ : ∃ l3, l3 = wl2 := ⟨_, rfl⟩
                  clear hs3 hst NG NT L2 E2 W2 L1 LAY hw2 hsum x2
                  have x2 : wr.cell? ⟨wo.heap.size, 2, none⟩ = some (.slice AL o.L.length cL) := cell_at L3.out.x 2
                  have x3 : wr.cell? ⟨wo.heap.size, 3, none⟩ = some (.slice AT o.T.length cT) := cell_at L3.out.x 3
                  go_wp2_with fail
                  refine (layEnd L3.out).mono ?_
                  rintro r wd ⟨rfl, q, rfl⟩
                  go_wp2_with fail
                  refine (stays_Ints gm cm AL o.L.length cL o.L _ ?_ ?_ ?_).mono ?_
                  exact (L3.out.drewN _).m
                  exact SL.out.below (L3.out.drewN _).bel
                  omega
                  rintro r wd ⟨rfl, q2, rfl⟩
                  go_wp2_with fail
                  refine (stays_Texts gn cn AT o.T.length cT o.T _ ?_ ?_ ?_).mono ?_
                  exact (L3.out.drewN _).n
                  exact ST.out.below (L3.out.drewN _).bel
                  omega
                  rintro r wd ⟨rfl, q3, rfl⟩
                  go_wp2_with fail
                  go_roundw
                  case rel => exact ⟨k + 1, l3, l3, 0, by go_num, by omega, rfl, rfl, hl3, hl3, (L3.out.drewN _).outIs, fun _ => rfl, fun x => absurd rfl x⟩
                  case measure => simp [intOf]; omega
              · have hE := E2.out
                have hst := NT.out j (by rw [← hE]; exact he0)
                have hg := NG.out (by rw [hst, ← hE]; exact he0)
                have he3 : e2 = (numsO l e o.L).2 := by rw [hst]; exact hE
                obtain ⟨l3, e3, hs3⟩ : ∃ l3 e3, numsO l e o.L = (l3, e3) := ⟨_, _, rfl⟩
                rw [hs3] at hg he3 L2
                simp only at hg he3
                subst hg he3
                have L3 := L2
                have hl3 : wl2.length ≤ 200000 * (k + 1) := by omega
                have hb0 : (e2 == 0) = false := by simpa using he0
                have hb4 : (e2 != 0) = true := by simpa using he0
                have he2 := Lib.hid he0
                clear hs3 hst hE NG NT L2 E2 W2 L1 LAY hw2 hsum he0
                by_cases hjl : j < o.L.length
                all_goals
                  clear x2
                  have x2 : wr.cell? ⟨wo.heap.size, 2, none⟩ = some (.slice AL o.L.length cL) := cell_at L3.out.x 2
                  have x2 : wr.cell? ⟨wo.heap.size, 2, none⟩ = some (.slice AL o.L.length cL) := cell_at L3.out.x 2
                  have x3 : wr.cell? ⟨wo.heap.size, 3, none⟩ = some (.slice AT o.T.length cT) := cell_at L3.out.x 3
                  go_wp2_with fail
                  refine (layEnd L3.out).mono ?_
                  rintro r wd ⟨rfl, q, rfl⟩
                  go_wp2_with fail
                  refine (stays_Ints gm cm AL o.L.length cL o.L _ ?_ ?_ ?_).mono ?_
                  exact (L3.out.drewN _).m
                  exact SL.out.below (L3.out.drewN _).bel
                  omega
                  rintro r wd ⟨rfl, q2, rfl⟩
                  go_wp2_with fail
                  refine (stays_Texts gn cn AT o.T.length cT o.T _ ?_ ?_ ?_).mono ?_
                  exact (L3.out.drewN _).n
                  exact ST.out.below (L3.out.drewN _).bel
                  omega
                  rintro r wd ⟨rfl, q3, rfl⟩
                  go_wp2_with fail
                  go_roundw
                  case rel => exact ⟨k + 1, [], wl2, e2, by go_num, by omega, rfl, rfl, by simp, hl3, (L3.out.drewN _).outIs, fun x => absurd x he2.out, fun _ => rfl⟩
                  case measure => simp [intOf]; omega
        · have hb1 : (o.kind == 1) = false := by simpa using h1
          by_cases h2 : o.kind = 2
          · have hb2 : (o.kind == 2) = true := by simpa using h2
            clear h1 h2
            as_aux_lemma =>
              have xk : wb.cell? ⟨wo.heap.size, 0, none⟩ = some (.int .i64 o.kind) := cell_at LAY.out.x 0
              go_wp2_with fail
              refine (layByte LAY.out (by simp only; omega)).mono ?_
              rintro r wc ⟨rfl, hl1⟩
              have L1 := Lib.hid hl1
              have NG := Lib.hid (bytes_gone l e o.L HZ.out)
              have NT := Lib.hid (bytes_take l e o.L)
              clear hl1 xk
              have x2 : wc.cell? ⟨wo.heap.size, 2, none⟩ = some (.slice AL o.L.length cL) := cell_at L1.out.x 2
              go_wp2_with fail
              clear x2
              go_loopw [4, 5, 12] (fun v b i wr => ∃ (j : Nat) (e2 : Int) (wl2 : List UInt8), i = .int .i64 j ∧ j ≤ o.L.length ∧ b = .int .i64 e2 ∧ v = .string ⟨wl2.toArray⟩ ∧ wl2.length ≤ wl.length + j ∧ Hid (Lay w w2.heap.size (bytesO l e o.L) wo.heap.size o AL AT cL cT gm cm gn cn wr) ∧ Hid (e2 = (bytesO l e (o.L.take j)).2) ∧ Hid (e2 = 0 → wl2 = (bytesO l e (o.L.take j)).1)) (fun _ _ i _ => o.L.length - (intOf i).toNat)
              case atStart => exact ⟨0, e, wl, rfl, by omega, rfl, rfl, by simp, L1, rfl, HE.out⟩
              case round =>
                obtain ⟨j, e2, wl2, rfl, hj, rfl, rfl, hw2, L2, E2, W2⟩ := hrel
                have x2 : wr.cell? ⟨wo.heap.size, 2, none⟩ = some (.slice AL o.L.length cL) := cell_at L2.out.x 2
                have hsum : sum (o.T.take j) ≤ 20000 := Nat.le_trans (sum_take o.T j) sS
                by_cases he0 : e2 = 0
                · subst he0
                  by_cases hjl : j < o.L.length
                  · obtain ⟨y, hy⟩ : ∃ y, o.L[j]? = some y := ⟨o.L[j], List.getElem?_eq_getElem _⟩
                    have hym := List.mem_of_getElem? hy
                    obtain ⟨b3, off3, hAA, _, hc3⟩ := (SL.out.below L2.out.bel).2 (by omega)
                    subst hAA
                    have hcx := hc3 j (.int .i64 y) (by rw [List.getElem?_map, hy]; rfl)
                    have e1 : bytesO l e (o.L.take (j + 1)) = byteO (bytesO l e (o.L.take j)).1 (bytesO l e (o.L.take j)).2 y := by rw [take_next hy, bytesO_snoc]
                    rw [← W2.out rfl, ← E2.out] at e1
                    have E1 := Lib.hid e1
                    have H5 := Lib.hid (take_next hy)
                    clear hc3 hy e1
                    by_cases hy0 : 0 ≤ y ∧ y ≤ 255
                    · obtain ⟨hy1, hy2⟩ := hy0
                      have HN := Lib.hid (show byteO wl2 0 y = (wl2 ++ [UInt8.ofNat y.toNat], 0) from by rw [byteO, if_pos rfl, if_neg (by omega)])
                      have hcv := one_byte wr y hy1 hy2
                      have hz : (⟨wl2.toArray⟩ : ByteArray).size + (⟨[UInt8.ofNat y.toNat].toArray⟩ : ByteArray).size ≤ 9223372036854775807 := by rw [size_mk, size_mk]; simp; omega
                      have HM := Lib.hid (mk_add wl2 [UInt8.ofNat y.toNat])
                      have L4 := Lib.hid (L2.out.keep ((Keep.refl (fun _ => False) wr).alloc (.cells #[.int .u8 y] 5)))
                      go_wp2_with fail
                      go_roundw
                      case rel => exact ⟨j + 1, 0, wl2 ++ [UInt8.ofNat y.toNat], by go_num, by omega, rfl, by rw [← HM.out], by rw [List.length_append]; simp; omega, L4, by show (0 : Int) = _; rw [E1.out, HN.out], fun _ => by rw [E1.out, HN.out]⟩
                      case measure => simp [intOf]; omega
                    · have HN := Lib.hid (show byteO wl2 0 y = ([], 1) from by rw [byteO, if_pos rfl, if_pos (by omega)])
                      have hcase : y < 0 ∨ 255 < y := by omega
                      clear hy0
                      rcases hcase with hy0 | hy0
                      all_goals
                        go_wp2_with fail
                        go_roundw
                        case rel => exact ⟨j + 1, 1, wl2, by go_num, by omega, rfl, rfl, by omega, L2, by show (1 : Int) = _; rw [E1.out, HN.out], fun h => absurd h (by decide)⟩
                        case measure => simp [intOf]; omega
                  · have hst : bytesO l e (o.L.take j) = bytesO l e o.L := by rw [List.take_of_length_le (by omega)]
                    have ww := W2.out rfl
                    have qq := E2.out
                    rw [hst] at ww qq
                    obtain ⟨l3, e3, hs3⟩ : ∃ l3 e3, bytesO l e o.L = (l3, e3) := ⟨_, _, rfl⟩
                    rw [hs3] at ww qq L2
                    simp only at ww qq
                    subst ww qq
                    have L3 := L2
                    have hl3 : wl2.length ≤ 200000 * (k + 1) := by omega
                    obtain ⟨l3, rfl⟩ : ∃ l3, l3 = wl2 := ⟨_, rfl⟩
                    clear hs3 hst NG NT L2 E2 W2 L1 LAY hw2 hsum x2
                    have x2 : wr.cell? ⟨wo.heap.size, 2, none⟩ = some (.slice AL o.L.length cL) := cell_at L3.out.x 2
                    have x3 : wr.cell? ⟨wo.heap.size, 3, none⟩ = some (.slice AT o.T.length cT) := cell_at L3.out.x 3
                    go_wp2_with fail
                    refine (layEnd L3.out).mono ?_
                    rintro r wd ⟨rfl, q, rfl⟩
                    go_wp2_with fail
                    refine (stays_Ints gm cm AL o.L.length cL o.L _ ?_ ?_ ?_).mono ?_
                    exact (L3.out.drewN _).m
                    exact SL.out.below (L3.out.drewN _).bel
                    omega
                    rintro r wd ⟨rfl, q2, rfl⟩
                    go_wp2_with fail
                    refine (stays_Texts gn cn AT o.T.length cT o.T _ ?_ ?_ ?_).mono ?_
                    exact (L3.out.drewN _).n
                    exact ST.out.below (L3.out.drewN _).bel
                    omega
                    rintro r wd ⟨rfl, q3, rfl⟩
                    go_wp2_with fail
                    go_roundw
                    case rel => exact ⟨k + 1, l3, l3, 0, by go_num, by omega, rfl, rfl, hl3, hl3, (L3.out.drewN _).outIs, fun _ => rfl, fun x => absurd rfl x⟩
                    case measure => simp [intOf]; omega
                · have hE := E2.out
                  have hst := NT.out j (by rw [← hE]; exact he0)
                  have hg := NG.out (by rw [hst, ← hE]; exact he0)
                  have he3 : e2 = (bytesO l e o.L).2 := by rw [hst]; exact hE
                  obtain ⟨l3, e3, hs3⟩ : ∃ l3 e3, bytesO l e o.L = (l3, e3) := ⟨_, _, rfl⟩
                  rw [hs3] at hg he3 L2
                  simp only at hg he3
                  subst hg he3
                  have L3 := L2
                  have hl3 : wl2.length ≤ 200000 * (k + 1) := by omega
                  have hb0 : (e2 == 0) = false := by simpa using he0
                  have hb4 : (e2 != 0) = true := by simpa using he0
                  have he2 := Lib.hid he0
                  clear hs3 hst hE NG NT L2 E2 W2 L1 LAY hw2 hsum he0
                  by_cases hjl : j < o.L.length
                  all_goals
                    clear x2
                    have x2 : wr.cell? ⟨wo.heap.size, 2, none⟩ = some (.slice AL o.L.length cL) := cell_at L3.out.x 2
                    have x2 : wr.cell? ⟨wo.heap.size, 2, none⟩ = some (.slice AL o.L.length cL) := cell_at L3.out.x 2
                    have x3 : wr.cell? ⟨wo.heap.size, 3, none⟩ = some (.slice AT o.T.length cT) := cell_at L3.out.x 3
                    go_wp2_with fail
                    refine (layEnd L3.out).mono ?_
                    rintro r wd ⟨rfl, q, rfl⟩
                    go_wp2_with fail
                    refine (stays_Ints gm cm AL o.L.length cL o.L _ ?_ ?_ ?_).mono ?_
                    exact (L3.out.drewN _).m
                    exact SL.out.below (L3.out.drewN _).bel
                    omega
                    rintro r wd ⟨rfl, q2, rfl⟩
                    go_wp2_with fail
                    refine (stays_Texts gn cn AT o.T.length cT o.T _ ?_ ?_ ?_).mono ?_
                    exact (L3.out.drewN _).n
                    exact ST.out.below (L3.out.drewN _).bel
                    omega
                    rintro r wd ⟨rfl, q3, rfl⟩
                    go_wp2_with fail
                    go_roundw
                    case rel => exact ⟨k + 1, [], wl2, e2, by go_num, by omega, rfl, rfl, by simp, hl3, (L3.out.drewN _).outIs, fun x => absurd x he2.out, fun _ => rfl⟩
                    case measure => simp [intOf]; omega
          · have hb2 : (o.kind == 2) = false := by simpa using h2
            by_cases h3 : o.kind = 3
            · have hb3 : (o.kind == 3) = true := by simpa using h3
              clear h1 h2 h3
              as_aux_lemma =>
                have xk : wb.cell? ⟨wo.heap.size, 0, none⟩ = some (.int .i64 o.kind) := cell_at LAY.out.x 0
                go_wp2_with fail
                refine (layText LAY.out (by simp only; omega)).mono ?_
                rintro r wc ⟨rfl, hl1⟩
                clear xk
                have x3 : wc.cell? ⟨wo.heap.size, 3, none⟩ = some (.slice AT o.T.length cT) := cell_at hl1.x 3
                have L1 := Lib.hid hl1
                clear hl1
                by_cases he0 : e = 0
                · subst he0
                  have hw := HE.out rfl
                  subst hw
                  clear HE HZ
                  go_wp2_with fail
                  clear x3
                  go_loopw [4, 13] (fun v i wr => ∃ (j : Nat) (wl2 : List UInt8), i = .int .i64 j ∧ j ≤ o.T.length ∧ v = .string ⟨wl2.toArray⟩ ∧ wl2.length ≤ wl.length + (sum (o.T.take j) + 9 * j) ∧ Hid (Lay w w2.heap.size (textsO wl 0 o.T) wo.heap.size o AL AT cL cT gm cm gn cn wr) ∧ Hid (textsO wl 0 (o.T.take j) = (wl2, 0))) (fun _ i _ => o.T.length - (intOf i).toNat)
                  case atStart => exact ⟨0, wl, rfl, by omega, rfl, by simp, L1, rfl⟩
                  case round =>
                    obtain ⟨j, wl2, rfl, hj, rfl, hw2, L2, E2⟩ := hrel
                    have x3 : wr.cell? ⟨wo.heap.size, 3, none⟩ = some (.slice AT o.T.length cT) := cell_at L2.out.x 3
                    have hsum : sum (o.T.take j) ≤ 20000 := Nat.le_trans (sum_take o.T j) sS
                    by_cases hjl : j < o.T.length
                    · obtain ⟨y, hy⟩ : ∃ y, o.T[j]? = some y := ⟨o.T[j], List.getElem?_eq_getElem _⟩
                      have hym := List.mem_of_getElem? hy
                      obtain ⟨b3, off3, hAA, _, hc3⟩ := (ST.out.below L2.out.bel).2 (by omega)
                      subst hAA
                      have hcx := hc3 j (.string y) (by rw [List.getElem?_map, hy]; rfl)
                      have e1 : textsO wl 0 (o.T.take (j + 1)) = (wl2 ++ (enc y.size ++ y.data.toList), 0) := by rw [take_next hy, textsO_snoc, E2.out]; exact textO_ok
                      have E1 := Lib.hid e1
                      have H5 := Lib.hid (take_next hy)
                      clear hc3 hy e1
                      have hys : y.size ≤ 20000 := Nat.le_trans (sum_mem hym) sS
                      have he9 := enc_le y.size (by omega)
                      have hey := Lib.size_eq y
                      have hel : (enc y.size ++ y.data.toList).length ≤ 9 + y.size := by rw [List.length_append, ← hey]; omega
                      have hz : (⟨wl2.toArray⟩ : ByteArray).size + (⟨(enc y.size ++ y.data.toList).toArray⟩ : ByteArray).size ≤ 9223372036854775807 := by rw [size_mk, size_mk]; omega
                      have HM := Lib.hid (mk_add wl2 (enc y.size ++ y.data.toList))
                      have HEL := Lib.hid hel
                      clear hey hel
                      go_wp2_with fail
                      refine (reftext18_any y _ (by omega)).mono ?_
                      rintro r wd ⟨rfl, hb⟩
                      have L4 := Lib.hid (L2.out.below hb)
                      clear hb
                      go_wp2_with fail
                      go_roundw
                      case rel => exact ⟨j + 1, wl2 ++ (enc y.size ++ y.data.toList), by go_num, by omega, by rw [HM.out], by have := HEL.out; rw [List.length_append, H5.out, sum_snoc]; omega, L4, E1⟩
                      case measure => simp [intOf]; omega
                    · have hst : textsO wl 0 o.T = (wl2, 0) := by have h := E2.out; rwa [List.take_of_length_le (by omega)] at h
                      rw [hst] at L2
                      have L3 := L2
                      have hl3 : wl2.length ≤ 200000 * (k + 1) := by omega
                      obtain ⟨l3, rfl⟩ : ∃ l3, l3 = wl2 := ⟨_, rfl⟩
                      clear hst L2 E2 L1 LAY hw2 hsum x3
                      have x2 : wr.cell? ⟨wo.heap.size, 2, none⟩ = some (.slice AL o.L.length cL) := cell_at L3.out.x 2
                      have x3 : wr.cell? ⟨wo.heap.size, 3, none⟩ = some (.slice AT o.T.length cT) := cell_at L3.out.x 3
                      go_wp2_with fail
                      refine (layEnd L3.out).mono ?_
                      rintro r wd ⟨rfl, q, rfl⟩
                      go_wp2_with fail
                      refine (stays_Ints gm cm AL o.L.length cL o.L _ ?_ ?_ ?_).mono ?_
                      exact (L3.out.drewN _).m
                      exact SL.out.below (L3.out.drewN _).bel
                      omega
                      rintro r wd ⟨rfl, q2, rfl⟩
                      go_wp2_with fail
                      refine (stays_Texts gn cn AT o.T.length cT o.T _ ?_ ?_ ?_).mono ?_
                      exact (L3.out.drewN _).n
                      exact ST.out.below (L3.out.drewN _).bel
                      omega
                      rintro r wd ⟨rfl, q3, rfl⟩
                      go_wp2_with fail
                      go_roundw
                      case rel => exact ⟨k + 1, l3, l3, 0, by go_num, by omega, rfl, rfl, hl3, hl3, (L3.out.drewN _).outIs, fun _ => rfl, fun x => absurd rfl x⟩
                      case measure => simp [intOf]; omega
                · have hz := HZ.out he0
                  subst hz
                  have hst : textsO [] e o.T = ([], e) := fold_stays (fun (st : List UInt8 × Int) (s : ByteArray) => textO st.1 st.2 s) (fun st x hs => textO_bad st x hs) o.T ([], e) he0
                  simp only [hst] at L1
                  obtain ⟨e2, rfl⟩ : ∃ e2, e2 = e := ⟨_, rfl⟩
                  obtain ⟨wl2, rfl⟩ : ∃ wl2, wl2 = wl := ⟨_, rfl⟩
                  have hl3 : wl2.length ≤ 200000 * (k + 1) := by omega
                  have hb0 : (e2 == 0) = false := by simpa using he0
                  have hb4 : (e2 != 0) = true := by simpa using he0
                  have he2 := Lib.hid he0
                  clear hst he0 LAY
                  go_wp2_with fail
                  clear x3
                  go_loopw [4, 13] (fun v i wr => v = .string ⟨wl2.toArray⟩ ∧ i = .int .i64 0 ∧ Hid (Lay w w2.heap.size ([], e2) wo.heap.size o AL AT cL cT gm cm gn cn wr)) (fun _ _ _ => 0)
                  case atStart => exact ⟨rfl, rfl, L1⟩
                  case round =>
                    obtain ⟨rfl, rfl, L3⟩ := hrel
                    have x3 : wr.cell? ⟨wo.heap.size, 3, none⟩ = some (.slice AT o.T.length cT) := cell_at L3.out.x 3
                    clear L1
                    by_cases hjl : 0 < o.T.length
                    all_goals
                      clear x3
                      have x2 : wr.cell? ⟨wo.heap.size, 2, none⟩ = some (.slice AL o.L.length cL) := cell_at L3.out.x 2
                      have x3 : wr.cell? ⟨wo.heap.size, 3, none⟩ = some (.slice AT o.T.length cT) := cell_at L3.out.x 3
                      go_wp2_with fail
                      refine (layEnd L3.out).mono ?_
                      rintro r wd ⟨rfl, q, rfl⟩
                      go_wp2_with fail
                      refine (stays_Ints gm cm AL o.L.length cL o.L _ ?_ ?_ ?_).mono ?_
                      exact (L3.out.drewN _).m
                      exact SL.out.below (L3.out.drewN _).bel
                      omega
                      rintro r wd ⟨rfl, q2, rfl⟩
                      go_wp2_with fail
                      refine (stays_Texts gn cn AT o.T.length cT o.T _ ?_ ?_ ?_).mono ?_
                      exact (L3.out.drewN _).n
                      exact ST.out.below (L3.out.drewN _).bel
                      omega
                      rintro r wd ⟨rfl, q3, rfl⟩
                      go_wp2_with fail
                      go_roundw
                      case rel => exact ⟨k + 1, [], wl2, e2, by go_num, by omega, rfl, rfl, by simp, hl3, (L3.out.drewN _).outIs, fun x => absurd x he2.out, fun _ => rfl⟩
                      case measure => simp [intOf]; omega
            · have hb3 : (o.kind == 3) = false := by simpa using h3
              clear h1 h2 h3
              as_aux_lemma =>
                have xk : wb.cell? ⟨wo.heap.size, 0, none⟩ = some (.int .i64 o.kind) := cell_at LAY.out.x 0
                go_wp2_with fail
                refine (layRaw LAY.out (by omega) (by simp only; omega)).mono ?_
                rintro r wc ⟨rfl, hl1⟩
                clear xk
                obtain ⟨wr, rfl⟩ : ∃ wr : World, wr = wc := ⟨_, rfl⟩
                by_cases he0 : e = 0
                · subst he0
                  have hw := HE.out rfl
                  subst hw
                  simp only [rawsO_all] at hl1
                  have hjl := joinL_len o.T
                  have hM := mk_add wl (joinL o.T)
                  have hz : (⟨wl.toArray⟩ : ByteArray).size + (⟨(joinL o.T).toArray⟩ : ByteArray).size ≤ 9223372036854775807 := by rw [size_mk, size_mk]; omega
                  obtain ⟨l3, hl3e⟩ : ∃ l3, l3 = wl ++ joinL o.T := ⟨_, rfl⟩
                  rw [← hl3e] at hl1 hM
                  have hl3 : l3.length ≤ 200000 * (k + 1) := by rw [hl3e, List.length_append]; omega
                  have L3 := Lib.hid hl1
                  have x3 : wr.cell? ⟨wo.heap.size, 3, none⟩ = some (.slice AT o.T.length cT) := cell_at L3.out.x 3
                  clear hl1 hl3e hjl LAY
                  go_wp2_with fail
                  refine (join_any AT o.T.length cT o.T _ ?_ (by omega) (by omega)).mono ?_
                  exact ST.out.below L3.out.bel
                  rintro r wd ⟨rfl, rfl⟩
                  have x2 : wr.cell? ⟨wo.heap.size, 2, none⟩ = some (.slice AL o.L.length cL) := cell_at L3.out.x 2
                  have x3 : wr.cell? ⟨wo.heap.size, 3, none⟩ = some (.slice AT o.T.length cT) := cell_at L3.out.x 3
                  go_wp2_with fail
                  refine (layEnd L3.out).mono ?_
                  rintro r wd ⟨rfl, q, rfl⟩
                  go_wp2_with fail
                  refine (stays_Ints gm cm AL o.L.length cL o.L _ ?_ ?_ ?_).mono ?_
                  exact (L3.out.drewN _).m
                  exact SL.out.below (L3.out.drewN _).bel
                  omega
                  rintro r wd ⟨rfl, q2, rfl⟩
                  go_wp2_with fail
                  refine (stays_Texts gn cn AT o.T.length cT o.T _ ?_ ?_ ?_).mono ?_
                  exact (L3.out.drewN _).n
                  exact ST.out.below (L3.out.drewN _).bel
                  omega
                  rintro r wd ⟨rfl, q3, rfl⟩
                  go_wp2_with fail
                  go_roundw
                  case rel => exact ⟨k + 1, l3, l3, 0, by go_num, by omega, rfl, rfl, hl3, hl3, (L3.out.drewN _).outIs, fun _ => rfl, fun x => absurd rfl x⟩
                  case measure => simp [intOf]; omega
                · have hz := HZ.out he0
                  subst hz
                  simp only [rawsO_bad _ _ _ he0] at hl1
                  have L3 := Lib.hid hl1
                  obtain ⟨e2, rfl⟩ : ∃ e2, e2 = e := ⟨_, rfl⟩
                  obtain ⟨wl2, rfl⟩ : ∃ wl2, wl2 = wl := ⟨_, rfl⟩
                  have hl3 : wl2.length ≤ 200000 * (k + 1) := by omega
                  have hb0 : (e2 == 0) = false := by simpa using he0
                  have hb4 : (e2 != 0) = true := by simpa using he0
                  have he2 := Lib.hid he0
                  clear hl1 he0 LAY
                  have x2 : wr.cell? ⟨wo.heap.size, 2, none⟩ = some (.slice AL o.L.length cL) := cell_at L3.out.x 2
                  have x3 : wr.cell? ⟨wo.heap.size, 3, none⟩ = some (.slice AT o.T.length cT) := cell_at L3.out.x 3
                  go_wp2_with fail
                  refine (layEnd L3.out).mono ?_
                  rintro r wd ⟨rfl, q, rfl⟩
                  go_wp2_with fail
                  refine (stays_Ints gm cm AL o.L.length cL o.L _ ?_ ?_ ?_).mono ?_
                  exact (L3.out.drewN _).m
                  exact SL.out.below (L3.out.drewN _).bel
                  omega
                  rintro r wd ⟨rfl, q2, rfl⟩
                  go_wp2_with fail
                  refine (stays_Texts gn cn AT o.T.length cT o.T _ ?_ ?_ ?_).mono ?_
                  exact (L3.out.drewN _).n
                  exact ST.out.below (L3.out.drewN _).bel
                  omega
                  rintro r wd ⟨rfl, q3, rfl⟩
                  go_wp2_with fail
                  go_roundw
                  case rel => exact ⟨k + 1, [], wl2, e2, by go_num, by omega, rfl, rfl, by simp, hl3, (L3.out.drewN _).outIs, fun x => absurd x he2.out, fun _ => rfl⟩
                  case measure => simp [intOf]; omega
      · go_wp2_with fail
        go_ret
        exact ⟨rfl, H3.out.below⟩

theorem walk_CodecLays (A : Option Addr) (n cap : Nat) (ops : List OpV) (w : World) (h : OpsAt w A n ops) :
    Calls Try.prog 3 #[.slice A n cap] w fun e w' => e = .returned (.bool true) ∧ Below w.heap.size w w' := lays_good A n cap ops w h

end Go.Proofs.Ytlinmnlfcboicaa
