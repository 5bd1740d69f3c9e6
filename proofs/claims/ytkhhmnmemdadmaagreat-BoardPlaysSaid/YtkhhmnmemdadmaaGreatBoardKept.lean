/- What law BoardPlays keeps: a board, a book of lists, a map, the names' order. Own work. -/
import Derived.Test.YtkhhmnmemdadmaaGreatBookApart
import Derived.Test.YtkhhmnmemdadmaaGreatBoardOps
namespace Go.Proofs.YtkhhmnmemdadmaaGreat
set_option linter.unusedVariables false
open Go.RowKit Go.Maps Go.WideMaps

/-- The board at p (names ks, numbers g), the map at mb (keys km, values f), the names' order at O, the book at q (k lists); X: a list that none of them has. -/
structure Plays (w0 : World) (p q mb : Nat) (ks : List (List UInt8)) (g : List UInt8 → Int) (km : List (List UInt8)) (f : List UInt8 → Int) (O : Option Addr) (oc : Nat) (ord : List (List UInt8)) (X : Option Addr) (k : Nat) (w : World) : Prop where
  ex : ∃ own a bown, BoardAt w p own ks a g 0 ∧ Book w q bown k ∧ (∀ i, own i → w0.heap.size ≤ i ∧ ¬ bown i ∧ i ≠ mb ∧ blk O ≠ some i ∧ blk X ≠ some i) ∧ (∀ i, bown i → w0.heap.size ≤ i ∧ i ≠ mb ∧ blk O ≠ some i ∧ blk X ≠ some i)
  map : MapS Tryz.prog 9 w mb km (fun x => .int .i64 (f x))
  mge : w0.heap.size ≤ mb
  zero : ∀ x, x ∉ km → f x = 0
  ord : Buf w O ord.length oc (ord.map encStr)
  oge : ∀ i, blk O = some i → w0.heap.size ≤ i ∧ i ≠ mb
  xge : ∀ i, blk X = some i → w0.heap.size ≤ i ∧ i < w.heap.size ∧ i ≠ mb ∧ blk O ≠ some i
  below : Below w0.heap.size w0 w

theorem zero_int (w : World) : (zeroValue 3).run Tryz.prog w = .ok (.int .i64 0) w := by kernel_rfl

namespace Plays
variable {w0 w w' : World} {p q mb : Nat} {ks : List (List UInt8)} {g : List UInt8 → Int} {km : List (List UInt8)} {f : List UInt8 → Int} {O : Option Addr} {oc : Nat} {ord : List (List UInt8)} {X : Option Addr} {k : Nat}

theorem keep (h : Plays w0 p q mb ks g km f O oc ord X k w) (kk : Keep (fun _ => False) w w') : Plays w0 p q mb ks g km f O oc ord X k w' := by
  obtain ⟨own, a, bown, h1, h2, h3, h4⟩ := h.ex
  exact ⟨⟨own, a, bown, h1.keep kk (fun _ _ x => x), h2.keep kk (fun _ _ x => x), h3, h4⟩, h.map.keep kk (fun x => x), h.mge, h.zero, h.ord.keep kk (fun _ _ x => x), h.oge, fun i hi => by obtain ⟨a1, a2, a3⟩ := h.xge i hi; exact ⟨a1, Nat.lt_of_lt_of_le a2 kk.size, a3⟩,
    h.below.trans (kk.below h.below.size (fun _ _ x => x))⟩

theorem drew (h : Plays w0 p q mb ks g km f O oc ord X k w) : Plays w0 p q mb ks g km f O oc ord X k w.drew := h.keep (Keep.refl _ w).drew
theorem drewN (h : Plays w0 p q mb ks g km f O oc ord X k w) (n : Nat) : Plays w0 p q mb ks g km f O oc ord X k (w.drewN n) := h.keep ((Keep.refl _ w).drewN n)

/-- A turn that the board's own blocks alone saw. -/
theorem board (h : Plays w0 p q mb ks g km f O oc ord X k w) {own own' : Nat → Prop} {a : List UInt8 → Nat} {bown : Nat → Prop} (h2 : Book w q bown k) (h3 : ∀ i, own i → w0.heap.size ≤ i ∧ ¬ bown i ∧ i ≠ mb ∧ blk O ≠ some i ∧ blk X ≠ some i) (h4 : ∀ i, bown i → w0.heap.size ≤ i ∧ i ≠ mb ∧ blk O ≠ some i ∧ blk X ≠ some i)
    {ks' : List (List UInt8)} {g' : List UInt8 → Int} (b : BoardAt w' p own' ks' a g' 0) (s : Step own w own' w') : Plays w0 p q mb ks' g' km f O oc ord X k w' ∧ ∃ a bown', BoardAt w' p own' ks' a g' 0 ∧ Book w' q bown' k ∧ (∀ i, own' i → w0.heap.size ≤ i ∧ ¬ bown' i ∧ i ≠ mb ∧ blk O ≠ some i ∧ blk X ≠ some i) ∧ (∀ i, bown' i → w0.heap.size ≤ i ∧ i < w.heap.size ∧ i ≠ mb ∧ blk O ≠ some i ∧ blk X ≠ some i) := by
  have hml := h.map.lt
  have h5 : ∀ i, own' i → w0.heap.size ≤ i ∧ ¬ bown i ∧ i ≠ mb ∧ blk O ≠ some i ∧ blk X ≠ some i := fun i hi => by
    rcases s.2 i hi with e | e
    · exact h3 i e
    · refine ⟨Nat.le_trans h.below.size e, fun x => by have := h2.lt i x; omega, by omega, fun x => by have := h.ord.lt x; omega, fun x => by have := (h.xge i x).2.1; omega⟩
  have hb := h2.keep s.1 (fun i hi e => (h3 i e).2.1 hi)
  exact ⟨⟨⟨own', a, bown, b, hb, h5, h4⟩, h.map.keep s.1 (fun e => (h3 mb e).2.2.1 rfl), h.mge, h.zero, h.ord.keep s.1 (fun i hi e => (h3 i e).2.2.2.1 hi), h.oge, fun i hi => by obtain ⟨a1, a2, a3⟩ := h.xge i hi; exact ⟨a1, Nat.lt_of_lt_of_le a2 s.1.size, a3⟩,
    h.below.trans (s.1.below h.below.size (fun i hi e => by have := (h3 i e).1; omega))⟩, a, bown, b, hb, h5, fun i hi => ⟨(h4 i hi).1, h2.lt i hi, (h4 i hi).2⟩⟩

theorem isAdd (h : Plays w0 p q mb ks g km f O oc ord X k w) (s : ByteArray) (n : Int) (hs : s.size ≤ maxLen) (hlen : ks.length ≤ 1000000) (hn : -9223372036854775808 ≤ n ∧ n ≤ 9223372036854775807) :
    Calls Tryz.prog 6 #[.pointer (some ⟨p, 0, none⟩), .string s, .int .i64 n] w fun e w' => e = .returned (.int .i64 (wrap64 (g s.data.toList + n))) ∧ Plays w0 p q mb (insKey s.data.toList ks) (setAt g s.data.toList (wrap64 (g s.data.toList + n))) km f O oc ord X k w' := by
  obtain ⟨own, a, bown, h1, h2, h3, h4⟩ := h.ex
  refine (badd_any p own ks a g s n w h1 hs hlen hn).mono ?_
  rintro e w' ⟨own', a', rfl, b, st⟩
  exact ⟨rfl, (h.board h2 h3 h4 b st).1⟩

theorem isNow (h : Plays w0 p q mb ks g km f O oc ord X k w) (s : ByteArray) (hs : s.size ≤ maxLen) :
    Calls Tryz.prog 7 #[.pointer (some ⟨p, 0, none⟩), .string s] w fun e w' => e = .returned (.int .i64 (g s.data.toList)) ∧ Plays w0 p q mb ks g km f O oc ord X k w' := by
  obtain ⟨own, a, bown, h1, h2, h3, h4⟩ := h.ex
  refine (bnow_any p own ks a g s w h1 hs).mono ?_
  rintro e w' ⟨own', rfl, b, st⟩
  exact ⟨rfl, (h.board h2 h3 h4 b st).1⟩

theorem isNames (h : Plays w0 p q mb ks g km f O oc ord X k w) (hlen : ks.length ≤ 1000000) :
    Calls Tryz.prog 5 #[.pointer (some ⟨p, 0, none⟩)] w fun e w' => ∃ Y yc, e = .returned (.slice Y ks.length yc) ∧ Plays w0 p q mb ks g km f O oc ord Y k w' ∧ Buf w' Y ks.length yc ((rising ks).map encStr) := by
  obtain ⟨own, a, bown, h1, h2, h3, h4⟩ := h.ex
  refine (bnames_any p own ks a g w h1 hlen).mono ?_
  rintro e w' ⟨v, own', rfl, b, st, ow, far⟩
  obtain ⟨pl, a', bown', b1, b2, b3, b4⟩ := h.board h2 h3 h4 b st
  obtain ⟨Y, yc, rfl, -⟩ := own_form ow
  have hml := h.map.lt
  have ge : ∀ i, blk Y = some i → w.heap.size ≤ i ∧ i < w'.heap.size ∧ ¬ own' i := fun i hi => ⟨(ow.lt i (by rw [ownBlock_slice]; exact hi)).1, (ow.lt i (by rw [ownBlock_slice]; exact hi)).2, far i (by rw [ownBlock_slice]; exact hi)⟩
  refine ⟨Y, yc, rfl, ⟨⟨own', a', bown', b1, b2, fun i hi => ?_, fun i hi => ?_⟩, pl.map, pl.mge, pl.zero, pl.ord, pl.oge, fun i hi => ?_, pl.below⟩, Buf.of_own ow⟩
  · obtain ⟨a1, a2, a3, a4, _⟩ := b3 i hi
    exact ⟨a1, a2, a3, a4, fun e => (ge i e).2.2 hi⟩
  · obtain ⟨a1, a2, a3, a4, _⟩ := b4 i hi
    exact ⟨a1, a3, a4, fun e => by have := (ge i e).1; omega⟩
  · obtain ⟨a1, a2, a3⟩ := ge i hi
    exact ⟨Nat.le_trans h.below.size a1, a2, by omega, fun e => by have := h.ord.lt e; omega⟩

theorem isTexts (h : Plays w0 p q mb ks g km f O oc ord X k w) (n xc : Nat) (xs : List (List UInt8)) (hX : Buf w X n xc (xs.map encStr)) (hn : n ≤ 1000) (hk : k < 250) :
    Calls Tryz.prog 8 #[.pointer (some ⟨q, 0, none⟩), .slice X n xc] w fun e w' => e = .returned (.tuple #[]) ∧ Plays w0 p q mb ks g km f O oc ord none (k + 1) w' ∧ Buf w' X n xc (xs.map encStr) := by
  obtain ⟨own, a, bown, h1, ⟨tA, tc, wA, wc, its, ws, hb, hl⟩, h3, h4⟩ := h.ex
  have hml := h.map.lt
  have hX2 : Buf w X n xc ((xs.map fun x => (⟨x.toArray⟩ : ByteArray)).map Value.string) := by rw [List.map_map]; exact hX
  refine (bookT_put w q bown tA wA tc wc its ws hb ⟨X, n, xc, xs.map fun x => ⟨x.toArray⟩⟩ hX2 hn (fun z hz e => (h4 z e).2.2.2 hz) (by omega)).mono ?_
  rintro e w' ⟨rfl, bown', tA', tc', wA', wc', wt, b, kk, hs⟩
  have h5 : ∀ i, bown' i → w0.heap.size ≤ i ∧ i ≠ mb ∧ blk O ≠ some i ∧ ¬ own i := fun i hi => by
    rcases hs i hi with e | e | e
    · exact ⟨(h4 i e).1, (h4 i e).2.1, (h4 i e).2.2.1, fun x => (h3 i x).2.1 e⟩
    · exact ⟨(h.xge i e).1, (h.xge i e).2.2.1, (h.xge i e).2.2.2, fun x => (h3 i x).2.2.2.2 e⟩
    · exact ⟨Nat.le_trans h.below.size e, by omega, fun x => by have := h.ord.lt x; omega, fun x => by have := h1.lt i x; omega⟩
  refine ⟨rfl, ⟨⟨own, a, bown', h1.keep kk (fun i hi e => (h3 i hi).2.1 e), ⟨_, _, _, _, _, _, b, by simp [hl]⟩, fun i hi => ?_, fun i hi => ?_⟩, h.map.keep kk (fun e => (h4 mb e).2.1 rfl), h.mge, h.zero, h.ord.keep kk (fun i hi e => (h4 i e).2.2.1 hi), h.oge, fun i hi => by simp [blk] at hi, h.below.trans (kk.below h.below.size (fun i hi e => by have := (h4 i e).1; omega))⟩, hX.keep kk (fun i hi e => (h4 i e).2.2.2 hi)⟩
  · exact ⟨(h3 i hi).1, fun x => (h5 i x).2.2.2 hi, (h3 i hi).2.2.1, (h3 i hi).2.2.2.1, by simp [blk]⟩
  · exact ⟨(h5 i hi).1, (h5 i hi).2.1, (h5 i hi).2.2.1, by simp [blk]⟩

theorem isApart (h : Plays w0 p q mb ks g km f O oc ord X k w) (hk : k ≤ 250) : Calls Tryz.prog 10 #[.pointer (some ⟨q, 0, none⟩)] w fun e w' => e = .returned (.bool true) ∧ Below w0.heap.size w0 w' := by
  obtain ⟨own, a, bown, h1, h2, h3, h4⟩ := h.ex
  refine (book_apart w q bown k h2 hk).mono ?_
  rintro e w' ⟨rfl, kk⟩
  exact ⟨rfl, h.below.trans (kk.below h.below.size (fun i hi e => by have := (h4 i e).1; omega))⟩

theorem look (h : Plays w0 p q mb ks g km f O oc ord X k w) {s : ByteArray} (hs : s.size ≤ maxLen) : (Instr.lookup 41 (.map (some mb)) (.string s) false).run Tryz.prog w = .ok (.int .i64 (f s.data.toList)) w := by
  by_cases e : s.data.toList ∈ km
  · exact h.map.look_in Tryz.underlying9 Tryz.underlying41 (zero_int w) hs e
  · rw [h.zero _ e]
    exact h.map.look_out Tryz.underlying9 Tryz.underlying41 (zero_int w) hs e

theorem ask_in (h : Plays w0 p q mb ks g km f O oc ord X k w) {s : ByteArray} (hs : s.size ≤ maxLen) (e : s.data.toList ∈ km) : (Instr.lookup 41 (.map (some mb)) (.string s) true).run Tryz.prog w = .ok (.tuple #[.int .i64 (f s.data.toList), .bool true]) w :=
  (h.map.ask Tryz.underlying9 Tryz.underlying41 (zero_int w) hs).1 e

theorem ask_out (h : Plays w0 p q mb ks g km f O oc ord X k w) {s : ByteArray} (hs : s.size ≤ maxLen) (e : s.data.toList ∉ km) : (Instr.lookup 41 (.map (some mb)) (.string s) true).run Tryz.prog w = .ok (.tuple #[.int .i64 0, .bool false]) w :=
  (h.map.ask Tryz.underlying9 Tryz.underlying41 (zero_int w) hs).2 e

/-- The map's store. -/
theorem put (h : Plays w0 p q mb ks g km f O oc ord X k w) {s : List UInt8} {v : Int} (hm : MapS Tryz.prog 9 w' mb (insKey s km) (setAt (fun x => .int .i64 (f x)) s (.int .i64 v))) (hg : w.grownBy w' (some mb)) : Plays w0 p q mb ks g (insKey s km) (setAt f s v) O oc ord X k w' := by
  obtain ⟨own, a, bown, h1, h2, h3, h4⟩ := h.ex
  have kk : Keep (fun i => i = mb) w w' := (Keep.refl (fun i => i = mb) w).grown hg (fun i e _ => by injection e with e; exact e.symm)
  refine ⟨⟨own, a, bown, h1.keep kk (fun i hi e => (h3 i hi).2.2.1 e), h2.keep kk (fun i hi e => (h4 i hi).2.1 e), h3, h4⟩, hm.congr (fun x _ => ?_), h.mge, fun x hx => ?_, h.ord.keep kk (fun i hi e => (h.oge i hi).2 e), h.oge, fun i hi => by obtain ⟨a1, a2, a3⟩ := h.xge i hi; exact ⟨a1, Nat.lt_of_lt_of_le a2 kk.size, a3⟩,
    h.below.trans (kk.below h.below.size (fun i hi e => by have := h.mge; omega))⟩
  · simp only [setAt]; split <;> rfl
  · have hx2 : x ≠ s ∧ x ∉ km := ⟨fun e => hx (mem_insKey.2 (.inl e)), fun e => hx (mem_insKey.2 (.inr e))⟩
    rw [setAt_other f v hx2.1]
    exact h.zero x hx2.2

/-- Another order, in a new block. -/
theorem order (h : Plays w0 p q mb ks g km f O oc ord none k w) (kk : Keep (fun _ => False) w w') {O' : Option Addr} {oc' : Nat} {ord' : List (List UInt8)} (b : Buf w' O' ord'.length oc' (ord'.map encStr)) (hf : ∀ i, blk O' = some i → w.heap.size ≤ i) : Plays w0 p q mb ks g km f O' oc' ord' none k w' := by
  have h' := h.keep kk
  obtain ⟨own, a, bown, h1, h2, h3, h4⟩ := h.ex
  have hml := h.map.lt
  refine ⟨⟨own, a, bown, h1.keep kk (fun _ _ x => x), h2.keep kk (fun _ _ x => x), fun i hi => ⟨(h3 i hi).1, (h3 i hi).2.1, (h3 i hi).2.2.1, fun e => by have := hf i e; have := h1.lt i hi; omega, by simp [blk]⟩, fun i hi => ⟨(h4 i hi).1, (h4 i hi).2.1, fun e => by have := hf i e; have := h2.lt i hi; omega, by simp [blk]⟩⟩, h'.map, h.mge, h.zero, b, fun i hi => ⟨Nat.le_trans h.below.size (hf i hi), by have := hf i hi; omega⟩, fun i hi => by simp [blk] at hi, h'.below⟩

theorem forget (h : Plays w0 p q mb ks g km f O oc ord X k w) : Plays w0 p q mb ks g km f O oc ord none k w := by
  obtain ⟨own, a, bown, h1, h2, h3, h4⟩ := h.ex
  exact ⟨⟨own, a, bown, h1, h2, fun i hi => by obtain ⟨a1, a2, a3, a4, _⟩ := h3 i hi; exact ⟨a1, a2, a3, a4, by simp [blk]⟩, fun i hi => by obtain ⟨a1, a2, a3, _⟩ := h4 i hi; exact ⟨a1, a2, a3, by simp [blk]⟩⟩, h.map, h.mge, h.zero, h.ord, h.oge, fun i hi => by simp [blk] at hi, h.below⟩

end Plays

/-- m[s] = v at an operation of whatever region. -/
theorem wp_update_S {P : Program} (w : World) {o : Oper} {a : Act} {K : Act → World → Prop} {Q : Exit → Act → World → Prop} (m x v : Operand) (t : TypeId) (hop : o.op = Op.mapUpdate t m x v) (K' e : TypeId) (hK : P.underlying K' = some .string) (ht : P.underlying t = some (.map K' e)) (b : Nat) (ks : List (List UInt8)) (f : List UInt8 → Value)
    (hm : a.eval m = .map (some b)) (h : MapS P K' w b ks f) (hn : ks.length < maxLen) (s : ByteArray) (hs : s.size ≤ maxLen) (hx : a.eval x = .string s)
    (hK' : ∀ w', MapS P K' w' b (insKey s.data.toList ks) (setAt f s.data.toList (a.eval v)) → w.grownBy w' (some b) → K (a.put o.dst undef) w') : Oper.wp P o a w K Q := by
  obtain ⟨D, h1, h2, h3, h4⟩ := h
  obtain ⟨w', hrun, r1, r2⟩ := h1.update (val := a.eval v) (string_keyed hK) ht hn (keyOf_string_mk hK hs) (d := .held (a.eval v)) (ps := []) rfl
  unfold Oper.wp
  simp [execOp, hop, hm, hx, hrun, Result.andThen]
  exact hK' w' (MapS.put h2 h3 h4 h1.isMap hK r1) r2

theorem rising_nil : rising [] = [] := by simp [rising]

/-- Three fresh objects. -/
theorem plays_made {w0 w : World} (hb : Below w0.heap.size w0 w) (o : Obj) (ho : o = .cells #[.int .u32 0, .int .i32 0, .int .u32 0, .int .i32 0, .int .u32 0, .map none] 40) (o2 : Obj) (ho2 : o2 = .cells (Array.replicate 16 (.slice none 0 0)) 52) :
    Plays w0 w.heap.size (w.heap.size + 1 + 1) (w.heap.size + 1) [] (fun _ => 0) [] (fun _ => 0) none 0 (rising []) none 0 (((w.alloc o).alloc (.map #[] 0)).alloc o2) := by
  have h1 := BoardAt.made (a := fun _ => 0) w w.heap.size rfl o ho
  have h2 := MapS.made Tryz.prog 9 (w.alloc o) (fun _ => .int .i64 0) (w.heap.size + 1) (by simp)
  have h3 := Book.made ((w.alloc o).alloc (.map #[] 0)) (w.heap.size + 1 + 1) (by simp) o2 ho2
  have hsz := hb.size
  refine ⟨⟨_, _, _, (h1.keep (S := fun _ => False) ((Keep.refl _ _).alloc _) (fun _ _ x => x)).keep (S := fun _ => False) ((Keep.refl _ _).alloc o2) (fun _ _ x => x), h3, fun i e => ⟨by omega, by omega, by omega, by simp [blk], by simp [blk]⟩, fun i e => ⟨by omega, by omega, by simp [blk], by simp [blk]⟩⟩,
    h2.keep (S := fun _ => False) ((Keep.refl _ _).alloc o2) (fun x => x), by omega, fun _ _ => rfl, by rw [rising_nil]; exact Buf.nil _, fun i hi => by simp [blk] at hi, fun i hi => by simp [blk] at hi, ((hb.alloc hsz o).alloc (by simp; omega) _).alloc (by simp; omega) o2⟩

/-- A row's beginning, and its end, as they are cut off. -/
theorem buf_low {w : World} {O : Option Addr} {n c : Nat} {xs : List Value} (h : Buf w O n c xs) (j : Nat) (hj : j ≤ n) : ∃ B, sliced O 0 j c 1 = .slice B j c ∧ Src w B j (xs.take j) := by
  rcases h with ⟨rfl, rfl, rfl, rfl⟩ | ⟨b, off, rfl, hb, r⟩
  · obtain rfl : j = 0 := by omega
    exact ⟨none, rfl, rfl, fun h => absurd h (by omega)⟩
  · refine ⟨some ⟨b, off, none⟩, ?_, ?_⟩
    · simp [sliced, add_mk]
    · exact Buf.src (c := c) (.inr ⟨b, off, rfl, hb, r.take j hj⟩)

theorem buf_start {w : World} {O : Option Addr} {n c : Nat} {l : List (List UInt8)} (h : Buf w O n c (l.map encStr)) (j : Nat) (hj : j ≤ n) : Src w O j ((l.take j).map encStr) := by
  have hl := h.len
  have := h.src
  rw [List.length_map] at hl
  rw [← List.take_append_drop j l, List.map_append] at this
  exact src_take this (by rw [List.length_map, List.length_take]; omega)

theorem buf_high {w : World} {O : Option Addr} {n c : Nat} {xs : List Value} (h : Buf w O n c xs) (j : Nat) (hj : j ≤ n) : ∃ B, sliced O j n c 1 = .slice B (n - j) (c - j) ∧ Src w B (n - j) (xs.drop j) := by
  rcases h with ⟨rfl, rfl, rfl, rfl⟩ | ⟨b, off, rfl, hb, r⟩
  · obtain rfl : j = 0 := by omega
    exact ⟨none, rfl, rfl, fun h => absurd h (by omega)⟩
  · by_cases e : c = j
    · refine ⟨some ⟨b, off, none⟩, by simp [sliced, e], ?_⟩
      have hl := r.len
      have hle := r.le
      have : n - j = 0 := by omega
      rw [this, List.drop_of_length_le (by omega)]
      exact ⟨rfl, fun h => absurd h (by omega)⟩
    · refine ⟨some ⟨b, off + j, none⟩, by simp [sliced, e, add_mk], ?_⟩
      exact Buf.src (c := c - j) (.inr ⟨b, off + j, rfl, hb, r.drop j hj⟩)

theorem one_enc (l : List (List UInt8)) : ∀ u ∈ l.map encStr, u.oneCell' = true := fun u hu => by
  obtain ⟨x, _, rfl⟩ := List.mem_map.1 hu
  rfl

/-- Three appends in a row, the first of them to nil. -/
theorem three_appends {w w1 w2 w3 w4 : World} (kA : Keep (fun _ => False) w w1) {A3 A4 : Option Addr} (k3 : Keep (fun k => blk none = some k) w1 w2) (p3 : ∀ k, blk A3 = some k → blk none = some k ∨ w1.heap.size ≤ k) (kB : Keep (fun _ => False) w2 w3)
    (k4 : Keep (fun k => blk A3 = some k) w3 w4) (p4 : ∀ k, blk A4 = some k → blk A3 = some k ∨ w3.heap.size ≤ k) : (Keep (fun _ => False) w w3 ∧ Keep (fun _ => False) w w4) ∧ ∀ A5 w5, Keep (fun k => blk A4 = some k) w4 w5 → (∀ k, blk A5 = some k → blk A4 = some k ∨ w4.heap.size ≤ k) → Keep (fun _ => False) w w5 ∧ ∀ k, blk A5 = some k → w.heap.size ≤ k := by
  have s1 := kA.size
  have s2 := k3.size
  have s3 := kB.size
  have s4 := k4.size
  have f3 : ∀ k, blk A3 = some k → w.heap.size ≤ k := fun k hk => by
    rcases p3 k hk with e | e
    · simp [blk] at e
    · omega
  have f4 : ∀ k, blk A4 = some k → w.heap.size ≤ k := fun k hk => by
    rcases p4 k hk with e | e
    · exact f3 k e
    · omega
  have q3 : Keep (fun _ => False) w w3 := (kA.trans k3 (fun _ _ x => by simp [blk] at x)).trans kB (fun _ _ x => x)
  have q4 : Keep (fun _ => False) w w4 := q3.trans k4 (fun i hi x => by have := f3 i x; omega)
  refine ⟨⟨q3, q4⟩, fun A5 w5 k5 p5 => ⟨q4.trans k5 (fun i hi x => by have := f4 i x; omega), fun k hk => ?_⟩⟩
  rcases p5 k hk with e | e
  · exact f4 k e
  · omega

theorem buf_end {w : World} {O : Option Addr} {n c : Nat} {l : List (List UInt8)} (h : Buf w O n c (l.map encStr)) (j : Nat) (hj : j ≤ n) : Src w (if c = j then O else O.map (·.add j)) (n - j) ((l.drop j).map encStr) := by
  rw [List.map_drop]
  obtain ⟨B, e, hs⟩ := buf_high h j hj
  simp only [sliced, Nat.mul_one] at e
  injection e with e1 _ _
  rw [← e1] at hs
  exact hs

/-- A name is laid into a rising row. -/
theorem rising_insert {ks : List (List UInt8)} {s : List UInt8} {j : Nat} (hs : s ∉ ks) (h1 : ∀ (i : Nat) (y : List UInt8), i < j → (rising ks)[i]? = some y → y < s) (h2 : ∀ y, (rising ks)[j]? = some y → ¬ y < s) :
    rising (insKey s ks) = (rising ks).take j ++ [s] ++ (rising ks).drop j := by
  have srt := rising_sorted ks
  have hp : (insKey s ks).Perm ((rising ks).take j ++ [s] ++ (rising ks).drop j) := by
    rw [insKey_out hs, List.append_assoc]
    refine List.Perm.trans ?_ (List.perm_middle).symm
    show (s :: ks).Perm (s :: (List.take j (rising ks) ++ List.drop j (rising ks)))
    rw [List.take_append_drop]
    exact (List.mergeSort_perm ks leB).symm.cons s
  rw [rising_perm hp]
  refine List.mergeSort_of_pairwise ?_
  have low : ∀ x ∈ (rising ks).take j, x ≤ s := fun x hx => by
    obtain ⟨i, hi, rfl⟩ := List.mem_iff_getElem.1 hx
    rw [List.length_take] at hi
    rw [List.getElem_take]
    exact List.le_of_lt (h1 i _ (by omega) (List.getElem?_eq_getElem _))
  have high : ∀ y ∈ (rising ks).drop j, s ≤ y := fun y hy => by
    obtain ⟨i, hi, rfl⟩ := List.mem_iff_getElem.1 hy
    rw [List.length_drop] at hi
    rw [List.getElem_drop]
    have hj : s ≤ (rising ks)[j]'(by omega) := List.not_lt.1 (h2 _ (List.getElem?_eq_getElem _))
    rcases Nat.eq_zero_or_pos i with e | e
    · subst e; exact hj
    · exact List.le_trans hj (List.pairwise_iff_getElem.1 srt j (j + i) (by omega) (by omega) (by omega))
  have all : ((rising ks).take j ++ [s] ++ (rising ks).drop j).Pairwise (fun x y => x ≤ y) := by
    rw [List.append_assoc, List.pairwise_append]
    refine ⟨srt.sublist (List.take_sublist _ _), ?_, fun x hx y hy => ?_⟩
    · rw [List.singleton_append, List.pairwise_cons]
      exact ⟨high, srt.sublist (List.drop_sublist _ _)⟩
    · rw [List.singleton_append] at hy
      rcases List.mem_cons.1 hy with rfl | hy
      · exact low x hx
      · exact List.le_trans (low x hx) (high y hy)
  exact all.imp (fun h => by simpa [leB] using h)

end Go.Proofs.YtkhhmnmemdadmaaGreat
