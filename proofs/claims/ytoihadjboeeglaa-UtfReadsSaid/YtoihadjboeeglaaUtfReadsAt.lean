/- Law UtfReads: what stands in memory at each round: a Reader, the document's Utf, a book of runes, the parts. Own work. -/
import Derived.Test.YtoihadjboeeglaaUtfRefA
import Derived.Test.YtoihadjboeeglaaBookApartR
namespace Go.Proofs.Ytoihadjboeeglaa
set_option linter.unusedVariables false
set_option linter.unusedSimpArgs false
open Go.RowKit

structure ReadsAt (w : World) (p q bq : Nat) (PA : Option Addr) (np : Nat) (ps : List ByteArray) (s : St) (B : List Nat) (A : Option Addr) (c : Nat) (own : Nat → Prop) (nn : Nat) (wr : World) : Prop where
  rd : RdU wr p 0 s
  rf : RfU wr q B A c
  bk : Rn.Book wr bq own nn
  pr : Src wr PA np (ps.map Value.string)
  pq : p ≠ q
  a1 : ∀ i, blk A = some i → i ≠ p ∧ ¬ own i ∧ blk PA ≠ some i ∧ w.heap.size ≤ i
  o1 : ∀ i, own i → i ≠ p ∧ i ≠ q ∧ blk PA ≠ some i ∧ w.heap.size ≤ i
  p1 : blk PA ≠ some p ∧ blk PA ≠ some q
  pl : ∀ i, blk PA = some i → i < wr.heap.size
  lp : w.heap.size ≤ p ∧ w.heap.size ≤ q
  be : Below w.heap.size w wr

namespace ReadsAt
variable {w wr w5 : World} {p q bq np nn c c' : Nat} {PA A A' : Option Addr} {ps : List ByteArray} {s s' : St} {B B' : List Nat} {own own' : Nat → Prop}

theorem quiet (h : ReadsAt w p q bq PA np ps s B A c own nn wr) (k : Keep (fun _ => False) wr w5) : ReadsAt w p q bq PA np ps s B A c own nn w5 :=
  { rd := h.rd.keep k (fun x => x), rf := h.rf.keep k (fun _ _ x => x), bk := h.bk.keep k (fun _ _ x => x), pr := h.pr.keep k, pq := h.pq, a1 := h.a1, o1 := h.o1, p1 := h.p1
    pl := fun i hi => Nat.lt_of_lt_of_le (h.pl i hi) k.size, lp := h.lp, be := h.be.trans (k.below h.be.size (fun _ _ x => x)) }

/-- The Reader has turned. -/
theorem fed (h : ReadsAt w p q bq PA np ps s B A c own nn wr) (k : Keep (fun i => i = p) wr w5) (r : RdU w5 p 0 s') : ReadsAt w p q bq PA np ps s' B A c own nn w5 :=
  { rd := r
    rf := h.rf.keep k (fun i hi e => by
      rcases hi with rfl | hi
      · exact h.pq e.symm
      · exact (h.a1 i hi).1 e)
    bk := h.bk.keep k (fun i hi e => (h.o1 i hi).1 e)
    pr := h.pr.of_keep k (fun i hi e => h.p1.1 (by rw [← show i = p from e]; exact hi))
    pq := h.pq, a1 := h.a1, o1 := h.o1, p1 := h.p1, pl := fun i hi => Nat.lt_of_lt_of_le (h.pl i hi) k.size, lp := h.lp
    be := h.be.trans (k.below h.be.size (fun i hi e => by have := h.lp.1; omega)) }

/-- A list was kept that lies in a new block. -/
theorem kept (h : ReadsAt w p q bq PA np ps s B A c own nn wr) {LA : Option Addr} (hL : ∀ i, blk LA = some i → i < wr.heap.size ∧ ¬ own i ∧ i ≠ p ∧ ¬ rfuOwn q A i ∧ blk PA ≠ some i ∧ w.heap.size ≤ i)
    (b : Rn.Book w5 bq own' (nn + 1)) (k : Keep own wr w5) (ho : ∀ i, own' i → own i ∨ blk LA = some i ∨ wr.heap.size ≤ i) : ReadsAt w p q bq PA np ps s B A c own' (nn + 1) w5 := by
  have hp := h.rd.lt
  have hq := h.rf.ltp
  have hs := h.be.size
  refine { rd := h.rd.keep k (fun e => (h.o1 p e).1 rfl), rf := h.rf.keep k (fun i hi e => ?_), bk := b, pr := h.pr.of_keep k (fun i hi e => (h.o1 i e).2.2.1 hi), pq := h.pq, a1 := fun i hi => ⟨(h.a1 i hi).1, fun e => ?_, (h.a1 i hi).2.2.1, (h.a1 i hi).2.2.2⟩, o1 := fun i hi => ?_, p1 := h.p1, pl := fun i hi => Nat.lt_of_lt_of_le (h.pl i hi) k.size, lp := h.lp, be := h.be.trans (k.below hs (fun i hi e => by have := (h.o1 i e).2.2.2; omega)) }
  · rcases hi with rfl | hi
    · exact (h.o1 _ e).2.1 rfl
    · exact (h.a1 i hi).2.1 e
  · rcases ho i e with x | x | x
    · exact (h.a1 i hi).2.1 x
    · exact (hL i x).2.2.2.1 (.inr hi)
    · have := h.rf.lt i hi; omega
  · rcases ho i hi with x | x | x
    · exact h.o1 i x
    · obtain ⟨_, _, l3, l4, l5, l6⟩ := hL i x
      exact ⟨l3, fun e => l4 (.inl e), l5, l6⟩
    · exact ⟨by omega, by omega, fun e => by have := h.pl i e; omega, by omega⟩

/-- The document's Utf has turned. -/
theorem told (h : ReadsAt w p q bq PA np ps s B A c own nn wr) (r : RfU w5 q B' A' c') (st : Step (rfuOwn q A) wr (rfuOwn q A') w5) : ReadsAt w p q bq PA np ps s B' A' c' own nn w5 := by
  have hp := h.rd.lt
  have hs := h.be.size
  have k := st.1
  refine { rd := h.rd.keep k (fun e => ?_), rf := r, bk := h.bk.keep k (fun i hi e => ?_), pr := h.pr.of_keep k (fun i hi e => ?_), pq := h.pq, a1 := fun i hi => ?_, o1 := h.o1, p1 := h.p1, pl := fun i hi => Nat.lt_of_lt_of_le (h.pl i hi) k.size, lp := h.lp, be := h.be.trans (k.below hs (fun i hi e => ?_)) }
  · rcases e with e | e
    · exact h.pq e
    · exact (h.a1 p e).1 rfl
  · rcases e with e | e
    · exact (h.o1 i hi).2.1 e
    · exact (h.a1 i e).2.1 hi
  · rcases e with e | e
    · exact h.p1.2 (by rw [← e]; exact hi)
    · exact (h.a1 i e).2.2.1 hi
  · have hne : i ≠ q := fun e => r.ne (by rw [← e]; exact hi)
    rcases st.2 i (.inr hi) with (x | x) | x
    · exact absurd x hne
    · exact h.a1 i x
    · exact ⟨by omega, fun e => by have := h.bk.lt i e; omega, fun e => by have := h.pl i e; omega, by omega⟩
  · rcases e with e | e
    · have := h.lp.2; omega
    · have := (h.a1 i e).2.2.2; omega
end ReadsAt

/-- One more list, of runes. -/
theorem book_put (w : World) (q : Nat) (own : Nat → Prop) (n : Nat) (h : Rn.Book w q own n) (A : Option Addr) (m c : Nat) (xs : List Int) (hit : Buf w A m c (xs.map (Value.int .i32))) (hm : m ≤ 4000) (hfar : ∀ k, blk A = some k → ¬ own k) (hfew : n < 250) :
    Calls Try.prog 12 #[.pointer (some ⟨q, 0, none⟩), .slice A m c] w fun e w' => e = .returned (.tuple #[]) ∧
      ∃ own', Rn.Book w' q own' (n + 1) ∧ Keep own w w' ∧ ∀ k, own' k → own k ∨ blk A = some k ∨ w.heap.size ≤ k := by
  obtain ⟨tA, tc, wA, wc, its, ws, hb, hl⟩ := h
  refine (Rn.bookT_put w q own tA wA tc wc its ws hb ⟨A, m, c, xs⟩ hit hm hfar (by omega)).mono ?_
  rintro e w' ⟨rfl, own', tA', tc', wA', wc', wt, h1, h2, h3⟩
  exact ⟨rfl, own', ⟨tA', tc', wA', wc', _, _, h1, by rw [List.length_append, hl]; rfl⟩, h2, h3⟩

end Go.Proofs.Ytoihadjboeeglaa
