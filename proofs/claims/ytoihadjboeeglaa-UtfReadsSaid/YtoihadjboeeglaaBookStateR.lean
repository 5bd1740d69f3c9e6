/- pontoonbook.Book with lists of texts: what is kept, and how one more is kept. By program in part (booktexts.py). Own work. -/
import Derived.Test.YtoihadjboeeglaaBookNameR
import Derived.Test.YtoihadjboeeglaaBookNone
import Derived.Deep.RegionHeld3
set_option linter.unusedVariables false
set_option linter.unusedSimpArgs false
namespace Go.Proofs.Ytoihadjboeeglaa.Rn
set_option linter.unusedVariables false
open Go.RowKit

/-- A list that was kept. -/
structure Item where
  A : Option Addr
  n : Nat
  c : Nat
  xs : List Int

def Item.val (i : Item) : Value := .slice i.A i.n i.c

theorem vals_one (its : List Item) : ∀ u ∈ its.map Item.val, u.oneCell' = true := by
  intro u hu
  obtain ⟨x, _, rfl⟩ := List.mem_map.1 hu
  rfl

theorem runes_info : (Try.prog.info? 46).map (fun i => (i.zero, i.size, i.bytes)) = some (some (.slice none 0 0), 1, 24) := by kernel_rfl

/-- A book's block: lists of texts alone. -/
def BookBlk (w : World) (q : Nat) (tA : Option Addr) (n tc : Nat) (wA : Option Addr) (m wc : Nat) : Prop :=
  w.heap[q]? = some (.cells #[.slice none 0 0, .slice none 0 0, .slice none 0 0, .slice none 0 0, .slice tA n tc, .slice wA m wc, .slice none 0 0, .slice none 0 0, .slice none 0 0, .slice none 0 0, .slice none 0 0, .slice none 0 0, .slice none 0 0, .slice none 0 0, .slice none 0 0, .slice none 0 0] 43 (0, 0))

/-- A book: its block, the rows of its lists and of their copies, the lists, the copies; no two of them share a block. -/
structure BookT (w : World) (q : Nat) (own : Nat → Prop) (tA : Option Addr) (tc : Nat) (wA : Option Addr) (wc : Nat) (its ws : List Item) : Prop where
  bk : BookBlk w q tA its.length tc wA its.length wc
  lw : ws.length = its.length
  rows : Buf w tA its.length tc (its.map Item.val)
  was : Buf w wA its.length wc (ws.map Item.val)
  item : ∀ it ∈ its, Buf w it.A it.n it.c (it.xs.map (Value.int .i32)) ∧ it.n ≤ 4000
  copy : ∀ wt ∈ ws, Buf w wt.A wt.n wt.c (wt.xs.map (Value.int .i32))
  same : ∀ (i : Nat) (it wt : Item), its[i]? = some it → ws[i]? = some wt → wt.n = it.n ∧ wt.xs = it.xs
  d1 : ∀ k, blk tA = some k → k ≠ q
  d2 : ∀ k, blk wA = some k → k ≠ q ∧ blk tA ≠ some k
  d3 : ∀ it ∈ its, ∀ k, blk it.A = some k → k ≠ q ∧ blk tA ≠ some k ∧ blk wA ≠ some k
  d4 : ∀ wt ∈ ws, ∀ k, blk wt.A = some k → k ≠ q ∧ blk tA ≠ some k ∧ blk wA ≠ some k ∧ ∀ it ∈ its, blk it.A ≠ some k
  d5 : its.Pairwise (fun a b => ∀ k, blk a.A = some k → blk b.A ≠ some k)
  oq : own q
  oA : ∀ k, blk tA = some k → own k
  oW : ∀ k, blk wA = some k → own k
  oI : ∀ it ∈ its, ∀ k, blk it.A = some k → own k
  oC : ∀ wt ∈ ws, ∀ k, blk wt.A = some k → own k
  lt : ∀ k, own k → k < w.heap.size

/-- A book that keeps n lists of texts, and none of another kind. -/
def Book (w : World) (q : Nat) (own : Nat → Prop) (n : Nat) : Prop := ∃ tA tc wA wc its ws, BookT w q own tA tc wA wc its ws ∧ its.length = n

theorem BookT.keep {S : Nat → Prop} {w w' : World} {q : Nat} {own : Nat → Prop} {tA wA : Option Addr} {tc wc : Nat} {its ws : List Item} (h : BookT w q own tA tc wA wc its ws) (k : Keep S w w') (hn : ∀ i, own i → ¬ S i) : BookT w' q own tA tc wA wc its ws :=
  { bk := k.heap h.bk (hn q h.oq), lw := h.lw, rows := h.rows.keep k (fun i hi => hn i (h.oA i hi)), was := h.was.keep k (fun i hi => hn i (h.oW i hi))
    item := fun it hit => ⟨(h.item it hit).1.keep k (fun i hi => hn i (h.oI it hit i hi)), (h.item it hit).2⟩
    copy := fun wt hwt => (h.copy wt hwt).keep k (fun i hi => hn i (h.oC wt hwt i hi))
    same := h.same, d1 := h.d1, d2 := h.d2, d3 := h.d3, d4 := h.d4, d5 := h.d5, oq := h.oq, oA := h.oA, oW := h.oW, oI := h.oI, oC := h.oC
    lt := fun i hi => Nat.lt_of_lt_of_le (h.lt i hi) k.size }

theorem Book.keep {S : Nat → Prop} {w w' : World} {q : Nat} {own : Nat → Prop} {n : Nat} (h : Book w q own n) (k : Keep S w w') (hn : ∀ i, own i → ¬ S i) : Book w' q own n := by
  obtain ⟨tA, tc, wA, wc, its, ws, h1, h2⟩ := h
  exact ⟨tA, tc, wA, wc, its, ws, h1.keep k hn, h2⟩

theorem Book.lt {w : World} {q : Nat} {own : Nat → Prop} {n : Nat} (h : Book w q own n) : ∀ k, own k → k < w.heap.size := by
  obtain ⟨tA, tc, wA, wc, its, ws, h1, h2⟩ := h
  exact h1.lt

/-- A fresh one. -/
theorem Book.made (w : World) (q : Nat) (hq : q = w.heap.size) (o : Obj) (ho : o = .cells (Array.replicate 16 (.slice none 0 0)) 43) : Book (w.alloc o) q (· = q) 0 := by
  subst hq ho
  refine ⟨none, 0, none, 0, [], [], { bk := heap_alloc_new w _, lw := rfl, rows := Buf.nil _, was := Buf.nil _, item := fun it h => by simp at h, copy := fun it h => by simp at h, same := fun i it wt h _ => by simp at h, d1 := fun k h => by simp [blk] at h, d2 := fun k h => by simp [blk] at h, d3 := fun it h => by simp at h, d4 := fun it h => by simp at h, d5 := List.Pairwise.nil, oq := rfl, oA := fun k h => by simp [blk] at h, oW := fun k h => by simp [blk] at h, oI := fun it h => by simp at h, oC := fun it h => by simp at h, lt := fun k h => by simp; omega }, rfl⟩

/-- One more list is kept: what the two appends, the copy and the two stores leave. -/
theorem BookT.more {w w1 w2 w3 w4 w5 w6 : World} {q : Nat} {own : Nat → Prop} {tA wA : Option Addr} {tc wc : Nat} {its ws : List Item} (h : BookT w q own tA tc wA wc its ws) (it wt : Item)
    (hit : Buf w it.A it.n it.c (it.xs.map (Value.int .i32))) (hn : it.n ≤ 4000) (hfar : ∀ k, blk it.A = some k → ¬ own k)
    {tA' wA' : Option Addr} {tc' wc' : Nat}
    (k0 : Keep (fun _ => False) w w1) (a1 : Buf w2 tA' (its.length + 1) tc' (its.map Item.val ++ [it.val])) (k1 : Keep (fun k => blk tA = some k) w1 w2) (p1 : ∀ k, blk tA' = some k → blk tA = some k ∨ w1.heap.size ≤ k)
    (e3 : w3 = w2.setCell ⟨q, 4, none⟩ (.slice tA' (its.length + 1) tc')) (c4 : Buf w4 wt.A wt.n wt.c (wt.xs.map (Value.int .i32))) (k4 : Keep (fun _ => False) w3 w4) (p4 : ∀ k, blk wt.A = some k → w3.heap.size ≤ k) (s4 : wt.n = it.n ∧ wt.xs = it.xs)
    (a5 : Buf w5 wA' (its.length + 1) wc' (ws.map Item.val ++ [wt.val])) (k5 : Keep (fun k => blk wA = some k) w4 w5) (p5 : ∀ k, blk wA' = some k → blk wA = some k ∨ w4.heap.size ≤ k)
    (e6 : w6 = w5.setCell ⟨q, 5, none⟩ (.slice wA' (its.length + 1) wc')) :
    ∃ own', BookT w6 q own' tA' tc' wA' wc' (its ++ [it]) (ws ++ [wt]) ∧ Keep own w w6 ∧ ∀ k, own' k → own k ∨ blk it.A = some k ∨ w.heap.size ≤ k := by
  have hq := h.lt q h.oq
  have s01 := k0.size
  have s12 := k1.size
  have s23 : w2.heap.size ≤ w3.heap.size := by rw [e3]; exact (keep_set w2 q 4 _).size
  have s34 := k4.size
  have s45 := k5.size
  have s56 : w5.heap.size ≤ w6.heap.size := by rw [e6]; exact (keep_set w5 q 5 _).size
  have k3 : Keep (fun k => k = q) w2 w3 := by rw [e3]; exact keep_set w2 q 4 _
  have k6 : Keep (fun k => k = q) w5 w6 := by rw [e6]; exact keep_set w5 q 5 _
  -- what turned of what there was
  have kk : Keep (fun k => k = q ∨ blk tA = some k ∨ blk wA = some k) w w6 :=
    ((((((k0.mono (S' := fun k => k = q ∨ blk tA = some k ∨ blk wA = some k) (fun _ _ x => x.elim)).trans k1 (fun _ _ x => .inr (.inl x))).trans k3 (fun _ _ x => .inl x)).trans k4 (fun _ _ x => x.elim)).trans k5 (fun _ _ x => .inr (.inr x))).trans k6 (fun _ _ x => .inl x))
  have b2 : BookBlk w2 q tA its.length tc wA its.length wc := k1.heap (k0.heap h.bk (fun x => x)) (fun x => h.d1 q x rfl)
  have b3 : BookBlk w3 q tA' (its.length + 1) tc' wA its.length wc := by rw [e3]; exact heap_set b2 4 _
  have b5 : BookBlk w5 q tA' (its.length + 1) tc' wA its.length wc := k5.heap (k4.heap b3 (fun x => x)) (fun x => (h.d2 q x).1 rfl)
  have b6 : BookBlk w6 q tA' (its.length + 1) tc' wA' (its.length + 1) wc' := by rw [e6]; exact heap_set b5 5 _
  have tAq : ∀ k, blk tA' = some k → k ≠ q := fun k hk => by
    rcases p1 k hk with e | e
    · exact h.d1 k e
    · omega
  have tAw : ∀ k, blk tA' = some k → blk wA ≠ some k := fun k hk e => by
    rcases p1 k hk with e2 | e2
    · exact (h.d2 k e).2 e2
    · have := h.lt k (h.oW k e); omega
  have wAq : ∀ k, blk wA' = some k → k ≠ q ∧ blk tA' ≠ some k := fun k hk => by
    rcases p5 k hk with e | e
    · exact ⟨(h.d2 k e).1, fun e2 => tAw k e2 e⟩
    · exact ⟨by omega, fun e2 => by have := a1.lt e2; omega⟩
  have rows6 : Buf w6 tA' (its.length + 1) tc' (its.map Item.val ++ [it.val]) := ((((a1.keep k3 (fun i hi e => tAq i hi e)).keep k4 (fun _ _ x => x)).keep k5 (fun i hi e => tAw i hi e)).keep k6 (fun i hi e => tAq i hi e))
  have was6 : Buf w6 wA' (its.length + 1) wc' (ws.map Item.val ++ [wt.val]) := a5.keep k6 (fun i hi e => (wAq i hi).1 e)
  have cq : ∀ k, blk wt.A = some k → k ≠ q ∧ blk wA ≠ some k := fun k hk => ⟨by have := p4 k hk; omega, fun e => by have := p4 k hk; have := h.lt k (h.oW k e); omega⟩
  have copy6 : Buf w6 wt.A wt.n wt.c (wt.xs.map (Value.int .i32)) := (c4.keep k5 (fun i hi e => (cq i hi).2 e)).keep k6 (fun i hi e => (cq i hi).1 e)
  have old : ∀ k, own k → k ≠ q → blk tA ≠ some k → blk wA ≠ some k → ¬ (k = q ∨ blk tA = some k ∨ blk wA = some k) := fun k _ h1 h2 h3 e => by
    rcases e with e | e | e
    · exact h1 e
    · exact h2 e
    · exact h3 e
  have itf : ∀ k, blk it.A = some k → k ≠ q ∧ blk tA ≠ some k ∧ blk wA ≠ some k := fun k hk => ⟨fun e => hfar k hk (e ▸ h.oq), fun e => hfar k hk (h.oA k e), fun e => hfar k hk (h.oW k e)⟩
  have itl : ∀ k, blk it.A = some k → k < w.heap.size := fun k hk => hit.lt hk
  have ct : ∀ k, blk wt.A = some k → blk tA' ≠ some k ∧ blk wA' ≠ some k := fun k hk => by
    have hlt := c4.lt hk
    refine ⟨fun e => by have := a1.lt e; have := p4 k hk; omega, fun e => ?_⟩
    rcases p5 k e with e2 | e2
    · exact (cq k hk).2 e2
    · omega
  have far1 : ∀ k, k < w.heap.size → blk tA ≠ some k → blk tA' ≠ some k := fun k hk h1 e => by
    rcases p1 k e with e2 | e2
    · exact h1 e2
    · omega
  have far2 : ∀ k, k < w.heap.size → blk wA ≠ some k → blk wA' ≠ some k := fun k hk h1 e => by
    rcases p5 k e with e2 | e2
    · exact h1 e2
    · omega
  refine ⟨fun k => own k ∨ blk it.A = some k ∨ (w.heap.size ≤ k ∧ k < w6.heap.size), { bk := by rw [List.length_append]; exact b6, lw := by simp [h.lw], rows := by rw [List.length_append, List.map_append]; exact rows6, was := by rw [List.length_append, List.map_append]; exact was6, item := fun jt hj => ?_, copy := fun jt hj => ?_, same := fun i jt kt hi hj => ?_, d1 := tAq, d2 := wAq, d3 := fun jt hj k hk => ?_, d4 := fun jt hj k hk => ?_, d5 := ?_, oq := .inl h.oq, oA := fun k hk => ?_, oW := fun k hk => ?_, oI := fun jt hj k hk => ?_, oC := fun jt hj k hk => ?_, lt := fun k hk => ?_ }, kk.mono (fun i _ x => ?_), fun k hk => ?_⟩
  · rcases List.mem_append.1 hj with hj | hj
    · exact ⟨(h.item jt hj).1.keep kk (fun k hk => old k (h.oI jt hj k hk) (h.d3 jt hj k hk).1 (h.d3 jt hj k hk).2.1 (h.d3 jt hj k hk).2.2), (h.item jt hj).2⟩
    · rw [List.mem_singleton.1 hj]
      exact ⟨hit.keep kk (fun k hk e => by
        rcases e with e | e | e
        · exact (itf k hk).1 e
        · exact (itf k hk).2.1 e
        · exact (itf k hk).2.2 e), hn⟩
  · rcases List.mem_append.1 hj with hj | hj
    · exact (h.copy jt hj).keep kk (fun k hk => old k (h.oC jt hj k hk) (h.d4 jt hj k hk).1 (h.d4 jt hj k hk).2.1 (h.d4 jt hj k hk).2.2.1)
    · rw [List.mem_singleton.1 hj]
      exact copy6
  · by_cases hlt : i < its.length
    · rw [List.getElem?_append_left hlt] at hi
      rw [List.getElem?_append_left (by rw [h.lw]; exact hlt)] at hj
      exact h.same i jt kt hi hj
    · rw [List.getElem?_append_right (by omega)] at hi
      rw [List.getElem?_append_right (by rw [h.lw]; omega), h.lw] at hj
      have hz : i - its.length = 0 := by
        rcases Nat.eq_zero_or_pos (i - its.length) with z | z
        · exact z
        · rw [List.getElem?_eq_none (by simp; omega)] at hi; cases hi
      rw [hz] at hi hj
      simp at hi hj
      subst hi hj
      exact s4
  · rcases List.mem_append.1 hj with hj | hj
    · have hl := h.lt k (h.oI jt hj k hk)
      obtain ⟨q1, q2, q3⟩ := h.d3 jt hj k hk
      exact ⟨q1, far1 k hl q2, far2 k hl q3⟩
    · rw [List.mem_singleton.1 hj] at hk
      have hl := itl k hk
      obtain ⟨q1, q2, q3⟩ := itf k hk
      exact ⟨q1, far1 k hl q2, far2 k hl q3⟩
  · rcases List.mem_append.1 hj with hj | hj
    · have hl := h.lt k (h.oC jt hj k hk)
      obtain ⟨q1, q2, q3, q4⟩ := h.d4 jt hj k hk
      refine ⟨q1, far1 k hl q2, far2 k hl q3, fun kt hkt e => ?_⟩
      rcases List.mem_append.1 hkt with hkt | hkt
      · exact q4 kt hkt e
      · rw [List.mem_singleton.1 hkt] at e
        exact hfar k e (h.oC jt hj k hk)
    · rw [List.mem_singleton.1 hj] at hk
      have hge := p4 k hk
      refine ⟨by omega, (ct k hk).1, (ct k hk).2, fun kt hkt e => ?_⟩
      rcases List.mem_append.1 hkt with hkt | hkt
      · have := h.lt k (h.oI kt hkt k e); omega
      · rw [List.mem_singleton.1 hkt] at e
        have := itl k e; omega
  · rw [List.pairwise_append]
    refine ⟨h.d5, List.pairwise_singleton _ _, fun a ha b hb k hk e => ?_⟩
    rw [List.mem_singleton.1 hb] at e
    exact hfar k e (h.oI a ha k hk)
  · rcases p1 k hk with e | e
    · exact .inl (h.oA k e)
    · exact .inr (.inr ⟨by omega, by have := a1.lt hk; omega⟩)
  · rcases p5 k hk with e | e
    · exact .inl (h.oW k e)
    · exact .inr (.inr ⟨by omega, by have := a5.lt hk; omega⟩)
  · rcases List.mem_append.1 hj with hj | hj
    · exact .inl (h.oI jt hj k hk)
    · rw [List.mem_singleton.1 hj] at hk
      exact .inr (.inl hk)
  · rcases List.mem_append.1 hj with hj | hj
    · exact .inl (h.oC jt hj k hk)
    · rw [List.mem_singleton.1 hj] at hk
      exact .inr (.inr ⟨by have := p4 k hk; omega, by have := c4.lt hk; omega⟩)
  · rcases hk with hk | hk | hk
    · have := h.lt k hk; omega
    · have := itl k hk; omega
    · exact hk.2
  · rcases x with x | x | x
    · rw [x]; exact h.oq
    · exact h.oA i x
    · exact h.oW i x
  · rcases hk with hk | hk | hk
    · exact .inl hk
    · exact .inr (.inl hk)
    · exact .inr (.inr hk.1)

end Go.Proofs.Ytoihadjboeeglaa.Rn
