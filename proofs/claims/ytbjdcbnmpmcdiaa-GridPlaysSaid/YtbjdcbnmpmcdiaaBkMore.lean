/- pontoonbook.Book, a kind of elements of z cells: one more list is kept. It speaks of no program. Own work. -/
import Derived.Test.YtbjdcbnmpmcdiaaBkMark
namespace Go.Proofs.Ytbjdcbnmpmcdiaa
set_option linter.unusedVariables false
set_option linter.unusedSimpArgs false
open Go.RowKit

/-- The Book's other cells stay. -/
def Beside (q C : Nat) (w w' : World) : Prop := ∀ j v, j ≠ C → j ≠ C + 1 → Cell w q j v → Cell w' q j v

section
variable {z C : Nat} {Sm Sm' : World → List Value → List Value → Prop} {w w' w1 w2 w3 w4 w5 w6 : World} {q : Nat} {own rd : Nat → Prop} {tA wA tA' wA' : Option Addr} {tc wc tc' wc' : Nat} {its ws : List ItZ}

/-- Another kind's list was kept. -/
theorem KS.beside {C2 : Nat} {own2 : Nat → Prop} (hs : SmKept Sm rd) (h : KS z C Sm w q own tA tc wA wc its ws) (k : Keep (fun i => i = q ∨ own2 i) w w') (hb : Beside q C2 w w') (h1 : C ≠ C2) (h2 : C ≠ C2 + 1) (h3 : C + 1 ≠ C2) (hn : ∀ i, own i → ¬ own2 i) (hr : ∀ i, rd i → i < w.heap.size ∧ i ≠ q ∧ ¬ own2 i) : KS z C Sm w' q own tA tc wA wc its ws :=
  have hnn : ∀ i, own i → ¬ (i = q ∨ own2 i) := fun i hi e => by
    rcases e with e | e
    · exact h.nq (e ▸ hi)
    · exact hn i hi e
  { b0 := hb _ _ h1 h2 h.b0, b1 := hb _ _ h3 (by omega) h.b1, lw := h.lw, rows := h.rows.keep k (fun i hi => hnn i (h.oA i hi)), was := h.was.keep k (fun i hi => hnn i (h.oW i hi))
    item := fun it hit => ⟨(h.item it hit).1.keep k (fun i hi => hnn i (h.oI it hit i hi)), (h.item it hit).2⟩
    copy := fun wt hwt => (h.copy wt hwt).keep k (fun i hi => hnn i (h.oC wt hwt i hi))
    same := fun i it wt hi hj => ⟨(h.same i it wt hi hj).1, hs _ w w' k (fun i hi => ⟨(hr i hi).1, fun e => by
      rcases e with e | e
      · exact (hr i hi).2.1 e
      · exact (hr i hi).2.2 e⟩) _ _ (h.same i it wt hi hj).2⟩
    d2 := h.d2, d3 := h.d3, d4 := h.d4, d5 := h.d5, nq := h.nq, lq := Nat.lt_of_lt_of_le h.lq k.size, oA := h.oA, oW := h.oW, oI := h.oI, oC := h.oC
    lt := fun i hi => Nat.lt_of_lt_of_le (h.lt i hi) k.size }

theorem KS.made (w : World) (q : Nat) (hq : q < w.heap.size) (h0 : Cell w q C (.slice none 0 0)) (h1 : Cell w q (C + 1) (.slice none 0 0)) : KS z C Sm w q (fun _ => False) none 0 none 0 [] [] :=
  { b0 := h0, b1 := h1, lw := rfl, rows := Buf.nil _, was := Buf.nil _, item := fun it h => by simp at h, copy := fun it h => by simp at h, same := fun i it wt h _ => by simp at h, d2 := fun k h => by simp [blk] at h, d3 := fun it h => by simp at h, d4 := fun it h => by simp at h, d5 := List.Pairwise.nil, nq := fun x => x, lq := hq, oA := fun k h => by simp [blk] at h, oW := fun k h => by simp [blk] at h, oI := fun it h => by simp at h, oC := fun it h => by simp at h, lt := fun k h => h.elim }

/-- What the two appends, the copy and the two stores leave. Sm': what is told of lists and their copies behind it. -/
theorem KS.more (h : KS z C Sm w q own tA tc wA wc its ws) (it wt : ItZ)
    (hit : BufZ z w it.A it.n it.c it.us) (hn : it.n ≤ 4000) (hfar : ∀ k, blk it.A = some k → ¬ own k ∧ k ≠ q)
    (k0 : Keep (fun _ => False) w w1) (a1 : Buf w2 tA' (its.length + 1) tc' (its.map ItZ.val ++ [it.val])) (k1 : Keep (fun k => blk tA = some k) w1 w2) (p1 : ∀ k, blk tA' = some k → blk tA = some k ∨ w1.heap.size ≤ k)
    (e3 : w3 = w2.setCell ⟨q, C, none⟩ (.slice tA' (its.length + 1) tc')) (c4 : BufZ z w4 wt.A wt.n wt.c wt.us) (k4 : Keep (fun _ => False) w3 w4) (p4 : ∀ k, blk wt.A = some k → w3.heap.size ≤ k)
    (a5 : Buf w5 wA' (its.length + 1) wc' (ws.map ItZ.val ++ [wt.val])) (k5 : Keep (fun k => blk wA = some k) w4 w5) (p5 : ∀ k, blk wA' = some k → blk wA = some k ∨ w4.heap.size ≤ k)
    (e6 : w6 = w5.setCell ⟨q, C + 1, none⟩ (.slice wA' (its.length + 1) wc'))
    (sOld : ∀ a b, Keep (fun k => k = q ∨ own k) w w6 → Sm w a b → Sm' w6 a b) (sNew : wt.n = it.n ∧ (Keep (fun k => k = q ∨ own k) w w6 → Keep (fun k => k = q ∨ blk wA = some k) w4 w6 → Sm' w6 it.us wt.us)) :
    ∃ own', KS z C Sm' w6 q own' tA' tc' wA' wc' (its ++ [it]) (ws ++ [wt]) ∧ Keep (fun k => k = q ∨ own k) w w6 ∧ Beside q C w w6 ∧ ∀ k, own' k → own k ∨ blk it.A = some k ∨ w.heap.size ≤ k := by
  have hq := h.lq
  have s01 := k0.size
  have s12 := k1.size
  have s23 : w2.heap.size ≤ w3.heap.size := by rw [e3]; exact (keep_set w2 q C _).size
  have s34 := k4.size
  have s45 := k5.size
  have s56 : w5.heap.size ≤ w6.heap.size := by rw [e6]; exact (keep_set w5 q (C + 1) _).size
  have k3 : Keep (fun k => k = q) w2 w3 := by rw [e3]; exact keep_set w2 q C _
  have k6 : Keep (fun k => k = q) w5 w6 := by rw [e6]; exact keep_set w5 q (C + 1) _
  have nA : ∀ k, blk tA = some k → k ≠ q := fun k hk e => h.nq (e ▸ h.oA k hk)
  have nW : ∀ k, blk wA = some k → k ≠ q := fun k hk e => h.nq (e ▸ h.oW k hk)
  have kk : Keep (fun k => k = q ∨ blk tA = some k ∨ blk wA = some k) w w6 :=
    ((((((k0.mono (S' := fun k => k = q ∨ blk tA = some k ∨ blk wA = some k) (fun _ _ x => x.elim)).trans k1 (fun _ _ x => .inr (.inl x))).trans k3 (fun _ _ x => .inl x)).trans k4 (fun _ _ x => x.elim)).trans k5 (fun _ _ x => .inr (.inr x))).trans k6 (fun _ _ x => .inl x))
  have KO : Keep (fun k => k = q ∨ own k) w w6 := kk.mono (fun i _ x => by
    rcases x with x | x | x
    · exact .inl x
    · exact .inr (h.oA i x)
    · exact .inr (h.oW i x))
  have K46 : Keep (fun k => k = q ∨ blk wA = some k) w4 w6 := (k5.mono (fun _ _ x => .inr x)).trans k6 (fun _ _ x => .inl x)
  have cellq : ∀ j v, Cell w q j v → Cell w2 q j v := fun j v hc => (hc.keep k0 (fun x => x)).keep k1 (fun e => nA q e rfl)
  have cellq2 : ∀ j v, Cell w3 q j v → Cell w5 q j v := fun j v hc => (hc.keep k4 (fun x => x)).keep k5 (fun e => nW q e rfl)
  have b3 : Cell w3 q C (.slice tA' (its.length + 1) tc') := by rw [e3]; exact (cellq _ _ h.b0).set _
  have b3' : Cell w3 q (C + 1) (.slice wA its.length wc) := by rw [e3]; exact (cellq _ _ h.b1).far (by omega) _
  have b6 : Cell w6 q C (.slice tA' (its.length + 1) tc') := by rw [e6]; exact (cellq2 _ _ b3).far (by omega) _
  have b6' : Cell w6 q (C + 1) (.slice wA' (its.length + 1) wc') := by rw [e6]; exact (cellq2 _ _ b3').set _
  have tAq : ∀ k, blk tA' = some k → k ≠ q := fun k hk => by
    rcases p1 k hk with e | e
    · exact nA k e
    · omega
  have tAw : ∀ k, blk tA' = some k → blk wA ≠ some k := fun k hk e => by
    rcases p1 k hk with e2 | e2
    · exact h.d2 k e e2
    · have := h.lt k (h.oW k e); omega
  have wAq : ∀ k, blk wA' = some k → k ≠ q ∧ blk tA' ≠ some k := fun k hk => by
    rcases p5 k hk with e | e
    · exact ⟨nW k e, fun e2 => tAw k e2 e⟩
    · exact ⟨by omega, fun e2 => by have := a1.lt e2; omega⟩
  have rows6 : Buf w6 tA' (its.length + 1) tc' (its.map ItZ.val ++ [it.val]) := ((((a1.keep k3 (fun i hi e => tAq i hi e)).keep k4 (fun _ _ x => x)).keep k5 (fun i hi e => tAw i hi e)).keep k6 (fun i hi e => tAq i hi e))
  have was6 : Buf w6 wA' (its.length + 1) wc' (ws.map ItZ.val ++ [wt.val]) := a5.keep k6 (fun i hi e => (wAq i hi).1 e)
  have cq : ∀ k, blk wt.A = some k → k ≠ q ∧ blk wA ≠ some k := fun k hk => ⟨by have := p4 k hk; omega, fun e => by have := p4 k hk; have := h.lt k (h.oW k e); omega⟩
  have copy6 : BufZ z w6 wt.A wt.n wt.c wt.us := (c4.keep k5 (fun i hi e => (cq i hi).2 e)).keep k6 (fun i hi e => (cq i hi).1 e)
  have old : ∀ k, own k → blk tA ≠ some k → blk wA ≠ some k → ¬ (k = q ∨ blk tA = some k ∨ blk wA = some k) := fun k ho h2 h3 e => by
    rcases e with e | e | e
    · exact h.nq (e ▸ ho)
    · exact h2 e
    · exact h3 e
  have itf : ∀ k, blk it.A = some k → k ≠ q ∧ blk tA ≠ some k ∧ blk wA ≠ some k := fun k hk => ⟨(hfar k hk).2, fun e => (hfar k hk).1 (h.oA k e), fun e => (hfar k hk).1 (h.oW k e)⟩
  have itl : ∀ k, blk it.A = some k → k < w.heap.size := fun k hk => hit.lt hk
  have ct : ∀ k, blk wt.A = some k → blk tA' ≠ some k ∧ blk wA' ≠ some k := fun k hk => by
    have hlt := c4.lt hk
    refine ⟨fun e => by have := a1.lt e; have := p4 k hk; omega, fun e => ?_⟩
    rcases p5 k e with e2 | e2
    · exact (cq k hk).2 e2
    · omega
  have far1 : ∀ k, k < w.heap.size → blk tA ≠ some k → blk tA' ≠ some k := fun k hk h1 e => by
    rcases p1 k e with e2 | e2
    · exact h1 e2
    · omega
  have far2 : ∀ k, k < w.heap.size → blk wA ≠ some k → blk wA' ≠ some k := fun k hk h1 e => by
    rcases p5 k e with e2 | e2
    · exact h1 e2
    · omega
  refine ⟨fun k => own k ∨ blk it.A = some k ∨ (w.heap.size ≤ k ∧ k < w6.heap.size), { b0 := by rw [List.length_append]; exact b6, b1 := by rw [List.length_append]; exact b6', lw := by simp [h.lw], rows := by rw [List.length_append, List.map_append]; exact rows6, was := by rw [List.length_append, List.map_append]; exact was6, item := fun jt hj => ?_, copy := fun jt hj => ?_, same := fun i jt kt hi hj => ?_, d2 := fun k hk => (wAq k hk).2, d3 := fun jt hj k hk => ?_, d4 := fun jt hj k hk => ?_, d5 := ?_, nq := fun e => ?_, lq := by omega, oA := fun k hk => ?_, oW := fun k hk => ?_, oI := fun jt hj k hk => ?_, oC := fun jt hj k hk => ?_, lt := fun k hk => ?_ }, KO, fun j v h1 h2 hc => ?_, fun k hk => ?_⟩
  · rcases List.mem_append.1 hj with hj | hj
    · exact ⟨(h.item jt hj).1.keep kk (fun k hk => old k (h.oI jt hj k hk) (h.d3 jt hj k hk).1 (h.d3 jt hj k hk).2), (h.item jt hj).2⟩
    · rw [List.mem_singleton.1 hj]
      exact ⟨hit.keep kk (fun k hk e => by
        rcases e with e | e | e
        · exact (itf k hk).1 e
        · exact (itf k hk).2.1 e
        · exact (itf k hk).2.2 e), hn⟩
  · rcases List.mem_append.1 hj with hj | hj
    · exact (h.copy jt hj).keep kk (fun k hk => old k (h.oC jt hj k hk) (h.d4 jt hj k hk).1 (h.d4 jt hj k hk).2.1)
    · rw [List.mem_singleton.1 hj]
      exact copy6
  · by_cases hlt : i < its.length
    · rw [List.getElem?_append_left hlt] at hi
      rw [List.getElem?_append_left (by rw [h.lw]; exact hlt)] at hj
      exact ⟨(h.same i jt kt hi hj).1, sOld _ _ KO (h.same i jt kt hi hj).2⟩
    · rw [List.getElem?_append_right (by omega)] at hi
      rw [List.getElem?_append_right (by rw [h.lw]; omega), h.lw] at hj
      have hz : i - its.length = 0 := by
        rcases Nat.eq_zero_or_pos (i - its.length) with z | z
        · exact z
        · rw [List.getElem?_eq_none (by simp; omega)] at hi; cases hi
      rw [hz] at hi hj
      simp at hi hj
      subst hi hj
      exact ⟨sNew.1, sNew.2 KO K46⟩
  · rcases List.mem_append.1 hj with hj | hj
    · have hl := h.lt k (h.oI jt hj k hk)
      obtain ⟨q2, q3⟩ := h.d3 jt hj k hk
      exact ⟨far1 k hl q2, far2 k hl q3⟩
    · rw [List.mem_singleton.1 hj] at hk
      have hl := itl k hk
      obtain ⟨q1, q2, q3⟩ := itf k hk
      exact ⟨far1 k hl q2, far2 k hl q3⟩
  · rcases List.mem_append.1 hj with hj | hj
    · have hl := h.lt k (h.oC jt hj k hk)
      obtain ⟨q2, q3, q4⟩ := h.d4 jt hj k hk
      refine ⟨far1 k hl q2, far2 k hl q3, fun kt hkt e => ?_⟩
      rcases List.mem_append.1 hkt with hkt | hkt
      · exact q4 kt hkt e
      · rw [List.mem_singleton.1 hkt] at e
        exact (hfar k e).1 (h.oC jt hj k hk)
    · rw [List.mem_singleton.1 hj] at hk
      have hge := p4 k hk
      refine ⟨(ct k hk).1, (ct k hk).2, fun kt hkt e => ?_⟩
      rcases List.mem_append.1 hkt with hkt | hkt
      · have := h.lt k (h.oI kt hkt k e); omega
      · rw [List.mem_singleton.1 hkt] at e
        have := itl k e; omega
  · rw [List.pairwise_append]
    refine ⟨h.d5, List.pairwise_singleton _ _, fun a ha b hb k hk e => ?_⟩
    rw [List.mem_singleton.1 hb] at e
    exact (hfar k e).1 (h.oI a ha k hk)
  · rcases e with e | e | e
    · exact h.nq e
    · exact (hfar q e).2 rfl
    · omega
  · rcases p1 k hk with e | e
    · exact .inl (h.oA k e)
    · exact .inr (.inr ⟨by omega, by have := a1.lt hk; omega⟩)
  · rcases p5 k hk with e | e
    · exact .inl (h.oW k e)
    · exact .inr (.inr ⟨by omega, by have := a5.lt hk; omega⟩)
  · rcases List.mem_append.1 hj with hj | hj
    · exact .inl (h.oI jt hj k hk)
    · rw [List.mem_singleton.1 hj] at hk
      exact .inr (.inl hk)
  · rcases List.mem_append.1 hj with hj | hj
    · exact .inl (h.oC jt hj k hk)
    · rw [List.mem_singleton.1 hj] at hk
      exact .inr (.inr ⟨by have := p4 k hk; omega, by have := c4.lt hk; omega⟩)
  · rcases hk with hk | hk | hk
    · have := h.lt k hk; omega
    · have := itl k hk; omega
    · exact hk.2
  · have c2 := cellq _ _ hc
    have c3 : Cell w3 q j v := by rw [e3]; exact c2.far (by omega) _
    rw [e6]
    exact (cellq2 _ _ c3).far (by omega) _
  · rcases hk with hk | hk | hk
    · exact .inl hk
    · exact .inr (.inl hk)
    · exact .inr (.inr hk.1)
end

end Go.Proofs.Ytbjdcbnmpmcdiaa
