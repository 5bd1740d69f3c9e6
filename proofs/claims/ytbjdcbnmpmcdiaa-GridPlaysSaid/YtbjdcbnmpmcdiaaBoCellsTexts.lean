/- pontoonbook.Book, of lists of Texts, Cells alone. By program (bkbook.py). Own work. -/
import Derived.Test.YtbjdcbnmpmcdiaaBkPTexts
import Derived.Test.YtbjdcbnmpmcdiaaBkPCells
import Derived.Test.YtbjdcbnmpmcdiaaBkNone
namespace Go.Proofs.Ytbjdcbnmpmcdiaa
set_option linter.unusedVariables false
set_option linter.unusedSimpArgs false
open Go.RowKit

theorem KS.sm {z C : Nat} {Sm Sm' : World → List Value → List Value → Prop} {w : World} {q : Nat} {own : Nat → Prop} {tA wA : Option Addr} {tc wc : Nat} {its ws : List ItZ} (h : KS z C Sm w q own tA tc wA wc its ws) (hs : ∀ a b, Sm w a b → Sm' w a b) : KS z C Sm' w q own tA tc wA wc its ws :=
  { h with same := fun i it wt hi hj => ⟨(h.same i it wt hi hj).1, hs _ _ (h.same i it wt hi hj).2⟩ }
theorem St1.av {P : Program} {fs fp fg fm : FuncId} {c q N : Nat} {own av av' : Nat → Prop} {W : World} (h : St1 P fs fp fg fm c q N own av W) (hs : ∀ b, av b → av' b) : St1 P fs fp fg fm c q N own av' W :=
  fun W1 k1 => h W1 (k1.mono (fun b _ e => ⟨e.1, fun x => e.2.1 (hs b x), e.2.2⟩))

/-- The Book in block q; own: its blocks, by kind; m: how many lists of a kind at most. -/
structure BoCellsTexts (w : World) (q : Nat) (own : Fin 8 → Nat → Prop) (m : Nat) : Prop where
  k0 : ∃ (tA : Option Addr) (tc : Nat) (wA : Option Addr) (wc : Nat) (its ws : List ItZ), KS 1 0 (SmTexts (fun _ => False)) w q (own 0) tA tc wA wc its ws ∧ its.length ≤ m
  c1 : Cell w q 2 (.slice none 0 0)
  n1 : ∀ b, ¬ own 1 b
  c2 : Cell w q 4 (.slice none 0 0)
  n2 : ∀ b, ¬ own 2 b
  c3 : Cell w q 6 (.slice none 0 0)
  n3 : ∀ b, ¬ own 3 b
  c4 : Cell w q 8 (.slice none 0 0)
  n4 : ∀ b, ¬ own 4 b
  k5 : ∃ (tA : Option Addr) (tc : Nat) (wA : Option Addr) (wc : Nat) (its ws : List ItZ), KS 6 10 (SmCells (fun _ => False)) w q (own 5) tA tc wA wc its ws ∧ its.length ≤ m
  c6 : Cell w q 12 (.slice none 0 0)
  n6 : ∀ b, ¬ own 6 b
  c7 : Cell w q 14 (.slice none 0 0)
  n7 : ∀ b, ¬ own 7 b
  dis : ∀ i j, i ≠ j → ∀ b, own i b → ¬ own j b

namespace BoCellsTexts
variable {w w' : World} {q m : Nat} {own : Fin 8 → Nat → Prop}
theorem lq (h : BoCellsTexts w q own m) : q < w.heap.size := by obtain ⟨_, _, _, _, _, _, hk, _⟩ := h.k0; exact hk.lq
theorem nq (h : BoCellsTexts w q own m) (j : Fin 8) : ¬ own j q := by
  match j with
  | 0 => obtain ⟨_, _, _, _, _, _, hk, _⟩ := h.k0; exact hk.nq
  | 1 => exact h.n1 q
  | 2 => exact h.n2 q
  | 3 => exact h.n3 q
  | 4 => exact h.n4 q
  | 5 => obtain ⟨_, _, _, _, _, _, hk, _⟩ := h.k5; exact hk.nq
  | 6 => exact h.n6 q
  | 7 => exact h.n7 q
theorem lt (h : BoCellsTexts w q own m) (j : Fin 8) (b : Nat) (hb : own j b) : b < w.heap.size := by
  match j, hb with
  | 0, hb => obtain ⟨_, _, _, _, _, _, hk, _⟩ := h.k0; exact hk.lt b hb
  | 1, hb => exact (h.n1 b hb).elim
  | 2, hb => exact (h.n2 b hb).elim
  | 3, hb => exact (h.n3 b hb).elim
  | 4, hb => exact (h.n4 b hb).elim
  | 5, hb => obtain ⟨_, _, _, _, _, _, hk, _⟩ := h.k5; exact hk.lt b hb
  | 6, hb => exact (h.n6 b hb).elim
  | 7, hb => exact (h.n7 b hb).elim
theorem keep {S : Nat → Prop} (h : BoCellsTexts w q own m) (k : Keep S w w') (hq : ¬ S q) (hn : ∀ j b, own j b → ¬ S b) : BoCellsTexts w' q own m :=
  { k0 := by obtain ⟨tA, tc, wA, wc, its, ws, hk, hl⟩ := h.k0; exact ⟨tA, tc, wA, wc, its, ws, hk.keep (smkept_Texts _) k (hn 0) hq (fun _ x => x.elim), hl⟩
    c1 := h.c1.keep k hq, n1 := h.n1
    c2 := h.c2.keep k hq, n2 := h.n2
    c3 := h.c3.keep k hq, n3 := h.n3
    c4 := h.c4.keep k hq, n4 := h.n4
    k5 := by obtain ⟨tA, tc, wA, wc, its, ws, hk, hl⟩ := h.k5; exact ⟨tA, tc, wA, wc, its, ws, hk.keep (smkept_Cells _) k (hn 5) hq (fun _ x => x.elim), hl⟩
    c6 := h.c6.keep k hq, n6 := h.n6
    c7 := h.c7.keep k hq, n7 := h.n7
    dis := h.dis }
theorem more {m' : Nat} (h : BoCellsTexts w q own m) (hm : m ≤ m') : BoCellsTexts w q own m' :=
  { k0 := by obtain ⟨tA, tc, wA, wc, its, ws, hk, hl⟩ := h.k0; exact ⟨tA, tc, wA, wc, its, ws, hk, Nat.le_trans hl hm⟩
    c1 := h.c1, n1 := h.n1
    c2 := h.c2, n2 := h.n2
    c3 := h.c3, n3 := h.n3
    c4 := h.c4, n4 := h.n4
    k5 := by obtain ⟨tA, tc, wA, wc, its, ws, hk, hl⟩ := h.k5; exact ⟨tA, tc, wA, wc, its, ws, hk, Nat.le_trans hl hm⟩
    c6 := h.c6, n6 := h.n6
    c7 := h.c7, n7 := h.n7
    dis := h.dis }
theorem made (w : World) (q : Nat) (t : TypeId) (h : w.heap[q]? = some (.cells #[.slice none 0 0, .slice none 0 0, .slice none 0 0, .slice none 0 0, .slice none 0 0, .slice none 0 0, .slice none 0 0, .slice none 0 0, .slice none 0 0, .slice none 0 0, .slice none 0 0, .slice none 0 0, .slice none 0 0, .slice none 0 0, .slice none 0 0, .slice none 0 0] t (0, 0))) : BoCellsTexts w q (fun _ _ => False) 0 :=
  have hc : ∀ j : Nat, j < 16 → Cell w q j (.slice none 0 0) := fun j hj => ⟨by rw [cell_at h j]; rcases j with _ | _ | _ | _ | _ | _ | _ | _ | _ | _ | _ | _ | _ | _ | _ | _ | j <;> first | rfl | omega, free_at h j⟩
  have hl := lt_heap h
  { k0 := ⟨_, _, _, _, _, _, KS.made w q hl (hc 0 (by omega)) (hc 1 (by omega)), Nat.le_refl _⟩
    c1 := hc 2 (by omega), n1 := fun _ x => x
    c2 := hc 4 (by omega), n2 := fun _ x => x
    c3 := hc 6 (by omega), n3 := fun _ x => x
    c4 := hc 8 (by omega), n4 := fun _ x => x
    k5 := ⟨_, _, _, _, _, _, KS.made w q hl (hc 10 (by omega)) (hc 11 (by omega)), Nat.le_refl _⟩
    c6 := hc 12 (by omega), n6 := fun _ x => x
    c7 := hc 14 (by omega), n7 := fun _ x => x
    dis := fun _ _ _ _ x => x.elim }

/-- One more list of Texts. -/
theorem put_Texts (h : BoCellsTexts w q own m) (A : Option Addr) (n c : Nat) (us : List Value) (hit : BufZ 1 w A n c us) (hsm : SmTexts (fun _ => False) w us us) (hn : n ≤ 4000) (hfar : ∀ k, blk A = some k → k ≠ q ∧ ∀ j, ¬ own j k) (hm : m < 250) :
    Calls Try.prog 38 #[.pointer (some ⟨q, 0, none⟩), .slice A n c] w fun e w' => e = .returned (.tuple #[]) ∧ ∃ own', BoCellsTexts w' q own' (m + 1) ∧ Keep (fun k => k = q ∨ ∃ j, own j k) w w' ∧ ∀ j k, own' j k → own j k ∨ blk A = some k ∨ w.heap.size ≤ k := by
  obtain ⟨tA, tc, wA, wc, its, ws, hk, hl⟩ := h.k0
  refine (Go.Proofs.Ytbjdcbnmpmcdiaa.put_Texts w q (own 0) (fun _ => False) tA wA tc wc its ws hk (fun _ x => x.elim) ⟨A, n, c, us⟩ hit hsm hn (fun k hk => ⟨(hfar k hk).2 0, (hfar k hk).1⟩) (by omega)).mono ?_
  rintro e w1 ⟨rfl, own1, rd2, tA', tc', wA', wc', wt, h1, h2, h3, h4, h5⟩
  have hsz := h2.size
  have hdis : ∀ i1 i2 : Fin 8, i1 ≠ i2 → ∀ b, (if i1 = 0 then own1 else own i1) b → ¬ (if i2 = 0 then own1 else own i2) b := by
    intro i1 i2 hne b
    have o : ∀ j, own j b → b < w.heap.size := fun j hb => h.lt j b hb
    have ho : own1 b → ∀ j, j ≠ 0 → ¬ own j b := fun x j hj y => by
      rcases h4 b x with e | e | e
      · exact h.dis j 0 hj b y e
      · exact (hfar b e).2 j y
      · have := o j y; omega
    by_cases e1 : i1 = 0
    · subst e1
      rw [if_pos rfl, if_neg (fun e => hne e.symm)]
      exact fun x => ho x i2 (fun e => hne e.symm)
    · rw [if_neg e1]
      by_cases e2 : i2 = 0
      · subst e2
        rw [if_pos rfl]
        exact fun x y => ho y i1 e1 x
      · rw [if_neg e2]
        exact h.dis i1 i2 hne b
  refine ⟨rfl, fun i => if i = 0 then own1 else own i, ?_, h2.mono (fun b _ x => by rcases x with x | x; exact .inl x; exact .inr ⟨0, x⟩), fun i k hi => ?_⟩
  · exact {
      k0 := ⟨tA', tc', wA', wc', _, _, by rw [if_pos rfl]; exact h1.sm (fun _ _ x => x), by rw [List.length_append]; simp; exact hl⟩
      c1 := h3 _ _ (by decide) (by decide) h.c1, n1 := fun b => by rw [if_neg (by decide)]; exact h.n1 b
      c2 := h3 _ _ (by decide) (by decide) h.c2, n2 := fun b => by rw [if_neg (by decide)]; exact h.n2 b
      c3 := h3 _ _ (by decide) (by decide) h.c3, n3 := fun b => by rw [if_neg (by decide)]; exact h.n3 b
      c4 := h3 _ _ (by decide) (by decide) h.c4, n4 := fun b => by rw [if_neg (by decide)]; exact h.n4 b
      k5 := by obtain ⟨a, b, c, d, e, f, gk, gl⟩ := h.k5; exact ⟨a, b, c, d, e, f, by rw [if_neg (by decide)]; exact gk.beside (smkept_Cells _) h2 h3 (by decide) (by decide) (by decide) (h.dis 5 0 (by decide)) (fun _ x => x.elim), by omega⟩
      c6 := h3 _ _ (by decide) (by decide) h.c6, n6 := fun b => by rw [if_neg (by decide)]; exact h.n6 b
      c7 := h3 _ _ (by decide) (by decide) h.c7, n7 := fun b => by rw [if_neg (by decide)]; exact h.n7 b
      dis := hdis }
  · by_cases e1 : i = 0
    · subst e1
      simp only [if_true] at hi
      exact h4 k hi
    · simp only [if_neg e1] at hi
      exact .inl hi

/-- One more list of Cells. -/
theorem put_Cells (h : BoCellsTexts w q own m) (A : Option Addr) (n c : Nat) (us : List Value) (hit : BufZ 6 w A n c us) (hsm : SmCells (fun _ => False) w us us) (hn : n ≤ 4000) (hfar : ∀ k, blk A = some k → k ≠ q ∧ ∀ j, ¬ own j k) (hm : m < 250) :
    Calls Try.prog 30 #[.pointer (some ⟨q, 0, none⟩), .slice A n c] w fun e w' => e = .returned (.tuple #[]) ∧ ∃ own', BoCellsTexts w' q own' (m + 1) ∧ Keep (fun k => k = q ∨ ∃ j, own j k) w w' ∧ ∀ j k, own' j k → own j k ∨ blk A = some k ∨ w.heap.size ≤ k := by
  obtain ⟨tA, tc, wA, wc, its, ws, hk, hl⟩ := h.k5
  refine (Go.Proofs.Ytbjdcbnmpmcdiaa.put_Cells w q (own 5) (fun _ => False) tA wA tc wc its ws hk (fun _ x => x.elim) ⟨A, n, c, us⟩ hit hsm hn (fun k hk => ⟨(hfar k hk).2 5, (hfar k hk).1⟩) (by omega)).mono ?_
  rintro e w1 ⟨rfl, own1, rd2, tA', tc', wA', wc', wt, h1, h2, h3, h4, h5⟩
  have hsz := h2.size
  have hdis : ∀ i1 i2 : Fin 8, i1 ≠ i2 → ∀ b, (if i1 = 5 then own1 else own i1) b → ¬ (if i2 = 5 then own1 else own i2) b := by
    intro i1 i2 hne b
    have o : ∀ j, own j b → b < w.heap.size := fun j hb => h.lt j b hb
    have ho : own1 b → ∀ j, j ≠ 5 → ¬ own j b := fun x j hj y => by
      rcases h4 b x with e | e | e
      · exact h.dis j 5 hj b y e
      · exact (hfar b e).2 j y
      · have := o j y; omega
    by_cases e1 : i1 = 5
    · subst e1
      rw [if_pos rfl, if_neg (fun e => hne e.symm)]
      exact fun x => ho x i2 (fun e => hne e.symm)
    · rw [if_neg e1]
      by_cases e2 : i2 = 5
      · subst e2
        rw [if_pos rfl]
        exact fun x y => ho y i1 e1 x
      · rw [if_neg e2]
        exact h.dis i1 i2 hne b
  refine ⟨rfl, fun i => if i = 5 then own1 else own i, ?_, h2.mono (fun b _ x => by rcases x with x | x; exact .inl x; exact .inr ⟨5, x⟩), fun i k hi => ?_⟩
  · exact {
      k0 := by obtain ⟨a, b, c, d, e, f, gk, gl⟩ := h.k0; exact ⟨a, b, c, d, e, f, by rw [if_neg (by decide)]; exact gk.beside (smkept_Texts _) h2 h3 (by decide) (by decide) (by decide) (h.dis 0 5 (by decide)) (fun _ x => x.elim), by omega⟩
      c1 := h3 _ _ (by decide) (by decide) h.c1, n1 := fun b => by rw [if_neg (by decide)]; exact h.n1 b
      c2 := h3 _ _ (by decide) (by decide) h.c2, n2 := fun b => by rw [if_neg (by decide)]; exact h.n2 b
      c3 := h3 _ _ (by decide) (by decide) h.c3, n3 := fun b => by rw [if_neg (by decide)]; exact h.n3 b
      c4 := h3 _ _ (by decide) (by decide) h.c4, n4 := fun b => by rw [if_neg (by decide)]; exact h.n4 b
      k5 := ⟨tA', tc', wA', wc', _, _, by rw [if_pos rfl]; exact h1.sm (fun _ _ x => x), by rw [List.length_append]; simp; exact hl⟩
      c6 := h3 _ _ (by decide) (by decide) h.c6, n6 := fun b => by rw [if_neg (by decide)]; exact h.n6 b
      c7 := h3 _ _ (by decide) (by decide) h.c7, n7 := fun b => by rw [if_neg (by decide)]; exact h.n7 b
      dis := hdis }
  · by_cases e1 : i = 5
    · subst e1
      simp only [if_true] at hi
      exact h4 k hi
    · simp only [if_neg e1] at hi
      exact .inl hi

theorem apart (h : BoCellsTexts w q own m) (hm : m ≤ 250) : Calls Try.prog 40 #[.pointer (some ⟨q, 0, none⟩)] w fun e w' => e = .returned (.bool true) ∧ Keep (fun b => ∃ j, own j b) w w' := by
  have hq := h.lq
  refine apart_all w q w.heap.size own (fun _ _ => False) ⟨h.dis, h.nq, h.lt, fun _ _ x => x.elim, fun _ _ x => x⟩ (fun j => ?_)
  match j with
  | 0 =>
    obtain ⟨tA, tc, wA, wc, its, ws, hk, hl⟩ := h.k0
    exact (st1_Texts (fun _ => False) w q (own 0) tA wA tc wc its ws hk (fun _ x => x.elim) (by omega)).av (fun b x => by rcases x with x | x; exact .inl x; exact x.elim)
  | 1 => exact none_Ints w q w.heap.size (own 1) _ hq h.c1.1
  | 2 => exact none_Runes w q w.heap.size (own 2) _ hq h.c2.1
  | 3 => exact none_Tokens w q w.heap.size (own 3) _ hq h.c3.1
  | 4 => exact none_Acts w q w.heap.size (own 4) _ hq h.c4.1
  | 5 =>
    obtain ⟨tA, tc, wA, wc, its, ws, hk, hl⟩ := h.k5
    exact (st1_Cells (fun _ => False) w q (own 5) tA wA tc wc its ws hk (fun _ x => x.elim) (by omega)).av (fun b x => by rcases x with x | x; exact .inl x; exact x.elim)
  | 6 => exact none_Events w q w.heap.size (own 6) _ hq h.c6.1
  | 7 => exact none_Steps w q w.heap.size (own 7) _ hq h.c7.1
end BoCellsTexts

end Go.Proofs.Ytbjdcbnmpmcdiaa
