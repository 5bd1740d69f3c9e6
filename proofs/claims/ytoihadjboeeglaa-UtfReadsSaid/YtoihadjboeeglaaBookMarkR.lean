/- pontoonbook.Book: lists of texts while they are marked and grown. Own work. -/
import Derived.Test.YtoihadjboeeglaaBookStillR
set_option linter.unusedVariables false
set_option linter.unusedSimpArgs false
namespace Go.Proofs.Ytoihadjboeeglaa.Rn
set_option linter.unusedVariables false
open Go.RowKit

/-- Lists that a book keeps, each with the texts that it has now. -/
structure TextsT (w : World) (q : Nat) (own : Nat → Prop) (A : Option Addr) (c : Nat) (its : List Item) (f : Nat → List Int) : Prop where
  c0 : w.cell? ⟨q, 4, none⟩ = some (.slice A its.length c)
  rows : Buf w A its.length c (its.map Item.val)
  item : ∀ (i : Nat) (it : Item), its[i]? = some it → Buf w it.A it.n it.c ((f i).map (Value.int .i32))
  few : ∀ it ∈ its, it.n ≤ 4000
  d1 : ∀ k, blk A = some k → k ≠ q
  d3 : ∀ it ∈ its, ∀ k, blk it.A = some k → k ≠ q ∧ blk A ≠ some k
  d5 : ∀ (i j : Nat) (it jt : Item), i ≠ j → its[i]? = some it → its[j]? = some jt → ∀ k, blk it.A = some k → blk jt.A ≠ some k
  lq : q < w.heap.size
  nq : ¬ own q
  oA : ∀ k, blk A = some k → own k
  oI : ∀ it ∈ its, ∀ k, blk it.A = some k → own k
  lt : ∀ k, own k → k < w.heap.size

theorem BookT.texts {w : World} {q : Nat} {own : Nat → Prop} {tA wA : Option Addr} {tc wc : Nat} {its ws : List Item} (h : BookT w q own tA tc wA wc its ws) :
    TextsT w q (fun z => own z ∧ z ≠ q) tA tc its (fun i => ((its[i]?).map (·.xs)).getD []) :=
  { c0 := h.cells.1, rows := h.rows
    item := fun i it hi => by
      have := (h.item it (List.mem_of_getElem? hi)).1
      simpa [hi] using this
    few := fun it hit => (h.item it hit).2, d1 := h.d1
    d3 := fun it hit k hk => ⟨(h.d3 it hit k hk).1, (h.d3 it hit k hk).2.1⟩
    d5 := fun i j it jt hij hi hj k hk e => by
      obtain ⟨hil, rfl⟩ := List.getElem?_eq_some_iff.1 hi
      obtain ⟨hjl, rfl⟩ := List.getElem?_eq_some_iff.1 hj
      rcases Nat.lt_or_gt_of_ne hij with x | x
      · exact List.pairwise_iff_getElem.1 h.d5 i j hil hjl x k hk e
      · exact List.pairwise_iff_getElem.1 h.d5 j i hjl hil x k e hk
    lq := h.lt q h.oq, nq := fun x => x.2 rfl, oA := fun k hk => ⟨h.oA k hk, h.d1 k hk⟩, oI := fun it hit k hk => ⟨h.oI it hit k hk, (h.d3 it hit k hk).1⟩, lt := fun k hk => h.lt k hk.1 }

namespace TextsT
variable {w w' : World} {q : Nat} {own : Nat → Prop} {A : Option Addr} {c : Nat} {its : List Item} {f : Nat → List Int}

theorem keep {S : Nat → Prop} (h : TextsT w q own A c its f) (k : Keep S w w') (hn : ∀ i, own i → ¬ S i) (hq : ¬ S q) : TextsT w' q own A c its f :=
  { c0 := (k.cell (p := ⟨q, 4, none⟩) h.lq hq).trans h.c0, rows := h.rows.keep k (fun i hi => hn i (h.oA i hi))
    item := fun i it hi => (h.item i it hi).keep k (fun j hj => hn j (h.oI it (List.mem_of_getElem? hi) j hj))
    few := h.few, d1 := h.d1, d3 := h.d3, d5 := h.d5, lq := Nat.lt_of_lt_of_le h.lq k.size, nq := h.nq, oA := h.oA, oI := h.oI, lt := fun i hi => Nat.lt_of_lt_of_le (h.lt i hi) k.size }

theorem drewN (h : TextsT w q own A c its f) (n : Nat) : TextsT (w.drewN n) q own A c its f := h.keep (S := fun _ => False) ((Keep.refl _ w).drewN n) (fun _ _ x => x) (fun x => x)

/-- A text is written to a list. -/
theorem set (h : TextsT w q own A c its f) {i : Nat} {it : Item} {b off k : Nat} (hi : its[i]? = some it) (hA : it.A = some ⟨b, off, none⟩) (hk : k < it.n) (x : Int) :
    TextsT (w.setCell ⟨b, off + k, none⟩ (.int .i32 x)) q own A c its (fun j => if j = i then (f i).set k x else f j) := by
  have K := keep_set w b (off + k) (.int .i32 x)
  have hm := List.mem_of_getElem? hi
  have hb : blk it.A = some b := by rw [hA]; rfl
  obtain ⟨n1, n2⟩ := h.d3 it hm b hb
  have hlt := h.lt b (h.oI it hm b hb)
  refine { c0 := (K.cell (p := ⟨q, 4, none⟩) h.lq (fun e => n1 e.symm)).trans h.c0, rows := h.rows.keep K (fun j hj e => n2 (e ▸ hj)), item := fun j jt hj => ?_, few := h.few, d1 := h.d1, d3 := h.d3, d5 := h.d5, lq := Nat.lt_of_lt_of_le h.lq K.size, nq := h.nq, oA := h.oA, oI := h.oI, lt := fun j hj => Nat.lt_of_lt_of_le (h.lt j hj) K.size }
  by_cases e : j = i
  · subst e
    rw [hi] at hj; injection hj with hj; subst hj
    simp only [if_pos]
    obtain ⟨b', off', e1, _, r⟩ := (h.item j it hi).some_of (by omega)
    rw [hA] at e1; injection e1 with e1; injection e1 with e1 e2; subst e1 e2
    refine .inr ⟨b, off, hA, Nat.lt_of_lt_of_le hlt K.size, ?_⟩
    have := r.set k hk (.int .i32 x)
    rwa [← List.map_set] at this
  · simp only [if_neg e]
    exact (h.item j jt hj).keep K (fun k' hk' e2 => by rw [show k' = b from e2] at hk'; exact h.d5 i j it jt (fun x => e x.symm) hi hj b hb hk')

end TextsT

/-- A list of which more and more marks are appended: the list as it grows, the list as it was. -/
structure Grows (w0 w : World) (it : Item) (i : Nat) (A : Option Addr) (n c : Nat) : Prop where
  buf : Buf w A n c ((marksR i 0 n).map (Value.int .i32))
  src : Src w it.A it.n ((marksR i 0 it.n).map (Value.int .i32))
  le : it.n ≤ n
  wh : A = it.A ∨ ∀ k, blk A = some k → w0.heap.size ≤ k
  kp : Keep (fun k => blk it.A = some k) w0 w
  lt : ∀ k, blk it.A = some k → k < w0.heap.size

theorem Grows.start {w : World} {it : Item} {i : Nat} (h : Buf w it.A it.n it.c ((marksR i 0 it.n).map (Value.int .i32))) : Grows w w it i it.A it.n it.c :=
  ⟨h, h.src, Nat.le_refl _, .inl rfl, Keep.refl _ _, fun k hk => h.lt hk⟩

theorem src_take {w : World} {A : Option Addr} {n m : Nat} {xs ys : List Value} (h : Src w A n (xs ++ ys)) (hm : xs.length = m) : Src w A m xs := by
  refine ⟨hm, fun h0 => ?_⟩
  obtain ⟨b, off, e, hb, hc⟩ := h.2 (by have := h.1; simp at this; omega)
  exact ⟨b, off, e, hb, fun j u hj => hc j u (by
    have : j < xs.length := by
      rcases Nat.lt_or_ge j xs.length with x | x
      · exact x
      · rw [List.getElem?_eq_none x] at hj; cases hj
    rw [List.getElem?_append_left this]; exact hj)⟩

theorem Grows.keep {S : Nat → Prop} {w0 w w' : World} {it : Item} {i : Nat} {A : Option Addr} {n c : Nat} (h : Grows w0 w it i A n c) (k : Keep S w w') (hn : ∀ j, (blk A = some j ∨ blk it.A = some j) → ¬ S j) (hs : ∀ j, j < w0.heap.size → ¬ S j) : Grows w0 w' it i A n c :=
  ⟨h.buf.keep k (fun j hj => hn j (.inl hj)), h.src.of_keep k (fun j hj => hn j (.inr hj)), h.le, h.wh, h.kp.trans k (fun j hj e => absurd e (hs j hj)), h.lt⟩

theorem Grows.more {w0 w w' : World} {it : Item} {i : Nat} {A A' : Option Addr} {n c c' m : Nat} (h : Grows w0 w it i A n c)
    (b : Buf w' A' (n + m) c' ((marksR i 0 n).map (Value.int .i32) ++ (marksR i n m).map (Value.int .i32))) (k : Keep (fun k => blk A = some k) w w') (hA : A' = A ∨ ((∀ k, blk A' = some k → w.heap.size ≤ k) ∧ Keep (fun _ => False) w w')) : Grows w0 w' it i A' (n + m) c' := by
  have hb : Buf w' A' (n + m) c' ((marksR i 0 (n + m)).map (Value.int .i32)) := by
    have := marksR_add i 0 n m
    rw [Nat.zero_add] at this
    rw [← this, List.map_append]; exact b
  have hw := h.kp.size
  have hle := h.le
  rcases hA with rfl | ⟨h1, h2⟩
  · rcases h.wh with rfl | h3
    · refine ⟨hb, ?_, by omega, .inl rfl, h.kp.trans k (fun j _ e => e), h.lt⟩
      have hs := hb.src
      rw [show n + m = it.n + (n + m - it.n) from by omega, ← marksR_add, List.map_append] at hs
      exact src_take hs (by simp [marksR_length])
    · have far : ∀ j, blk it.A = some j → ¬ blk A' = some j := fun j hj e => by have := h.lt j hj; have := h3 j e; omega
      exact ⟨hb, h.src.of_keep k far, by omega, .inr h3, h.kp.trans k (fun j hj e => absurd (h3 j e) (by omega)), h.lt⟩
  · exact ⟨hb, h.src.of_keep h2 (fun _ _ x => x), by omega, .inr (fun j hj => by have := h1 j hj; omega), h.kp.trans h2 (fun j _ e => e.elim), h.lt⟩

/-- Lists of marks. -/
def Marked (w : World) (A : Option Addr) (c : Nat) (gs : List Item) : Prop :=
  Buf w A gs.length c (gs.map Item.val) ∧ ∀ (j : Nat) (g : Item), gs[j]? = some g → Src w g.A g.n ((marksR j 0 g.n).map (Value.int .i32)) ∧ g.n ≤ 5000

/-- The first k lists have grown. -/
structure GrowInv (w wr : World) (q : Nat) (own : Nat → Prop) (A : Option Addr) (c : Nat) (its : List Item) (O : Option Addr) (oc : Nat) (gs : List Item) (k : Nat) : Prop where
  c0 : wr.cell? ⟨q, 4, none⟩ = some (.slice A its.length c)
  rows : Buf wr A its.length c (its.map Item.val)
  later : ∀ (j : Nat) (it : Item), k ≤ j → its[j]? = some it → Buf wr it.A it.n it.c ((marksR j 0 it.n).map (Value.int .i32))
  src : ∀ (j : Nat) (it : Item), its[j]? = some it → Src wr it.A it.n ((marksR j 0 it.n).map (Value.int .i32))
  len : gs.length = k
  out : Buf wr O k oc (gs.map Item.val)
  fresh : ∀ z, blk O = some z → w.heap.size ≤ z
  gsrc : ∀ (j : Nat) (g it : Item), gs[j]? = some g → its[j]? = some it → Src wr g.A g.n ((marksR j 0 g.n).map (Value.int .i32)) ∧ g.n = it.n + 72 ∧ (g.A = it.A ∨ ∀ z, blk g.A = some z → w.heap.size ≤ z) ∧ ∀ z, blk g.A = some z → blk O ≠ some z ∧ z < wr.heap.size
  kp : Keep own w wr

namespace GrowInv
variable {w wr w1 w2 : World} {q : Nat} {own : Nat → Prop} {A : Option Addr} {c : Nat} {its : List Item} {f : Nat → List Int} {O O' : Option Addr} {oc oc' : Nat} {gs : List Item} {k : Nat}

theorem start (H : TextsT w q own A c its f) (hM : ∀ (j : Nat) (it : Item), its[j]? = some it → f j = marksR j 0 it.n) : GrowInv w w q own A c its none 0 [] 0 :=
  { c0 := H.c0, rows := H.rows, later := fun j it _ hj => by rw [← hM j it hj]; exact H.item j it hj, src := fun j it hj => by rw [← hM j it hj]; exact (H.item j it hj).src, len := rfl, out := Buf.nil _, fresh := fun z hz => by simp [blk] at hz, gsrc := fun j g it hg => by simp at hg, kp := Keep.refl _ _ }

theorem next (H : TextsT w q own A c its f) (h : GrowInv w wr q own A c its O oc gs k) {it : Item} (hit : its[k]? = some it) {A' : Option Addr} {c' : Nat} (hg : Grows wr w1 it k A' (it.n + 72) c')
    (b : Buf w2 O' (k + 1) oc' (gs.map Item.val ++ [.slice A' (it.n + 72) c'])) (kk : Keep (fun z => blk O = some z) w1 w2) (hO : ∀ z, blk O' = some z → blk O = some z ∨ w1.heap.size ≤ z) :
    GrowInv w w2 q own A c its O' oc' (gs ++ [⟨A', it.n + 72, c', []⟩]) (k + 1) := by
  have hm := List.mem_of_getElem? hit
  have s0 := h.kp.size
  have s1 := hg.kp.size
  have s2 := kk.size
  have K : Keep (fun z => blk it.A = some z ∨ blk O = some z) wr w2 := (hg.kp.mono (fun _ _ x => .inl x)).trans kk (fun _ _ x => .inr x)
  have old : ∀ z, own z → blk O ≠ some z := fun z hz e => by have := H.lt z hz; have := h.fresh z e; omega
  have oth : ∀ (j : Nat) (jt : Item), j ≠ k → its[j]? = some jt → ∀ z, blk jt.A = some z → ¬ (blk it.A = some z ∨ blk O = some z) := fun j jt hj hjt z hz e => by
    rcases e with e | e
    · exact H.d5 j k jt it hj hjt hit z hz e
    · exact old z (H.oI jt (List.mem_of_getElem? hjt) z hz) e
  have far : ∀ z, blk A' = some z → blk O ≠ some z := fun z hz e => by
    rcases hg.wh with rfl | x
    · exact old z (H.oI it hm z hz) e
    · have := x z hz; have := h.out.lt e; omega
  have g6 : ∀ z, blk A' = some z → blk O' ≠ some z := fun z hz e => by
    rcases hO z e with e | e
    · exact far z hz e
    · have := hg.buf.lt hz; omega
  refine { c0 := (K.cell (p := ⟨q, 4, none⟩) (by have := H.lq; show q < _; omega) (fun e => ?_)).trans h.c0, rows := h.rows.keep K (fun z hz e => ?_), later := fun j jt hj hjt => (h.later j jt (by omega) hjt).keep K (oth j jt (by omega) hjt), src := fun j jt hjt => ?_, len := by simp [h.len], out := by rw [List.map_append]; exact b, fresh := fun z hz => ?_, gsrc := fun j g jt hj hjt => ?_, kp := h.kp.trans (K.mono (S' := fun z => own z ∨ wr.heap.size ≤ z ∨ blk O = some z) (fun z _ e => e.imp (H.oI it hm z) .inr)) (fun z hz e => ?_) }
  · rcases e with e | e
    · exact (H.d3 it hm q e).1 rfl
    · have := h.fresh q e; have := H.lq; omega
  · rcases e with e | e
    · exact (H.d3 it hm z e).2 hz
    · exact old z (H.oA z hz) e
  · by_cases e : j = k
    · subst e
      rw [hit] at hjt; injection hjt with hjt; subst hjt
      exact hg.src.of_keep kk (fun z hz e => old z (H.oI it hm z hz) e)
    · exact (h.src j jt hjt).of_keep K (oth j jt e hjt)
  · rcases hO z hz with e | e
    · exact h.fresh z e
    · omega
  · by_cases e : j < gs.length
    · rw [List.getElem?_append_left e] at hj
      obtain ⟨r1, r2, r3, r4⟩ := h.gsrc j g jt hj hjt
      have hjk : j ≠ k := by have := h.len; omega
      refine ⟨r1.of_keep K (fun z hz e2 => ?_), r2, r3, fun z hz => ⟨fun e2 => ?_, by have := (r4 z hz).2; omega⟩⟩
      · rcases e2 with e2 | e2
        · rcases r3 with x | x
          · rw [x] at hz; exact H.d5 j k jt it hjk hjt hit z hz e2
          · have := x z hz; have := H.lt z (H.oI it hm z e2); omega
        · exact (r4 z hz).1 e2
      · rcases hO z e2 with x | x
        · exact (r4 z hz).1 x
        · have := (r4 z hz).2; omega
    · rw [List.getElem?_append_right (by omega)] at hj
      have hz : j = k := by
        have := h.len
        rcases Nat.eq_zero_or_pos (j - gs.length) with x | x
        · omega
        · rw [List.getElem?_eq_none (by simp; omega)] at hj; cases hj
      subst hz
      rw [h.len, Nat.sub_self] at hj
      injection hj with hj
      subst hj
      rw [hit] at hjt; injection hjt with hjt; subst hjt
      exact ⟨hg.buf.src.of_keep kk far, rfl, hg.wh.imp id (fun x z hz => by have := x z hz; omega), fun z hz => ⟨g6 z hz, by have := hg.buf.lt hz; omega⟩⟩
  · rcases e with e | e | e
    · exact e
    · omega
    · exact absurd (h.fresh z e) (by omega)

/-- At the end: both what has grown and what there was are marks. -/
theorem done (H : TextsT w q own A c its f) (h : GrowInv w wr q own A c its O oc gs its.length) : Marked wr O oc gs ∧ Marked wr A c its := by
  refine ⟨⟨by rw [h.len]; exact h.out, fun j g hj => ?_⟩, ⟨h.rows, fun j it hj => ⟨h.src j it hj, by have := H.few it (List.mem_of_getElem? hj); omega⟩⟩⟩
  obtain ⟨hjl, -⟩ := List.getElem?_eq_some_iff.1 hj
  rw [h.len] at hjl
  obtain ⟨r1, r2, -⟩ := h.gsrc j g _ hj (List.getElem?_eq_getElem hjl)
  exact ⟨r1, by have := H.few _ (List.getElem_mem hjl); omega⟩

end GrowInv

theorem Marked.keep {w w' : World} {A : Option Addr} {c : Nat} {gs : List Item} (h : Marked w A c gs) (k : Keep (fun _ => False) w w') : Marked w' A c gs :=
  ⟨h.1.keep k (fun _ _ x => x), fun j g hj => ⟨(h.2 j g hj).1.of_keep k (fun _ _ x => x), (h.2 j g hj).2⟩⟩

end Go.Proofs.Ytoihadjboeeglaa.Rn
