/- A Pact in memory. Own work. -/
import Derived.Test.YtmkgcmnimpkmjaaPactM
import Derived.Test.YtmkgcmnimpkmjaaHeard
import Derived.Test.YtmkgcmnimpkmjaaTal
import Derived.Test.YtmkgcmnimpkmjaaOnces
namespace Go.Proofs.Ytmkgcmnimpkmjaa
set_option linter.unusedVariables false
set_option linter.unusedSimpArgs false
open Go.RowKit Go.Maps Go.WideMaps

/-- Where its rows and its maps lie. -/
structure Blk where
  q1 : Nat
  q2 : Nat
  b1 : Nat
  b2 : Nat

def pcs (L : Blk) (name : ByteArray) (d l : Int) (m : Pm) : List Value :=
  [.bool true, .int .u32 d, .int .i32 l, .int .u32 0, .int .i64 (m.sent : Int), .int .i64 251, .int .i64 252, .slice (some ⟨L.q1, 0, none⟩) 4 4, .map (some L.b1),
   .int .i64 253, .int .i64 254, .slice (some ⟨L.q2, 0, none⟩) 3 3, .map (some L.b2), .string name, .int .i64 (m.w : Int), .int .i64 (m.h : Int), .int .i64 (m.tw : Int), .int .i64 (m.th : Int), .bool m.told]

/-- A map that tells sides: no more of them than were set. -/
def Sides (w : World) (b g : Nat) (s : Int → Int × Bool) : Prop := ∃ n f, MapI Try.prog 3 w b n f ∧ n ≤ g ∧ ∀ x, (f x).getD (sd 0 false) = sd (s x).1 (s x).2

theorem Sides.keep {S : Nat → Prop} {w w' : World} {b g : Nat} {s : Int → Int × Bool} (h : Sides w b g s) (k : Keep S w w') (hn : ¬ S b) : Sides w' b g s := by
  obtain ⟨n, f, h1, h2⟩ := h
  exact ⟨n, f, h1.keep k hn, h2⟩
theorem Sides.lt {w : World} {b g : Nat} {s : Int → Int × Bool} (h : Sides w b g s) : b < w.heap.size := by
  obtain ⟨n, f, h1, h2⟩ := h
  exact h1.lt
theorem Sides.mono {w : World} {b g g' : Nat} {s : Int → Int × Bool} (h : Sides w b g s) (k : g ≤ g') : Sides w b g' s := by
  obtain ⟨n, f, h1, h2, h3⟩ := h
  exact ⟨n, f, h1, Nat.le_trans h2 k, h3⟩
theorem Sides.made (w : World) {b : Nat} (hb : b = w.heap.size) : Sides (w.alloc (.map #[] 0)) b 0 (fun _ => (0, false)) := by
  subst hb
  exact ⟨0, _, MapI.made Try.prog 3 w, Nat.le_refl _, fun x => rfl⟩

/-- m[o]. -/
theorem Sides.look {w : World} {b g : Nat} {s : Int → Int × Bool} (h : Sides w b g s) {o : Int} (ho : (Lit.int .i64 o).wf = true) :
    (Instr.lookup 54 (.map (some b)) (.int .i64 o) false).run Try.prog w = .ok (.agg #[.int .i64 (s o).1, .bool (s o).2]) w := by
  obtain ⟨n, f, h1, h2, h3⟩ := h
  have h4 := h1.look Try.underlying3 Try.underlying54 (t := 54) (e := 44) (z := sd 0 false) (by kernel_rfl) ho
  rw [h3] at h4
  exact h4


set_option maxRecDepth 100000 in
theorem Sides.put {w : World} {b g : Nat} {s : Int → Int × Bool} {o : Oper} {a : Act} {K : Act → World → Prop} {Q : Exit → Act → World → Prop} (h : Sides w b g s) (hg : g < 1000000) (m x v : Operand) (hop : o.op = Op.mapUpdate 54 m x v)
    (hm : a.eval m = .map (some b)) (k : Int) (hk : (Lit.int .i64 k).wf = true) (hx : a.eval x = .int .i64 k) (u : Int × Bool) (hv : a.eval v = sd u.1 u.2)
    (hK : ∀ w', Sides w' b (g + 1) (setS s k u) → Keep (· = b) w w' → K (a.put o.dst undef) w') : Oper.wp Try.prog o a w K Q := by
  obtain ⟨n, f, h1, h2, h3⟩ := h
  obtain ⟨D, e1, e2, e3, e4⟩ := h1
  have hn : n < maxLen := by unfold maxLen; omega
  obtain ⟨w', hrun, r1, r2⟩ := e1.update (val := a.eval v) (int_keyed Try.underlying3) Try.underlying54 hn (keyOf_int_mk Try.underlying3 hk) (d := .held (a.eval v)) (ps := []) rfl
  have hp := mapI_put e2 e3 e4 (e1.tidy (int_keyed Try.underlying3)) r1
  unfold Oper.wp
  simp [execOp, hop, hm, hx, hrun, Result.andThen]
  refine hK w' ⟨_, _, hp, ?_, fun y => ?_⟩ ((Keep.refl _ w).grown r2 (fun i hi _ => by injection hi with hi; exact hi.symm))
  · split <;> omega
  · unfold putI setS
    by_cases e : y = k
    · rw [if_pos e, if_pos e, hv]; rfl
    · rw [if_neg e, if_neg e]; exact h3 y

/-- A Pact behind a pointer. -/
structure PactAt (w : World) (p : Nat) (L : Blk) (name : ByteArray) (d l : Int) (m : Pm) : Prop where
  cs : Cells w p (pcs L name d l m)
  i1 : Ints w (some ⟨L.q1, 0, none⟩) 4 (agreedL true)
  i2 : Ints w (some ⟨L.q2, 0, none⟩) 3 (agreedL false)
  m1 : Sides w L.b1 m.g m.us
  m2 : Sides w L.b2 m.g m.him
  ne : L.b1 ≠ L.b2 ∧ p ≠ L.b1 ∧ p ≠ L.b2 ∧ L.q1 ≠ p ∧ L.q2 ≠ p ∧ L.q1 ≠ L.b1 ∧ L.q1 ≠ L.b2 ∧ L.q2 ≠ L.b1 ∧ L.q2 ≠ L.b2

/-- What is a Pact's own. -/
def pown (p : Nat) (L : Blk) : Nat → Prop := fun i => i = p ∨ i = L.b1 ∨ i = L.b2

theorem Ints.keepS {S : Nat → Prop} {w w' : World} {q n : Nat} {xs : List Int} (h : Ints w (some ⟨q, 0, none⟩) n xs) (k : Keep S w w') (hn : ¬ S q) : Ints w' (some ⟨q, 0, none⟩) n xs := by
  refine ⟨h.1, fun h0 => ?_, h.2.2⟩
  obtain ⟨b, off, e, hb, hc⟩ := h.2.1 h0
  injection e with e
  injection e with e1 e2
  subst e1 e2
  exact ⟨_, 0, rfl, Nat.lt_of_lt_of_le hb k.size, fun i x hi => (k.cell (p := ⟨q, 0 + i, none⟩) hb hn).trans (hc i x hi)⟩
theorem Ints.lt {w : World} {q n : Nat} {xs : List Int} (h : Ints w (some ⟨q, 0, none⟩) n xs) (h0 : 0 < n) : q < w.heap.size := by
  obtain ⟨b, off, e, hb, hc⟩ := h.2.1 h0
  injection e with e
  injection e with e1 e2
  subst e1
  exact hb

namespace PactAt
variable {w w' : World} {p : Nat} {L : Blk} {name : ByteArray} {d l : Int} {m m' : Pm}
theorem lt (h : PactAt w p L name d l m) : p < w.heap.size := (h.cs 0 _ rfl).lt
theorem lts (h : PactAt w p L name d l m) : p < w.heap.size ∧ L.q1 < w.heap.size ∧ L.q2 < w.heap.size ∧ L.b1 < w.heap.size ∧ L.b2 < w.heap.size :=
  ⟨h.lt, h.i1.lt (by omega), h.i2.lt (by omega), h.m1.lt, h.m2.lt⟩
theorem keep {S : Nat → Prop} (h : PactAt w p L name d l m) (k : Keep S w w') (hn : ∀ i, i = p ∨ i = L.q1 ∨ i = L.q2 ∨ i = L.b1 ∨ i = L.b2 → ¬ S i) : PactAt w' p L name d l m :=
  ⟨h.cs.keep k (hn _ (.inl rfl)), h.i1.keepS k (hn _ (.inr (.inl rfl))), h.i2.keepS k (hn _ (.inr (.inr (.inl rfl)))), h.m1.keep k (hn _ (.inr (.inr (.inr (.inl rfl))))), h.m2.keep k (hn _ (.inr (.inr (.inr (.inr rfl))))), h.ne⟩
theorem below (h : PactAt w p L name d l m) (k : Below w.heap.size w w') : PactAt w' p L name d l m := h.keep (S := fun _ => False) (Keep.of_below _ k) (fun _ _ x => x)
theorem alloc (h : PactAt w p L name d l m) (o : Obj) : PactAt (w.alloc o) p L name d l m := h.keep (S := fun _ => False) ((Keep.refl _ w).alloc o) (fun _ _ x => x)
theorem drew (h : PactAt w p L name d l m) : PactAt w.drew p L name d l m := h.keep (S := fun _ => False) (Keep.refl _ w).drew (fun _ _ x => x)
theorem drewN (h : PactAt w p L name d l m) (n : Nat) : PactAt (w.drewN n) p L name d l m := h.keep (S := fun _ => False) ((Keep.refl _ w).drewN n) (fun _ _ x => x)
/-- Its cells set anew, the maps as they were. -/
theorem cells (h : PactAt w p L name d l m) {d' l' : Int} (k : Keep (· = p) w w') (hc : Cells w' p (pcs L name d' l' m')) (h1 : m'.us = m.us) (h2 : m'.him = m.him) (h3 : m.g ≤ m'.g) : PactAt w' p L name d' l' m' :=
  ⟨hc, h.i1.keepS k h.ne.2.2.2.1, h.i2.keepS k h.ne.2.2.2.2.1, h1 ▸ (h.m1.keep k (fun e => h.ne.2.1 e.symm)).mono h3, h2 ▸ (h.m2.keep k (fun e => h.ne.2.2.1 e.symm)).mono h3, h.ne⟩
end PactAt

end Go.Proofs.Ytmkgcmnimpkmjaa
