/- Several objects in memory, side by side: each holds its blocks (s) and tells what stands in them (p); no two of them share a block; all blocks are new since w0. It speaks of no program. Own work. Objects that stand side by side (XStar): a block's cells. It speaks of no program. Own work. -/
import Derived.Test.YtbjdcbnmpmcdiaaBase
set_option linter.unusedVariables false
set_option linter.unusedSimpArgs false
namespace Go.Proofs.Ytbjdcbnmpmcdiaa
set_option linter.unusedVariables false
open Go.RowKit

/-- What is told of a world stays as long as nobody turns the blocks s. -/
def ClosedBy (s : Nat → Prop) (p : World → Prop) : Prop := ∀ (S : Nat → Prop) (w w' : World), Keep S w w' → (∀ b, s b → ¬ S b) → p w → p w'
structure Hold where
  s : Nat → Prop
  p : World → Prop
def Hold.ok (x : Hold) (w : World) : Prop := x.p w ∧ ClosedBy x.s x.p
/-- Nothing. -/
def Hold.no : Hold := ⟨fun _ => False, fun _ => True⟩

theorem ClosedBy.and {s : Nat → Prop} {p q : World → Prop} (hp : ClosedBy s p) (hq : ClosedBy s q) : ClosedBy s (fun w => p w ∧ q w) := fun S w w' k hs h => ⟨hp S w w' k hs h.1, hq S w w' k hs h.2⟩
theorem ClosedBy.mono {s s' : Nat → Prop} {p : World → Prop} (hp : ClosedBy s p) (h : ∀ b, s b → s' b) : ClosedBy s' p := fun S w w' k hs x => hp S w w' k (fun b hb => hs b (h b hb)) x

structure Star (w0 w : World) (xs : List Hold) : Prop where
  dis : xs.Pairwise (fun a b => ∀ k, a.s k → ¬ b.s k)
  lo : ∀ a ∈ xs, ∀ k, a.s k → w0.heap.size ≤ k
  hi : ∀ a ∈ xs, ∀ k, a.s k → k < w.heap.size
  be : Below w0.heap.size w0 w
  at' : ∀ a ∈ xs, a.p w
  cl : ∀ a ∈ xs, ClosedBy a.s a.p

namespace Star
variable {w0 w w' : World} {xs : List Hold} {x y : Hold}
theorem nil (h : Below w0.heap.size w0 w) : Star w0 w [] := ⟨List.Pairwise.nil, fun a ha => by simp at ha, fun a ha => by simp at ha, h, fun a ha => by simp at ha, fun a ha => by simp at ha⟩
theorem get (h : Star w0 w xs) (i : Nat) (hx : xs[i]? = some x) : x.p w := h.at' x (List.mem_of_getElem? hx)
theorem far (h : Star w0 w xs) (i j : Nat) (hij : i ≠ j) (hx : xs[i]? = some x) (hy : xs[j]? = some y) (k : Nat) (hk : x.s k) : ¬ y.s k := by
  obtain ⟨hi, rfl⟩ := List.getElem?_eq_some_iff.1 hx
  obtain ⟨hj, rfl⟩ := List.getElem?_eq_some_iff.1 hy
  rcases Nat.lt_or_gt_of_ne hij with e | e
  · exact List.pairwise_iff_getElem.1 h.dis i j hi hj e k hk
  · exact fun hk2 => List.pairwise_iff_getElem.1 h.dis j i hj hi e k hk2 hk
theorem old (h : Star w0 w xs) (i : Nat) (hx : xs[i]? = some x) {k : Nat} (hk : k < w0.heap.size) : ¬ x.s k := fun e => by have := h.lo x (List.mem_of_getElem? hx) k e; omega
theorem lt (h : Star w0 w xs) (i : Nat) (hx : xs[i]? = some x) {k : Nat} (hk : x.s k) : k < w.heap.size := h.hi x (List.mem_of_getElem? hx) k hk
theorem ge (h : Star w0 w xs) (i : Nat) (hx : xs[i]? = some x) {k : Nat} (hk : x.s k) : w0.heap.size ≤ k := h.lo x (List.mem_of_getElem? hx) k hk
/-- Nothing that is held was turned. -/
theorem far_of {S : Nat → Prop} (h : Star w0 w xs) (k : Keep S w w') (hS : ∀ b, b < w0.heap.size → ¬ S b) (hn : ∀ a ∈ xs, ∀ b, a.s b → ¬ S b) : Star w0 w' xs :=
  ⟨h.dis, h.lo, fun a ha b hb => Nat.lt_of_lt_of_le (h.hi a ha b hb) k.size, h.be.trans (k.below h.be.size hS), fun a ha => h.cl a ha S w w' k (hn a ha) (h.at' a ha), h.cl⟩
theorem quiet (h : Star w0 w xs) (k : Keep (fun _ => False) w w') : Star w0 w' xs := h.far_of k (fun _ _ x => x) (fun _ _ _ _ x => x)
theorem below (h : Star w0 w xs) (k : Below w.heap.size w w') : Star w0 w' xs := h.quiet (Keep.of_below _ k)
theorem drew (h : Star w0 w xs) : Star w0 w.drew xs := h.quiet ((Keep.refl _ w).drew)
theorem drewN (h : Star w0 w xs) (n : Nat) : Star w0 (w.drewN n) xs := h.quiet ((Keep.refl _ w).drewN n)
theorem alloc (h : Star w0 w xs) (o : Obj) : Star w0 (w.alloc o) xs := h.quiet ((Keep.refl _ w).alloc o)
/-- Object i has turned its blocks, and made new ones. -/
theorem turn (h : Star w0 w xs) (i : Nat) (hx : xs[i]? = some x) (x' : Hold) (k : Keep x.s w w') (hs : ∀ b, x'.s b → (x.s b ∨ w.heap.size ≤ b) ∧ b < w'.heap.size) (hp : x'.p w') (hc : ClosedBy x'.s x'.p) : Star w0 w' (xs.set i x') := by
  have hsz := h.be.size
  obtain ⟨hil, hxi⟩ := List.getElem?_eq_some_iff.1 hx
  have key : ∀ j (hj : j < (xs.set i x').length), (j = i ∧ (xs.set i x')[j] = x') ∨ (j ≠ i ∧ ∃ hj' : j < xs.length, (xs.set i x')[j] = xs[j]) := fun j hj => by
    have hj' : j < xs.length := by rwa [List.length_set] at hj
    by_cases e : j = i
    · subst e; exact .inl ⟨rfl, by simp⟩
    · exact .inr ⟨e, hj', by rw [List.getElem_set_ne (fun x => e x.symm)]⟩
  have mem : ∀ a ∈ xs.set i x', a = x' ∨ (a ∈ xs ∧ ∃ j, j ≠ i ∧ xs[j]? = some a) := fun a ha => by
    obtain ⟨j, hj, rfl⟩ := List.getElem_of_mem ha
    rcases key j hj with ⟨_, e⟩ | ⟨e1, hj', e2⟩
    · exact .inl e
    · rw [e2]; exact .inr ⟨List.getElem_mem hj', j, e1, List.getElem?_eq_getElem hj'⟩
  have fresh : ∀ b, x'.s b → x.s b ∨ w.heap.size ≤ b := fun b hb => (hs b hb).1
  refine ⟨?_, fun a ha b hb => ?_, fun a ha b hb => ?_, h.be.trans (k.below hsz (fun b hb e => h.old i hx hb e)), fun a ha => ?_, fun a ha => ?_⟩
  · refine List.pairwise_iff_getElem.2 fun a b ha hb hab c hc1 hc2 => ?_
    rcases key a ha with ⟨e1, e2⟩ | ⟨e1, ha', e2⟩ <;> rcases key b hb with ⟨e3, e4⟩ | ⟨e3, hb', e4⟩
    · omega
    · rw [e2] at hc1; rw [e4] at hc2
      rcases fresh c hc1 with z | z
      · exact h.far i b (fun e => e3 e.symm) hx (List.getElem?_eq_getElem hb') c z hc2
      · have := h.hi _ (List.getElem_mem hb') c hc2; omega
    · rw [e2] at hc1; rw [e4] at hc2
      rcases fresh c hc2 with z | z
      · exact h.far i a (fun e => e1 e.symm) hx (List.getElem?_eq_getElem ha') c z hc1
      · have := h.hi _ (List.getElem_mem ha') c hc1; omega
    · rw [e2] at hc1; rw [e4] at hc2
      exact List.pairwise_iff_getElem.1 h.dis a b ha' hb' hab c hc1 hc2
  · rcases mem a ha with rfl | ⟨ha', _⟩
    · rcases fresh b hb with z | z
      · exact h.ge i hx z
      · omega
    · exact h.lo a ha' b hb
  · rcases mem a ha with rfl | ⟨ha', _⟩
    · exact (hs b hb).2
    · exact Nat.lt_of_lt_of_le (h.hi a ha' b hb) k.size
  · rcases mem a ha with rfl | ⟨ha', j, hj, hja⟩
    · exact hp
    · exact h.cl a ha' _ w w' k (fun b hb hb2 => h.far j i hj hja hx b hb hb2) (h.at' a ha')
  · rcases mem a ha with rfl | ⟨ha', _⟩
    · exact hc
    · exact h.cl a ha'
/-- One more, in new blocks. -/
theorem new (h : Star w0 w xs) (x' : Hold) (k : Keep (fun _ => False) w w') (hs : ∀ b, x'.s b → w.heap.size ≤ b ∧ b < w'.heap.size) (hp : x'.p w') (hc : ClosedBy x'.s x'.p) : Star w0 w' (xs ++ [x']) := by
  have h1 := h.quiet k
  have hsz := h.be.size
  refine ⟨List.pairwise_append.2 ⟨h1.dis, List.pairwise_singleton _ _, fun a ha b hb c hc1 hc2 => ?_⟩, fun a ha b hb => ?_, fun a ha b hb => ?_, h1.be, fun a ha => ?_, fun a ha => ?_⟩
  · rw [List.mem_singleton.1 hb] at hc2
    have := h.hi a ha c hc1; have := (hs c hc2).1; omega
  all_goals rcases List.mem_append.1 ha with e | e
  · exact h1.lo a e b hb
  · rw [List.mem_singleton.1 e] at hb; have := (hs b hb).1; omega
  · exact h1.hi a e b hb
  · rw [List.mem_singleton.1 e] at hb; exact (hs b hb).2
  · exact h1.at' a e
  · rw [List.mem_singleton.1 e]; exact hp
  · exact h1.cl a e
  · rw [List.mem_singleton.1 e]; exact hc
/-- Fewer of them. -/
theorem sub {ys : List Hold} (h : Star w0 w xs) (hy : ys.Sublist xs) : Star w0 w ys :=
  ⟨h.dis.sublist hy, fun a ha => h.lo a (hy.subset ha), fun a ha => h.hi a (hy.subset ha), h.be, fun a ha => h.at' a (hy.subset ha), fun a ha => h.cl a (hy.subset ha)⟩
theorem first (n : Nat) (h : Star w0 w xs) : Star w0 w (xs.take n) := h.sub (List.take_sublist n xs)
/-- Object i holds what i and j held; j holds nothing. -/
theorem both (h : Star w0 w xs) (i j : Nat) (hij : i ≠ j) (hx : xs[i]? = some x) (hy : xs[j]? = some y) : Star w0 w ((xs.set j .no).set i ⟨fun b => x.s b ∨ y.s b, fun v => x.p v ∧ y.p v⟩) := by
  obtain ⟨hil, hxi⟩ := List.getElem?_eq_some_iff.1 hx
  obtain ⟨hjl, hyj⟩ := List.getElem?_eq_some_iff.1 hy
  have key : ∀ a (ha : a < ((xs.set j Hold.no).set i ⟨fun b => x.s b ∨ y.s b, fun v => x.p v ∧ y.p v⟩).length), (a = i ∧ ((xs.set j Hold.no).set i ⟨fun b => x.s b ∨ y.s b, fun v => x.p v ∧ y.p v⟩)[a] = ⟨fun b => x.s b ∨ y.s b, fun v => x.p v ∧ y.p v⟩) ∨ (a ≠ i ∧ a = j ∧ ((xs.set j Hold.no).set i ⟨fun b => x.s b ∨ y.s b, fun v => x.p v ∧ y.p v⟩)[a] = Hold.no) ∨ (a ≠ i ∧ a ≠ j ∧ ∃ ha' : a < xs.length, ((xs.set j Hold.no).set i ⟨fun b => x.s b ∨ y.s b, fun v => x.p v ∧ y.p v⟩)[a] = xs[a]) := fun a ha => by
    have ha' : a < xs.length := by rwa [List.length_set, List.length_set] at ha
    by_cases e : a = i
    · subst e; exact .inl ⟨rfl, by simp⟩
    · by_cases e2 : a = j
      · subst e2; exact .inr (.inl ⟨e, rfl, by rw [List.getElem_set_ne (fun x => e x.symm)]; simp⟩)
      · exact .inr (.inr ⟨e, e2, ha', by rw [List.getElem_set_ne (fun x => e x.symm), List.getElem_set_ne (fun x => e2 x.symm)]⟩)
  have mem : ∀ a ∈ (xs.set j Hold.no).set i ⟨fun b => x.s b ∨ y.s b, fun v => x.p v ∧ y.p v⟩, a = ⟨fun b => x.s b ∨ y.s b, fun v => x.p v ∧ y.p v⟩ ∨ a = Hold.no ∨ a ∈ xs := fun a ha => by
    obtain ⟨c, hc, rfl⟩ := List.getElem_of_mem ha
    rcases key c hc with ⟨_, e⟩ | ⟨_, _, e⟩ | ⟨_, _, hc', e⟩
    · exact .inl e
    · exact .inr (.inl e)
    · rw [e]; exact .inr (.inr (List.getElem_mem hc'))
  refine ⟨?_, fun a ha b hb => ?_, fun a ha b hb => ?_, h.be, fun a ha => ?_, fun a ha => ?_⟩
  · refine List.pairwise_iff_getElem.2 fun a b ha hb hab c hc1 hc2 => ?_
    rcases key a ha with ⟨e1, e2⟩ | ⟨e1, e1', e2⟩ | ⟨e1, e1', ha', e2⟩ <;> rcases key b hb with ⟨e3, e4⟩ | ⟨e3, e3', e4⟩ | ⟨e3, e3', hb', e4⟩
    all_goals rw [e2] at hc1; rw [e4] at hc2
    all_goals try exact hc1.elim
    all_goals try exact hc2.elim
    · omega
    · rcases hc1 with z | z
      · exact h.far i b (fun e => e3 e.symm) hx (List.getElem?_eq_getElem hb') c z hc2
      · exact h.far j b (fun e => e3' e.symm) hy (List.getElem?_eq_getElem hb') c z hc2
    · rcases hc2 with z | z
      · exact h.far i a (fun e => e1 e.symm) hx (List.getElem?_eq_getElem ha') c z hc1
      · exact h.far j a (fun e => e1' e.symm) hy (List.getElem?_eq_getElem ha') c z hc1
    · exact List.pairwise_iff_getElem.1 h.dis a b ha' hb' hab c hc1 hc2
  · rcases mem a ha with rfl | rfl | ha'
    · rcases hb with z | z
      · exact h.ge i hx z
      · exact h.ge j hy z
    · exact hb.elim
    · exact h.lo a ha' b hb
  · rcases mem a ha with rfl | rfl | ha'
    · rcases hb with z | z
      · exact h.lt i hx z
      · exact h.lt j hy z
    · exact hb.elim
    · exact h.hi a ha' b hb
  · rcases mem a ha with rfl | rfl | ha'
    · exact ⟨h.get i hx, h.get j hy⟩
    · trivial
    · exact h.at' a ha'
  · rcases mem a ha with rfl | rfl | ha'
    · exact ((h.cl x (List.mem_of_getElem? hx)).mono (fun b hb => .inl hb)).and ((h.cl y (List.mem_of_getElem? hy)).mono (fun b hb => .inr hb))
    · exact fun _ _ _ _ _ _ => trivial
    · exact h.cl a ha'
/-- In another order. -/
theorem perm {ys : List Hold} (h : Star w0 w xs) (hp : xs.Perm ys) : Star w0 w ys :=
  ⟨(hp.pairwise_iff (fun hab k hb ha => hab k ha hb)).1 h.dis, fun a ha => h.lo a (hp.mem_iff.2 ha), fun a ha => h.hi a (hp.mem_iff.2 ha), h.be, fun a ha => h.at' a (hp.mem_iff.2 ha), fun a ha => h.cl a (hp.mem_iff.2 ha)⟩
/-- The first one is given up; the last one takes its place. -/
theorem lastFirst (h : Star w0 w (x :: (xs ++ [y]))) : Star w0 w (y :: xs) := (h.sub (List.sublist_cons_self x _)).perm List.perm_append_comm
end Star

end Go.Proofs.Ytbjdcbnmpmcdiaa
namespace Go.Proofs.Ytbjdcbnmpmcdiaa
set_option linter.unusedVariables false
open Go.RowKit

def boxH (ob : Nat) (cs : List Value) : Hold := ⟨fun b => b = ob, fun w => Cells w ob cs⟩
theorem boxH_cl (ob : Nat) (cs : List Value) : ClosedBy (boxH ob cs).s (boxH ob cs).p := fun S w w' k hs h => Cells.keep h k (hs ob rfl)
theorem star_box {w0 w : World} {xs : List Hold} (h : Star w0 w xs) (cs : List Value) (t : TypeId) : Star w0 (w.alloc (.cells cs.toArray t)) (xs ++ [boxH w.heap.size cs]) :=
  h.new (boxH w.heap.size cs) ((Keep.refl _ w).alloc _) (fun b e => by rw [show b = w.heap.size from e]; simp) (Cells.box w _ _) (boxH_cl _ _)
end Go.Proofs.Ytbjdcbnmpmcdiaa
