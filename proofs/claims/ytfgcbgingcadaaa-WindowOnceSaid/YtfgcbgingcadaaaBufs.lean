/- append of elements that are read to a slice that is kept. It speaks of no program. Own work. -/
import Derived.Test.YtfgcbgingcadaaaBuf
namespace Go.Proofs.Ytfgcbgingcadaaa
set_option linter.unusedVariables false
open Go.RowKit

theorem run_append_buf_at {P : Program} (w : World) (t ty e : TypeId) (i : TypeInfo) (z : Value) (bytes : Nat) (ht : P.underlying t = some (.slice e)) (hi : P.info? e = some i) (hz : i.zero = some z)
    (hsize : i.size = 1) (hby : i.bytes = bytes) (hzs : z.cells.size = 1) {A : Option Addr} {n cap : Nat} {xs : List Value} (h : Buf w A n cap xs)
    (B : Option Addr) (m c : Nat) (us : List Value) (hs : Src w B m us) (h1 : ∀ u ∈ us, u.oneCell' = true)
    (h63 : n + m ≤ maxLen) (hbytes : (n + m) * bytes ≤ 140737488355328) :
    ∃ A' cap' w', (Builtin.append_ #[t, t] ty #[.slice A n cap, .slice B m c]).run P w = .ok (.slice A' (n + m) cap') w' ∧
      Buf w' A' (n + m) cap' (xs ++ us) ∧ Keep (fun k => blk A = some k) w w' ∧ (A' = A ∨ ((∀ k, blk A' = some k → w.heap.size ≤ k) ∧ Keep (fun _ => False) w w')) := by
  rcases h with ⟨rfl, rfl, rfl, rfl⟩ | ⟨b, off, rfl, hb, hr⟩
  · obtain ⟨v', w', hrun, hown, hbel⟩ := run_copy_src (P := P) w t ty e i z bytes ht hi hz hsize hby hzs B m c us hs h1 (by omega) (by rwa [Nat.zero_add] at hbytes)
    obtain ⟨A', c', rfl, _⟩ := own_form hown
    refine ⟨A', c', w', by rw [Nat.zero_add]; exact hrun, by rw [Nat.zero_add, List.nil_append]; exact Buf.of_own hown, Keep.of_below _ hbel, .inr ⟨fun k hk => ?_, Keep.of_below _ hbel⟩⟩
    exact (hown.lt k (by rw [ownBlock_slice]; exact hk)).1
  · rcases Nat.eq_zero_or_pos m with h0 | h0
    · subst h0
      have hn : us = [] := List.eq_nil_of_length_eq_zero hs.1
      subst hn
      have hle : n + 0 ≤ cap := hr.le
      rcases B with _ | ad
      · refine ⟨some ⟨b, off, none⟩, cap, w, ?_, by rw [List.append_nil]; exact .inr ⟨b, off, rfl, hb, hr⟩, Keep.refl _ _, .inl rfl⟩
        have hle' : n ≤ cap := hr.le
        simp [Builtin.append_, run_underlying ht, sizeOf, typeInfo, hi, Builtin.lenOf, Builtin.firstCells, hle', hsize, storeCells, Result.andThen]
      · obtain ⟨b', off', cap', w', hrun, h2, h3, h4⟩ := run_append_row (P := P) w t ty e i z bytes ht hi hz hsize hby hzs hr ad 0 c [] rfl (fun j u hj => by simp at hj) (fun u hu => by simp at hu) h63 hbytes
        have hb' : b' < w'.heap.size := by
          rcases h4 with h4 | h4
          · rw [h4.1]; exact Nat.lt_of_lt_of_le hb h3.size
          · rcases Nat.eq_zero_or_pos cap' with hc | hc
            · exact absurd hrun (by
                intro hrun
                have hr2 := run_append_room_cells (P := P) w t ty e i ht hi b off n cap ad 0 c [] (by rw [hsize]; rfl) (fun j u hj => by simp at hj) (fun u hu => by simp at hu) hr.le
                  (fun j hj => by simp at hj) (fun j hj => by simp at hj)
                rw [hr2] at hrun
                injection hrun with q1 _
                injection q1 with q1 _ _
                injection q1 with q1
                injection q1 with q1
                omega)
            · exact h2.lt hc
        exact ⟨_, cap', w', hrun, .inr ⟨b', off', rfl, hb', h2⟩, h3.mono (fun k _ hk => by simp [blk, hk]), by
          rcases h4 with ⟨rfl, rfl⟩ | h4
          · exact .inl rfl
          · exact .inr ⟨(fun k hk => (by have hk' : b' = k := (by simpa [blk] using hk); have := h4.1; omega)), h4.2⟩⟩
    · obtain ⟨b2, o2, rfl, hb2, hc2⟩ := hs.2 h0
      obtain ⟨b', off', cap', w', hrun, h2, h3, h4⟩ := run_append_row (P := P) w t ty e i z bytes ht hi hz hsize hby hzs hr ⟨b2, o2, none⟩ m c us hs.1 (fun j u hj => by rw [add_mk]; exact hc2 j u hj) h1 h63 hbytes
      have hb' : b' < w'.heap.size := h2.lt (by have := h2.le; omega)
      exact ⟨_, cap', w', hrun, .inr ⟨b', off', rfl, hb', h2⟩, h3.mono (fun k _ hk => by simp [blk, hk]), by
        rcases h4 with ⟨rfl, rfl⟩ | h4
        · exact .inl rfl
        · exact .inr ⟨(fun k hk => (by have hk' : b' = k := (by simpa [blk] using hk); have := h4.1; omega)), h4.2⟩⟩

theorem blk_or {A A' : Option Addr} {m : Nat} (h : A' = A ∨ ∀ k, blk A' = some k → m ≤ k) : ∀ k, blk A' = some k → blk A = some k ∨ m ≤ k := fun k hk => by
  rcases h with rfl | h
  · exact .inl hk
  · exact .inr (h k hk)

theorem run_append_buf {P : Program} (w : World) (t ty e : TypeId) (i : TypeInfo) (z : Value) (bytes : Nat) (ht : P.underlying t = some (.slice e)) (hi : P.info? e = some i) (hz : i.zero = some z)
    (hsize : i.size = 1) (hby : i.bytes = bytes) (hzs : z.cells.size = 1) {A : Option Addr} {n cap : Nat} {xs : List Value} (h : Buf w A n cap xs)
    (B : Option Addr) (m c : Nat) (us : List Value) (hs : Src w B m us) (h1 : ∀ u ∈ us, u.oneCell' = true)
    (h63 : n + m ≤ maxLen) (hbytes : (n + m) * bytes ≤ 140737488355328) :
    ∃ A' cap' w', (Builtin.append_ #[t, t] ty #[.slice A n cap, .slice B m c]).run P w = .ok (.slice A' (n + m) cap') w' ∧
      Buf w' A' (n + m) cap' (xs ++ us) ∧ Keep (fun k => blk A = some k) w w' ∧ (∀ k, blk A' = some k → blk A = some k ∨ w.heap.size ≤ k) := by
  obtain ⟨A', cap', w', r1, r2, r3, r4⟩ := run_append_buf_at (P := P) w t ty e i z bytes ht hi hz hsize hby hzs h B m c us hs h1 h63 hbytes
  exact ⟨A', cap', w', r1, r2, r3, blk_or (r4.imp id And.left)⟩

/-- At the operation, for the walk. -/
theorem wp_append_buf {P : Program} (w : World) {o : Oper} {a : Act} {K : Act → World → Prop} {Q : Exit → Act → World → Prop} (sl x : Operand) (t : TypeId)
    (ho : o.op = .call { callee := .builtin .append, args := #[sl, x], argTypes := #[t, t] })
    (e : TypeId) (i : TypeInfo) (z : Value) (bytes : Nat) (ht : P.underlying t = some (.slice e)) (hi : P.info? e = some i) (hz : i.zero = some z)
    (hsize : i.size = 1) (hby : i.bytes = bytes) (hzs : z.cells.size = 1)
    {A : Option Addr} {n cap : Nat} {xs : List Value} (hs : a.eval sl = .slice A n cap) (hown : Buf w A n cap xs) {B : Option Addr} {m c : Nat} (us : List Value) (hx : a.eval x = .slice B m c) (hsrc : Src w B m us) (h1 : ∀ u ∈ us, u.oneCell' = true)
    (h63 : n + m ≤ maxLen) (hbytes : (n + m) * bytes ≤ 140737488355328)
    (h : ∀ A' cap' w', Buf w' A' (n + m) cap' (xs ++ us) → Keep (fun k => blk A = some k) w w' → (∀ k, blk A' = some k → blk A = some k ∨ w.heap.size ≤ k) → K (a.put o.dst (.slice A' (n + m) cap')) w') :
    Oper.wp P o a w K Q := by
  obtain ⟨A', cap', w', hr, h2, h3, h4⟩ := run_append_buf (P := P) w t o.type e i z bytes ht hi hz hsize hby hzs hown B m c us hsrc h1 h63 hbytes
  unfold Oper.wp execOp
  simp only [ho, resolve, invoke, builtin, Sem.run_bind, Sem.run_pure, Result.andThen_ok, List.map_toArray, List.map_cons, List.map_nil, hs, hx, hr]
  exact h A' cap' w' h2 h3 h4

theorem wpList_append_buf {P : Program} (w : World) {ops : Array Oper} {rest : List Oper} {o : Oper} {a : Act} {Q : Exit → Act → World → Prop} (hgd : o.guard = none) (sl x : Operand) (t : TypeId)
    (ho : o.op = .call { callee := .builtin .append, args := #[sl, x], argTypes := #[t, t] })
    (e : TypeId) (i : TypeInfo) (z : Value) (bytes : Nat) (ht : P.underlying t = some (.slice e)) (hi : P.info? e = some i) (hz : i.zero = some z)
    (hsize : i.size = 1) (hby : i.bytes = bytes) (hzs : z.cells.size = 1)
    {A : Option Addr} {n cap : Nat} {xs : List Value} (hs : a.eval sl = .slice A n cap) (hown : Buf w A n cap xs) {B : Option Addr} {m c : Nat} (us : List Value) (hx : a.eval x = .slice B m c) (hsrc : Src w B m us) (h1 : ∀ u ∈ us, u.oneCell' = true)
    (h63 : n + m ≤ maxLen) (hbytes : (n + m) * bytes ≤ 140737488355328)
    (h : ∀ A' cap' w', Buf w' A' (n + m) cap' (xs ++ us) → Keep (fun k => blk A = some k) w w' → (∀ k, blk A' = some k → blk A = some k ∨ w.heap.size ≤ k) → wpList P ops Q rest (a.put o.dst (.slice A' (n + m) cap')) w') :
    wpList P ops Q (o :: rest) a w :=
  wpList_plain hgd fun K hK => wp_append_buf w sl x t ho e i z bytes ht hi hz hsize hby hzs hs hown us hx hsrc h1 h63 hbytes fun A' cap' w' h2 h3 h4 => hK _ _ (h A' cap' w' h2 h3 h4)

theorem wpList_append_buf_at {P : Program} (w : World) {ops : Array Oper} {rest : List Oper} {o : Oper} {a : Act} {Q : Exit → Act → World → Prop} (hgd : o.guard = none) (sl x : Operand) (t : TypeId)
    (ho : o.op = .call { callee := .builtin .append, args := #[sl, x], argTypes := #[t, t] })
    (e : TypeId) (i : TypeInfo) (z : Value) (bytes : Nat) (ht : P.underlying t = some (.slice e)) (hi : P.info? e = some i) (hz : i.zero = some z)
    (hsize : i.size = 1) (hby : i.bytes = bytes) (hzs : z.cells.size = 1)
    {A : Option Addr} {n cap : Nat} {xs : List Value} (hs : a.eval sl = .slice A n cap) (hown : Buf w A n cap xs) {B : Option Addr} {m c : Nat} (us : List Value) (hx : a.eval x = .slice B m c) (hsrc : Src w B m us) (h1 : ∀ u ∈ us, u.oneCell' = true)
    (h63 : n + m ≤ maxLen) (hbytes : (n + m) * bytes ≤ 140737488355328)
    (h : ∀ A' cap' w', Buf w' A' (n + m) cap' (xs ++ us) → Keep (fun k => blk A = some k) w w' → (A' = A ∨ ((∀ k, blk A' = some k → w.heap.size ≤ k) ∧ Keep (fun _ => False) w w')) → wpList P ops Q rest (a.put o.dst (.slice A' (n + m) cap')) w') :
    wpList P ops Q (o :: rest) a w := by
  refine wpList_plain hgd fun K hK => ?_
  obtain ⟨A', cap', w', hr, h2, h3, h4⟩ := run_append_buf_at (P := P) w t o.type e i z bytes ht hi hz hsize hby hzs hown B m c us hsrc h1 h63 hbytes
  unfold Oper.wp execOp
  simp only [ho, resolve, invoke, builtin, Sem.run_bind, Sem.run_pure, Result.andThen_ok, List.map_toArray, List.map_cons, List.map_nil, hs, hx, hr]
  exact hK _ _ (h A' cap' w' h2 h3 h4)

/-- At a step of a region that draws its order. -/
theorem step_append_buf {P : Program} (w : World) {ops : Array Oper} {o : Oper} {a : Act} {K : Act → World → Prop} {Q : Exit → Act → World → Prop} {E : Prop} (hgd : o.guard = none) (sl x : Operand) (t : TypeId)
    (ho : o.op = .call { callee := .builtin .append, args := #[sl, x], argTypes := #[t, t] })
    (e : TypeId) (i : TypeInfo) (z : Value) (bytes : Nat) (ht : P.underlying t = some (.slice e)) (hi : P.info? e = some i) (hz : i.zero = some z)
    (hsize : i.size = 1) (hby : i.bytes = bytes) (hzs : z.cells.size = 1)
    {A : Option Addr} {n cap : Nat} {xs : List Value} (hs : a.eval sl = .slice A n cap) (hown : Buf w A n cap xs) {B : Option Addr} {m c : Nat} (us : List Value) (hx : a.eval x = .slice B m c) (hsrc : Src w B m us) (h1 : ∀ u ∈ us, u.oneCell' = true)
    (h63 : n + m ≤ maxLen) (hbytes : (n + m) * bytes ≤ 140737488355328)
    (h : ∀ A' cap' w', Buf w' A' (n + m) cap' (xs ++ us) → Keep (fun k => blk A = some k) w w' → (∀ k, blk A' = some k → blk A = some k ∨ w.heap.size ≤ k) → K (a.put o.dst (.slice A' (n + m) cap')) w') :
    if Region.wanted o (yielded ops a.tmps) = true then Oper.wp P o a w K Q else E := by
  have hw : Region.wanted o (yielded ops a.tmps) = true := by simp [Region.wanted, hgd]
  rw [if_pos hw]
  exact wp_append_buf w sl x t ho e i z bytes ht hi hz hsize hby hzs hs hown us hx hsrc h1 h63 hbytes h

/-- What is kept is read. -/
theorem Buf.src {w : World} {A : Option Addr} {n c : Nat} {xs : List Value} (h : Buf w A n c xs) : Src w A n xs := by
  rcases h with ⟨rfl, rfl, rfl, rfl⟩ | ⟨b, off, rfl, hb, h⟩
  · exact ⟨rfl, fun h => absurd h (by omega)⟩
  · exact ⟨h.len, fun _ => ⟨b, off, rfl, hb, fun i u hu => h.val i u hu⟩⟩

/-- A slice of one element that was just laid. -/
theorem src_one {w : World} (u : Value) (t : TypeId) (g : Nat) (hg : g = w.heap.size) : Src (w.alloc (.cells #[u] t)) (some ⟨g, 0, none⟩) 1 [u] := by
  subst hg
  refine ⟨rfl, fun _ => ⟨_, 0, rfl, by simp, fun i v hv => ?_⟩⟩
  rw [Nat.zero_add, cell_of_row _ _ i _ t (0, 0) (heap_alloc_new w _)]
  simpa using hv

theorem Src.of_keep {S : Nat → Prop} {w w' : World} {A : Option Addr} {m : Nat} {us : List Value} (h : Src w A m us) (k : Keep S w w') (hn : ∀ i, blk A = some i → ¬ S i) : Src w' A m us :=
  ⟨h.1, fun h0 => by
    obtain ⟨b, off, rfl, hb, hc⟩ := h.2 h0
    exact ⟨b, off, rfl, Nat.lt_of_lt_of_le hb k.size, fun i u hu => (k.cell (p := ⟨b, off + i, none⟩) hb (hn b rfl)).trans (hc i u hu)⟩⟩

end Go.Proofs.Ytfgcbgingcadaaa
