/- A slice of one-cell elements that may be written: told by its cells, wherever it lies (a marked row of []byte(s), a slice that was cut, a row of the call's own). Own work; it speaks of no program. -/
import Derived.Test.YtlinmnlfcboicaaKeep
import Derived.ArgAppend
namespace Go.Proofs.Ytlinmnlfcboicaa
set_option linter.unusedVariables false
open Go.RowKit

theorem keep_setCells {S : Nat → Prop} {w0 : World} (b : Nat) (hb : b < w0.heap.size → S b) : ∀ (vs : List Value) (o : Nat) (w : World), Keep S w0 w → Keep S w0 (w.setCells b o vs)
  | [], _, _, h => h
  | v :: r, o, w, h => keep_setCells b hb r (o + 1) _ (h.setCell (p := ⟨b, o, none⟩) hb v)

/-- n elements from place off of block b on, with room for cap: they hold xs; all may be written. -/
structure Row (w : World) (b off n cap : Nat) (xs : List Value) : Prop where
  len : xs.length = n
  le : n ≤ cap
  cm : cap ≤ maxLen
  val : ∀ j u, xs[j]? = some u → w.cell? ⟨b, off + j, none⟩ = some u
  can : ∀ j, j < cap → (w.cell? ⟨b, off + j, none⟩).isSome = true ∧ w.frozen? ⟨b, off + j, none⟩ = false

namespace Row
variable {w w' : World} {b off n cap : Nat} {xs : List Value}
theorem lt (h : Row w b off n cap xs) (hc : 0 < cap) : b < w.heap.size := by
  obtain ⟨u, hu⟩ := Option.isSome_iff_exists.1 (h.can 0 hc).1
  exact World.block_lt_of_cell? w _ hu
theorem keep {S : Nat → Prop} (h : Row w b off n cap xs) (k : Keep S w w') (hn : ¬ S b) : Row w' b off n cap xs := by
  rcases Nat.eq_zero_or_pos cap with h0 | h0
  · subst h0
    have hn0 : n = 0 := by have := h.le; omega
    have hx : xs = [] := List.eq_nil_of_length_eq_zero (by rw [h.len, hn0])
    subst hn0 hx
    exact ⟨rfl, h.le, h.cm, fun j u hj => by simp at hj, fun j hj => absurd hj (by omega)⟩
  · have hb := h.lt h0
    exact ⟨h.len, h.le, h.cm, fun j u hj => (k.cell (p := ⟨b, off + j, none⟩) hb hn).trans (h.val j u hj),
      fun j hj => by rw [k.cell (p := ⟨b, off + j, none⟩) hb hn, k.frozen (p := ⟨b, off + j, none⟩) hb hn]; exact h.can j hj⟩
theorem alloc (h : Row w b off n cap xs) (o : Obj) : Row (w.alloc o) b off n cap xs := h.keep (S := fun _ => False) ((Keep.refl _ w).alloc o) (fun x => x)
theorem drew (h : Row w b off n cap xs) : Row w.drew b off n cap xs := ⟨h.len, h.le, h.cm, h.val, h.can⟩
theorem drewN (h : Row w b off n cap xs) (k : Nat) : Row (w.drewN k) b off n cap xs := ⟨h.len, h.le, h.cm, h.val, h.can⟩
/-- A store into it. -/
theorem set (h : Row w b off n cap xs) (i : Nat) (hi : i < n) (u : Value) : Row (w.setCell ⟨b, off + i, none⟩ u) b off n cap (xs.set i u) := by
  refine ⟨by rw [List.length_set]; exact h.len, h.le, h.cm, fun j v hj => ?_, fun j hj => ?_⟩
  · by_cases e : i = j
    · subst e
      have hil : i < xs.length := by rw [h.len]; exact hi
      rw [List.getElem?_set_self hil] at hj
      obtain ⟨u0, hu0⟩ := Option.isSome_iff_exists.1 (h.can i (by have := h.le; omega)).1
      rw [← hj]
      simpa using World.cell?_setCell_same _ _ _ hu0
    · rw [List.getElem?_set_ne e] at hj
      rw [World.cell?_setCell_other _ _ _ _ (by simp)]
      exact h.val j v hj
  · rw [World.frozen?_setCell]
    refine ⟨?_, (h.can j hj).2⟩
    by_cases e : i = j
    · subst e
      obtain ⟨u0, hu0⟩ := Option.isSome_iff_exists.1 (h.can i hj).1
      have := World.cell?_setCell_same w ⟨b, off + i, none⟩ u hu0
      rw [this]; rfl
    · rw [World.cell?_setCell_other _ _ _ _ (by simp)]
      exact (h.can j hj).1
/-- A block that is known whole, none of whose cells is marked within the row. -/
theorem of_block {g : Nat} {cs : Array Value} {t : TypeId} {fz : Nat × Nat} (hg : w.heap[g]? = some (.cells cs t fz)) (hf : fz.2 ≤ fz.1 ∨ cs.size ≤ fz.1) {n : Nat} (hn : n ≤ cs.size) (hm : cs.size ≤ maxLen) : Row w g 0 n cs.size (cs.toList.take n) := by
  refine ⟨by rw [List.length_take, Array.length_toList]; omega, hn, hm, fun j u hj => ?_, fun j hj => ⟨?_, ?_⟩⟩
  · rw [Nat.zero_add, cell_of_row w g j cs t fz hg]
    rw [List.getElem?_take] at hj
    split at hj
    · simpa using hj
    · cases hj
  · rw [Nat.zero_add, cell_of_row w g j cs t fz hg, Array.getElem?_eq_getElem hj]; rfl
  · obtain ⟨lo, hi⟩ := fz
    simp only [World.frozen?, hg, Bool.and_eq_false_iff, decide_eq_false_iff_not]
    simp only at hf
    omega
end Row

/-- append of elements that lie somewhere: in place, or in a new row. -/
theorem run_append_row {P : Program} (w : World) (t ty e : TypeId) (i : TypeInfo) (z : Value) (bytes : Nat) (ht : P.underlying t = some (.slice e)) (hi : P.info? e = some i) (hz : i.zero = some z)
    (hsize : i.size = 1) (hby : i.bytes = bytes) (hzs : z.cells.size = 1) {b off n cap : Nat} {xs : List Value} (h : Row w b off n cap xs)
    (a : Addr) (m c : Nat) (news : List Value) (hl : news.length = m) (hnews : ∀ j u, news[j]? = some u → w.cell? (a.add j) = some u) (h1 : ∀ u ∈ news, u.oneCell' = true)
    (h63 : n + m ≤ maxLen) (hbytes : (n + m) * bytes ≤ 140737488355328) :
    ∃ b' off' cap' w', (Builtin.append_ #[t, t] ty #[.slice (some ⟨b, off, none⟩) n cap, .slice (some a) m c]).run P w = .ok (.slice (some ⟨b', off', none⟩) (n + m) cap') w' ∧
      Row w' b' off' (n + m) cap' (xs ++ news) ∧ Keep (· = b) w w' ∧ (b' = b ∨ w.heap.size ≤ b') := by
  have hsm : n + m ≤ 9223372036854775807 := by simp only [maxLen] at h63; omega
  by_cases hroom : n + m ≤ cap
  · have hr := run_append_room_cells (P := P) w t ty e i ht hi b off n cap a m c news (by rw [hsize]; omega) hnews h1 hroom
      (fun j hj => by rw [hsize, Nat.mul_one, Nat.add_assoc]; exact (h.can (n + j) (by omega)).1) (fun j hj => by rw [hsize, Nat.mul_one, Nat.add_assoc]; exact (h.can (n + j) (by omega)).2)
    rw [hsize, Nat.mul_one] at hr
    refine ⟨b, off, cap, _, hr, ⟨by rw [List.length_append, h.len, hl], hroom, h.cm, fun j u hj => ?_, fun j hj => ?_⟩, keep_setCells (S := fun x => x = b) b (fun _ => rfl) _ _ _ (Keep.refl _ w), .inl rfl⟩
    · by_cases hjn : j < n
      · rw [List.getElem?_append_left (by rw [h.len]; exact hjn)] at hj
        rw [World.cell?_setCells_out _ _ _ _ _ (fun _ _ => .inl (by simp; omega))]
        exact h.val j u hj
      · rw [List.getElem?_append_right (by rw [h.len]; omega), h.len] at hj
        have hjm : j - n < news.length := by
          rcases Nat.lt_or_ge (j - n) news.length with x | x
          · exact x
          · rw [List.getElem?_eq_none x] at hj; cases hj
        have := World.cell?_setCells_in b news (off + n) w (fun k hk => by rw [Nat.add_assoc]; exact (h.can (n + k) (by omega)).1) (j - n) hjm
        rw [show off + n + (j - n) = off + j from by omega] at this
        rw [this]
        rw [List.getElem?_eq_getElem hjm] at hj
        exact hj
    · rw [World.frozen?_setCells]
      refine ⟨?_, (h.can j hj).2⟩
      by_cases hin : n ≤ j ∧ j < n + news.length
      · have := World.cell?_setCells_in b news (off + n) w (fun k hk => by rw [Nat.add_assoc]; exact (h.can (n + k) (by omega)).1) (j - n) (by omega)
        rw [show off + n + (j - n) = off + j from by omega] at this
        rw [this]; rfl
      · rw [World.cell?_setCells_out _ _ _ _ _ (fun _ _ => by simp; omega)]
        exact (h.can j hj).1
  · have hr := run_append_grow (P := P) w t ty e i z ht hi hz ⟨b, off, none⟩ n cap xs (by rw [hsize, h.len]; omega)
      (fun j v hj => by
        have hadd : (⟨b, off, none⟩ : Addr).add j = ⟨b, off + j, none⟩ := by unfold Addr.add; split <;> simp_all
        rw [hadd]; exact h.val j v hj) a m c news (by rw [hsize]; omega) hnews (by omega) (by omega) (by rw [hby]; exact growslice_fits (by omega) hbytes)
    have hge := grownCap_ge w (n + m) cap e
    have hcm := grownCap_le_maxLen w (n + m) cap e h63
    have hsz : (xs.toArray ++ news.toArray ++ Builtin.zeroCells z.cells (grownCap w (n + m) cap e - (n + m))).size = grownCap w (n + m) cap e := by
      have := h.len
      simp only [Array.size_append, List.size_toArray, size_zeroCells, hzs, hl]
      omega
    have hrow := Row.of_block (heap_alloc_new w.drew (.cells (xs.toArray ++ news.toArray ++ Builtin.zeroCells z.cells (grownCap w (n + m) cap e - (n + m))) e)) (.inl (Nat.le_refl _)) (n := n + m) (by rw [hsz]; exact hge) (by rw [hsz]; exact hcm)
    rw [hsz] at hrow
    have htk : (xs.toArray ++ news.toArray ++ Builtin.zeroCells z.cells (grownCap w (n + m) cap e - (n + m))).toList.take (n + m) = xs ++ news := by
      simp only [Array.toList_append]
      rw [List.take_append_of_le_length (by have := h.len; simp; omega), List.take_of_length_le (by have := h.len; simp; omega)]
    rw [htk] at hrow
    exact ⟨_, 0, _, _, hr, hrow, ((Keep.refl _ w).drew).alloc _, .inr (Nat.le_refl _)⟩

/-- At the operation, for the walk. -/
theorem wpList_append_row {P : Program} (w : World) {ops : Array Oper} {rest : List Oper} {o : Oper} {act : Act} {Q : Exit → Act → World → Prop} (hgd : o.guard = none) (sl x : Operand) (t : TypeId)
    (ho : o.op = .call { callee := .builtin .append, args := #[sl, x], argTypes := #[t, t] })
    (e : TypeId) (i : TypeInfo) (z : Value) (bytes : Nat) (ht : P.underlying t = some (.slice e)) (hi : P.info? e = some i) (hz : i.zero = some z)
    (hsize : i.size = 1) (hby : i.bytes = bytes) (hzs : z.cells.size = 1) {b off n cap : Nat} {xs : List Value} (hs : act.eval sl = .slice (some ⟨b, off, none⟩) n cap) (h : Row w b off n cap xs)
    (a : Addr) (m c : Nat) (news : List Value) (hx : act.eval x = .slice (some a) m c) (hl : news.length = m) (hnews : ∀ j u, news[j]? = some u → w.cell? (a.add j) = some u) (h1 : ∀ u ∈ news, u.oneCell' = true)
    (h63 : n + m ≤ maxLen) (hbytes : (n + m) * bytes ≤ 140737488355328)
    (hK : ∀ b' off' cap' w', Row w' b' off' (n + m) cap' (xs ++ news) → Keep (· = b) w w' → (b' = b ∨ w.heap.size ≤ b') → wpList P ops Q rest (act.put o.dst (.slice (some ⟨b', off', none⟩) (n + m) cap')) w') :
    wpList P ops Q (o :: rest) act w := by
  refine wpList_plain hgd fun K hK' => ?_
  obtain ⟨b', off', cap', w', hr, h2, h3, h4⟩ := run_append_row (P := P) w t o.type e i z bytes ht hi hz hsize hby hzs h a m c news hl hnews h1 h63 hbytes
  unfold Oper.wp execOp
  simp only [ho, resolve, invoke, builtin, Sem.run_bind, Sem.run_pure, Result.andThen_ok, List.map_toArray, List.map_cons, List.map_nil, hs, hx, hr]
  exact hK' _ _ (hK b' off' cap' w' h2 h3 h4)

end Go.Proofs.Ytlinmnlfcboicaa
