/- Rows of elements of z cells, at any offset: append, store. It speaks of no program. Own work. -/
import Derived.Test.YtbjdcbnmpmcdiaaBase
namespace Go.Proofs.Ytbjdcbnmpmcdiaa
set_option linter.unusedVariables false
set_option linter.unusedSimpArgs false
open Go.RowKit

structure RowZ (z : Nat) (w : World) (b off n cap : Nat) (xs : List Value) : Prop where
  len : xs.length = n * z
  le : n ≤ cap
  cm : cap ≤ maxLen
  val : ∀ j u, xs[j]? = some u → w.cell? ⟨b, off + j, none⟩ = some u
  can : ∀ j, j < cap * z → (w.cell? ⟨b, off + j, none⟩).isSome = true ∧ w.frozen? ⟨b, off + j, none⟩ = false

namespace RowZ
variable {z : Nat} {w w' : World} {b off n cap : Nat} {xs : List Value}
theorem lt (h : RowZ z w b off n cap xs) (hz : 0 < z) (hc : 0 < cap) : b < w.heap.size := by
  obtain ⟨u, hu⟩ := Option.isSome_iff_exists.1 (h.can 0 (Nat.mul_pos hc hz)).1
  exact World.block_lt_of_cell? w _ hu
theorem keep {S : Nat → Prop} (h : RowZ z w b off n cap xs) (hb : b < w.heap.size) (k : Keep S w w') (hn : ¬ S b) : RowZ z w' b off n cap xs :=
  ⟨h.len, h.le, h.cm, fun j u hj => (k.cell (p := ⟨b, off + j, none⟩) hb hn).trans (h.val j u hj),
    fun j hj => by rw [k.cell (p := ⟨b, off + j, none⟩) hb hn, k.frozen (p := ⟨b, off + j, none⟩) hb hn]; exact h.can j hj⟩
theorem of_block {g : Nat} {cs : Array Value} {t : TypeId} (hg : w.heap[g]? = some (.cells cs t (0, 0))) {c : Nat} (hc : cs.size = c * z) {n : Nat} (hn : n ≤ c) (hm : c ≤ maxLen) : RowZ z w g 0 n c (cs.toList.take (n * z)) := by
  refine ⟨by rw [List.length_take, Array.length_toList, hc]; exact Nat.min_eq_left (Nat.mul_le_mul_right z hn), hn, hm, fun j u hj => ?_, fun j hj => ⟨?_, ?_⟩⟩
  · rw [Nat.zero_add, cell_of_row w g j cs t (0, 0) hg]
    rw [List.getElem?_take] at hj
    split at hj
    · simpa using hj
    · cases hj
  · rw [Nat.zero_add, cell_of_row w g j cs t (0, 0) hg, Array.getElem?_eq_getElem (by omega)]; rfl
  · simp [World.frozen?, hg]
/-- Cells written one behind the other, within. -/
theorem sets (h : RowZ z w b off n cap xs) (i : Nat) (us : List Value) (hi : i + us.length ≤ n * z) : RowZ z (w.setCells b (off + i) us) b off n cap (xs.take i ++ us ++ xs.drop (i + us.length)) := by
  have hcz : n * z ≤ cap * z := Nat.mul_le_mul_right z h.le
  have hl := h.len
  refine ⟨by simp only [List.length_append, List.length_take, List.length_drop]; omega, h.le, h.cm, fun j v hj => ?_, fun j hj => ?_⟩
  · by_cases e1 : j < i
    · rw [List.append_assoc, List.getElem?_append_left (by rw [List.length_take]; omega), List.getElem?_take_of_lt e1] at hj
      rw [World.cell?_setCells_out _ _ _ _ _ (fun _ _ => .inl (by simp; omega))]
      exact h.val j v hj
    · by_cases e2 : j < i + us.length
      · rw [List.append_assoc, List.getElem?_append_right (by rw [List.length_take]; omega), List.length_take, List.getElem?_append_left (by omega)] at hj
        have := World.cell?_setCells_in b us (off + i) w (fun k hk => by rw [Nat.add_assoc]; exact (h.can (i + k) (by omega)).1) (j - i) (by omega)
        rw [show off + i + (j - i) = off + j from by omega] at this
        rw [this]
        rw [show j - min i xs.length = j - i from by omega] at hj
        rw [List.getElem?_eq_getElem (by omega)] at hj
        exact hj
      · rw [List.getElem?_append_right (by simp only [List.length_append, List.length_take]; omega), List.getElem?_drop] at hj
        simp only [List.length_append, List.length_take] at hj
        rw [show i + us.length + (j - (min i xs.length + us.length)) = j from by omega] at hj
        rw [World.cell?_setCells_out _ _ _ _ _ (fun _ _ => .inr (by simp; omega))]
        exact h.val j v hj
  · rw [World.frozen?_setCells]
    refine ⟨?_, (h.can j hj).2⟩
    by_cases hin : i ≤ j ∧ j < i + us.length
    · have := World.cell?_setCells_in b us (off + i) w (fun k hk => by rw [Nat.add_assoc]; exact (h.can (i + k) (by omega)).1) (j - i) (by omega)
      rw [show off + i + (j - i) = off + j from by omega] at this
      rw [this]; rfl
    · rw [World.cell?_setCells_out _ _ _ _ _ (fun _ _ => by simp; omega)]
      exact (h.can j hj).1
end RowZ

/-- A slice of such elements: nil, or a row. -/
def BufZ (z : Nat) (w : World) (A : Option Addr) (n c : Nat) (xs : List Value) : Prop :=
  (A = none ∧ n = 0 ∧ c = 0 ∧ xs = []) ∨ ∃ b off, A = some ⟨b, off, none⟩ ∧ b < w.heap.size ∧ RowZ z w b off n c xs

namespace BufZ
variable {z : Nat} {w w' : World} {A : Option Addr} {n c : Nat} {xs : List Value}
theorem nil (z : Nat) (w : World) : BufZ z w none 0 0 [] := .inl ⟨rfl, rfl, rfl, rfl⟩
theorem len (h : BufZ z w A n c xs) : xs.length = n * z := by
  rcases h with ⟨_, rfl, _, rfl⟩ | ⟨b, off, _, _, h⟩
  · simp
  · exact h.len
theorem le (h : BufZ z w A n c xs) : n ≤ c := by
  rcases h with ⟨_, rfl, _, rfl⟩ | ⟨b, off, _, _, h⟩
  · omega
  · exact h.le
theorem lt (h : BufZ z w A n c xs) {k : Nat} (hk : blk A = some k) : k < w.heap.size := by
  rcases h with ⟨rfl, _⟩ | ⟨b, off, rfl, hb, _⟩
  · simp [blk] at hk
  · simp [blk] at hk; omega
theorem keep {S : Nat → Prop} (h : BufZ z w A n c xs) (k : Keep S w w') (hn : ∀ i, blk A = some i → ¬ S i) : BufZ z w' A n c xs := by
  rcases h with h | ⟨b, off, rfl, hb, h⟩
  · exact .inl h
  · exact .inr ⟨b, off, rfl, Nat.lt_of_lt_of_le hb k.size, h.keep hb k (hn b rfl)⟩
theorem some_of (h : BufZ z w A n c xs) (h0 : 0 < n) : ∃ b off, A = some ⟨b, off, none⟩ ∧ b < w.heap.size ∧ RowZ z w b off n c xs := by
  rcases h with ⟨_, rfl, _⟩ | h
  · omega
  · exact h
theorem of_own {base : Nat} {e : TypeId} (h : w.ownsRow base e z (.slice A n c) n xs) : BufZ z w A n c xs := by
  rcases h.2 with ⟨h1, h2⟩ | ⟨g, cap, cur, h1, _, hg, q1, q2, q3, q4⟩
  · injection h1 with hA hn hc
    subst hA hn hc
    exact .inl ⟨rfl, rfl, rfl, List.eq_nil_of_length_eq_zero (by have := h.1; simpa using this)⟩
  · injection h1 with hA hn hc
    subst hA hc
    have hr := RowZ.of_block (z := z) hg q3 q1 q2
    rw [q4] at hr
    exact .inr ⟨g, 0, rfl, lt_heap hg, hr⟩
theorem src (h : BufZ z w A n c xs) : Src w A (n * z) xs := by
  refine ⟨h.len, fun h0 => ?_⟩
  have hn : 0 < n := by
    rcases Nat.eq_zero_or_pos n with e | e
    · subst e; simp at h0
    · exact e
  obtain ⟨b, off, e, hb, hr⟩ := h.some_of hn
  exact ⟨b, off, e, hb, hr.val⟩
/-- One cell an element: the rows of wip/gen. -/
theorem one (h : BufZ 1 w A n c xs) : Buf w A n c xs := by
  rcases h with h | ⟨b, off, rfl, hb, hr⟩
  · exact .inl h
  · exact .inr ⟨b, off, rfl, hb, ⟨by simpa using hr.len, hr.le, hr.cm, hr.val, fun j hj => hr.can j (by omega)⟩⟩
theorem of_buf (h : Buf w A n c xs) : BufZ 1 w A n c xs := by
  rcases h with h | ⟨b, off, rfl, hb, hr⟩
  · exact .inl h
  · exact .inr ⟨b, off, rfl, hb, ⟨by rw [hr.len]; omega, hr.le, hr.cm, hr.val, fun j hj => hr.can j (by omega)⟩⟩
end BufZ

/-- append of m elements to such a slice: in place, or in a new row. -/
theorem run_append_bufz {P : Program} (w : World) (t ty e : TypeId) (i : TypeInfo) (v : Value) (z bytes : Nat) (hz0 : 0 < z) (ht : P.underlying t = some (.slice e)) (hi : P.info? e = some i) (hz : i.zero = some v)
    (hsize : i.size = z) (hby : i.bytes = bytes) (hzs : v.cells.size = z) {A : Option Addr} {n cap : Nat} {xs : List Value} (h : BufZ z w A n cap xs)
    (B : Option Addr) (m c : Nat) (us : List Value) (hs : Src w B (m * z) us) (hB : 0 < m) (h1 : ∀ u ∈ us, u.oneCell' = true)
    (h63 : n + m ≤ maxLen) (hbytes : (n + m) * bytes ≤ 140737488355328) :
    ∃ A' cap' w', (Builtin.append_ #[t, t] ty #[.slice A n cap, .slice B m c]).run P w = .ok (.slice A' (n + m) cap') w' ∧
      BufZ z w' A' (n + m) cap' (xs ++ us) ∧ Keep (fun k => blk A = some k) w w' ∧ (A' = A ∨ ((∀ k, blk A' = some k → w.heap.size ≤ k) ∧ Keep (fun _ => False) w w')) := by
  obtain ⟨b2, o2, rfl, hb2, hc2⟩ := hs.2 (Nat.mul_pos hB hz0)
  have hus : us.length = m * z := hs.1
  have hcells : ∀ j u, us[j]? = some u → w.cell? ((⟨b2, o2, none⟩ : Addr).add j) = some u := fun j u hj => by rw [add_mk]; exact hc2 j u hj
  rcases h with ⟨rfl, rfl, rfl, rfl⟩ | ⟨b, off, rfl, hb, hr⟩
  · obtain ⟨v', w', hrun, hown, hg, -⟩ := run_append_own (P := P) w w.heap.size t ty e i v z bytes ht hi hz hsize hby hzs hz0 (.slice none 0 0) 0 [] (World.ownsRow_nil _ _ _ _) ⟨b2, o2, none⟩ m c us hus hcells h1 h63 hbytes (Nat.le_refl _)
    obtain ⟨A', c', rfl, -⟩ := own_form hown
    have hbel : Below w.heap.size w w' := (Below.refl _ _).grown hg (Nat.le_refl _) (fun k hk => by simp [Value.ownBlock] at hk)
    refine ⟨A', c', w', hrun, BufZ.of_own hown, Keep.of_below _ hbel, .inr ⟨fun k hk => ?_, Keep.of_below _ hbel⟩⟩
    exact (hown.lt k (by rw [ownBlock_slice]; exact hk)).1
  · have hsm : n + m ≤ 9223372036854775807 := by simp only [maxLen] at h63; omega
    have hlen := hr.len
    by_cases hroom : n + m ≤ cap
    · have hcz : (n + m) * z ≤ cap * z := Nat.mul_le_mul_right z hroom
      have hnm : (n + m) * z = n * z + m * z := Nat.add_mul n m z
      have hrun := run_append_room_cells (P := P) w t ty e i ht hi b off n cap ⟨b2, o2, none⟩ m c us (by rw [hsize]; exact hus) hcells h1 hroom
        (fun j hj => by rw [hsize, Nat.add_assoc]; exact (hr.can (n * z + j) (by omega)).1) (fun j hj => by rw [hsize, Nat.add_assoc]; exact (hr.can (n * z + j) (by omega)).2)
      rw [hsize] at hrun
      have hbig : RowZ z w b off (n + m) cap (xs ++ (List.range (m * z)).map fun j => (w.cell? ⟨b, off + (n * z + j), none⟩).getD undef) := by
        refine ⟨by simp only [List.length_append, List.length_map, List.length_range]; omega, hroom, hr.cm, fun j u hj => ?_, hr.can⟩
        by_cases hjn : j < n * z
        · rw [List.getElem?_append_left (by omega)] at hj; exact hr.val j u hj
        · rw [List.getElem?_append_right (by omega), List.getElem?_map] at hj
          obtain ⟨k, hk, rfl⟩ := Option.map_eq_some_iff.1 hj
          have hkl : k < m * z := by
            have := List.mem_of_getElem? hk
            simpa using this
          rw [List.getElem?_range (by
            rcases Nat.lt_or_ge (j - xs.length) (m * z) with q | q
            · exact q
            · rw [List.getElem?_eq_none (by simpa using q)] at hk; cases hk)] at hk
          injection hk with hk
          obtain ⟨u0, hu0⟩ := Option.isSome_iff_exists.1 (hr.can j (by omega)).1
          rw [show n * z + k = j from by omega, hu0]; rfl
      have hset := hbig.sets (n * z) us (by omega)
      rw [List.take_append_of_le_length (by omega), List.take_of_length_le (by omega), List.drop_of_length_le (by simp only [List.length_append, List.length_map, List.length_range]; omega), List.append_nil] at hset
      exact ⟨_, cap, _, hrun, .inr ⟨b, off, rfl, Nat.lt_of_lt_of_le hb (keep_setCells (S := fun x => x = b) b (fun _ => rfl) _ _ _ (Keep.refl _ w)).size, hset⟩, (keep_setCells (S := fun x => x = b) b (fun _ => rfl) _ _ _ (Keep.refl _ w)).mono (fun k _ hk => by simp [blk, hk]), .inl rfl⟩
    · have hrun := run_append_grow (P := P) w t ty e i v ht hi hz ⟨b, off, none⟩ n cap xs (by rw [hsize]; exact hlen)
        (fun j u hj => by rw [add_mk]; exact hr.val j u hj) ⟨b2, o2, none⟩ m c us (by rw [hsize]; exact hus) hcells (by omega) (by omega) (by rw [hby]; exact growslice_fits (by omega) hbytes)
      have hge := grownCap_ge w (n + m) cap e
      have hcm := grownCap_le_maxLen w (n + m) cap e h63
      have hsz : (xs.toArray ++ us.toArray ++ Builtin.zeroCells v.cells (grownCap w (n + m) cap e - (n + m))).size = grownCap w (n + m) cap e * z := by
        simp only [Array.size_append, List.size_toArray, size_zeroCells, hzs, hlen, hus]
        rw [← Nat.add_mul, ← Nat.add_mul]
        congr 1
        omega
      have hrow := RowZ.of_block (z := z) (heap_alloc_new w.drew (.cells (xs.toArray ++ us.toArray ++ Builtin.zeroCells v.cells (grownCap w (n + m) cap e - (n + m))) e)) hsz hge hcm
      have htk : (xs.toArray ++ us.toArray ++ Builtin.zeroCells v.cells (grownCap w (n + m) cap e - (n + m))).toList.take ((n + m) * z) = xs ++ us := by
        simp only [Array.toList_append]
        rw [List.take_append_of_le_length (by simp [hlen, hus, Nat.add_mul]), List.take_of_length_le (by simp [hlen, hus, Nat.add_mul])]
      rw [htk] at hrow
      exact ⟨_, _, _, hrun, .inr ⟨_, 0, rfl, by simp, hrow⟩, ((Keep.refl _ w).drew).alloc _, .inr ⟨fun k hk => by simp [blk] at hk; omega, ((Keep.refl _ w).drew).alloc _⟩⟩

/-- At the operation, for the walk. -/
theorem wpList_append_bufz {P : Program} (w : World) {ops : Array Oper} {rest : List Oper} {o : Oper} {a : Act} {Q : Exit → Act → World → Prop} (hgd : o.guard = none) (sl x : Operand) (t : TypeId)
    (ho : o.op = .call { callee := .builtin .append, args := #[sl, x], argTypes := #[t, t] })
    (e : TypeId) (i : TypeInfo) (v : Value) (z bytes : Nat) (hz0 : 0 < z) (ht : P.underlying t = some (.slice e)) (hi : P.info? e = some i) (hz : i.zero = some v)
    (hsize : i.size = z) (hby : i.bytes = bytes) (hzs : v.cells.size = z) {A : Option Addr} {n cap : Nat} {xs : List Value} (hs : a.eval sl = .slice A n cap) (hown : BufZ z w A n cap xs)
    {B : Option Addr} {m c : Nat} {us : List Value} (hx : a.eval x = .slice B m c) (hsrc : Src w B (m * z) us) (hB : 0 < m) (h1 : ∀ u ∈ us, u.oneCell' = true)
    (h63 : n + m ≤ maxLen) (hbytes : (n + m) * bytes ≤ 140737488355328)
    (h : ∀ A' cap' w', BufZ z w' A' (n + m) cap' (xs ++ us) → Keep (fun k => blk A = some k) w w' → (A' = A ∨ ((∀ k, blk A' = some k → w.heap.size ≤ k) ∧ Keep (fun _ => False) w w')) → wpList P ops Q rest (a.put o.dst (.slice A' (n + m) cap')) w') :
    wpList P ops Q (o :: rest) a w := by
  refine wpList_plain hgd fun K hK => ?_
  obtain ⟨A', cap', w', hr, h2, h3, h4⟩ := run_append_bufz (P := P) w t o.type e i v z bytes hz0 ht hi hz hsize hby hzs hown B m c us hsrc hB h1 h63 hbytes
  unfold Oper.wp execOp
  simp only [ho, resolve, invoke, builtin, Sem.run_bind, Sem.run_pure, Result.andThen_ok, List.map_toArray, List.map_cons, List.map_nil, hs, hx, hr]
  exact hK _ _ (h A' cap' w' h2 h3 h4)

end Go.Proofs.Ytbjdcbnmpmcdiaa
