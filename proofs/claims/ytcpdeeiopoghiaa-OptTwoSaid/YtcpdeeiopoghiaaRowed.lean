/- A slice that a struct keeps, told by its cells at whatever offset (or nil): what append of a text, and slicing, make of it. It speaks of no program. Own work. append of elements that are read to a slice that is kept. It speaks of no program. Own work. -/
import Derived.Test.YtcpdeeiopoghiaaBase
import Derived.Deep.AppendLies
set_option linter.unusedVariables false
set_option linter.unusedSimpArgs false
namespace Go.Proofs.Ytcpdeeiopoghiaa
set_option linter.unusedVariables false
open Go.RowKit

/-- A kept slice: nil, or a row. -/
def Buf (w : World) (A : Option Addr) (n c : Nat) (xs : List Value) : Prop :=
  (A = none ∧ n = 0 ∧ c = 0 ∧ xs = []) ∨ ∃ b off, A = some ⟨b, off, none⟩ ∧ b < w.heap.size ∧ Row w b off n c xs

namespace Buf
variable {w w' : World} {A : Option Addr} {n c : Nat} {xs : List Value}
theorem nil (w : World) : Buf w none 0 0 [] := .inl ⟨rfl, rfl, rfl, rfl⟩
theorem len (h : Buf w A n c xs) : xs.length = n := by
  rcases h with ⟨_, rfl, _, rfl⟩ | ⟨b, off, _, _, h⟩
  · rfl
  · exact h.len
theorem le (h : Buf w A n c xs) : n ≤ c := by
  rcases h with ⟨_, rfl, _, rfl⟩ | ⟨b, off, _, _, h⟩
  · omega
  · exact h.le
theorem cm (h : Buf w A n c xs) : c ≤ maxLen := by
  rcases h with ⟨_, _, rfl, _⟩ | ⟨b, off, _, _, h⟩
  · unfold maxLen; omega
  · exact h.cm
theorem lt (h : Buf w A n c xs) {k : Nat} (hk : blk A = some k) : k < w.heap.size := by
  rcases h with ⟨rfl, _⟩ | ⟨b, off, rfl, hb, _⟩
  · simp [blk] at hk
  · simp [blk] at hk; omega
theorem keep {S : Nat → Prop} (h : Buf w A n c xs) (k : Keep S w w') (hn : ∀ i, blk A = some i → ¬ S i) : Buf w' A n c xs := by
  rcases h with h | ⟨b, off, rfl, hb, h⟩
  · exact .inl h
  · exact .inr ⟨b, off, rfl, Nat.lt_of_lt_of_le hb k.size, h.keep k (hn b rfl)⟩
theorem drew (h : Buf w A n c xs) : Buf w.drew A n c xs := h.keep (S := fun _ => False) ((Keep.refl _ w).drew) (fun _ _ x => x)
theorem drewN (h : Buf w A n c xs) (k : Nat) : Buf (w.drewN k) A n c xs := h.keep (S := fun _ => False) ((Keep.refl _ w).drewN k) (fun _ _ x => x)
theorem some_of (h : Buf w A n c xs) (h0 : 0 < n) : ∃ b off, A = some ⟨b, off, none⟩ ∧ b < w.heap.size ∧ Row w b off n c xs := by
  rcases h with ⟨_, rfl, _⟩ | h
  · omega
  · exact h
/-- What an own row is. -/
theorem of_own {base : Nat} {e : TypeId} (h : w.ownsRow base e 1 (.slice A n c) n xs) : Buf w A n c xs := by
  rcases h.2 with ⟨h1, h2⟩ | ⟨g, cap, cur, h1, _, hg, q1, q2, q3, q4⟩
  · injection h1 with hA hn hc
    subst hA hn hc
    exact .inl ⟨rfl, rfl, rfl, List.eq_nil_of_length_eq_zero (by have := h.1; omega)⟩
  · injection h1 with hA hn hc
    subst hA hc
    have hcs : cur.size = c := by simpa using q3
    have hr := Row.of_block (n := n) hg (.inl (Nat.le_refl _)) (by omega) (by omega)
    rw [hcs] at hr
    have htk : cur.toList.take n = xs := by simpa using q4
    rw [htk] at hr
    exact .inr ⟨g, 0, rfl, lt_heap hg, hr⟩
end Buf

/-- The rows of a slice: from k on. -/
theorem Row.drop {w : World} {b off n cap : Nat} {xs : List Value} (h : Row w b off n cap xs) (k : Nat) (hk : k ≤ n) : Row w b (off + k) (n - k) (cap - k) (xs.drop k) :=
  ⟨by rw [List.length_drop, h.len], by have := h.le; omega, by have := h.cm; omega,
    fun j u hj => by rw [List.getElem?_drop] at hj; rw [Nat.add_assoc]; exact h.val _ u hj,
    fun j hj => by rw [Nat.add_assoc]; exact h.can _ (by omega)⟩

theorem Row.take {w : World} {b off n cap : Nat} {xs : List Value} (h : Row w b off n cap xs) (k : Nat) (hk : k ≤ n) : Row w b off k cap (xs.take k) :=
  ⟨by rw [List.length_take, h.len]; omega, by have := h.le; omega, h.cm,
    fun j u hj => by
      rw [List.getElem?_take] at hj
      split at hj
      · exact h.val _ u hj
      · exact absurd hj (by simp),
    fun j hj => h.can _ hj⟩

/-- append of a text's bytes to a row that lies anywhere. -/
theorem run_append_row_str {P : Program} (w : World) (t u ty e : TypeId) (i : TypeInfo) (ht : P.underlying t = some (.slice e)) (hu : P.underlying u = some .string) (hi : P.info? e = some i) (hz : i.zero = some (.int .u8 0))
    (hsize : i.size = 1) (hby : i.bytes = 1) {b off n cap : Nat} {xs : List Value} (h : Row w b off n cap xs) (hb : b < w.heap.size) (s : ByteArray)
    (h63 : n + s.size ≤ maxLen) (hbytes : n + s.size ≤ 140737488355328) :
    ∃ b' off' cap' w', (Builtin.append_ #[t, u] ty #[.slice (some ⟨b, off, none⟩) n cap, .string s]).run P w = .ok (.slice (some ⟨b', off', none⟩) (n + s.size) cap') w' ∧
      Row w' b' off' (n + s.size) cap' (xs ++ Lib.strCells s) ∧ Keep (· = b) w w' ∧ (b' = b ∨ w.heap.size ≤ b') ∧ b' < w'.heap.size := by
  have hl := Lib.strCells_length s
  by_cases hroom : n + s.size ≤ cap
  · have hf := Lib.run_firstCells_string (P := P) w 1 s
    have hst := run_storeCells_cells (P := P) b (off + n) (Lib.strCells s) 0 w (fun j hj => by rw [Nat.add_zero, Nat.add_assoc]; exact (h.can (n + j) (by omega)).1) (fun j hj => by rw [Nat.add_zero, Nat.add_assoc]; exact (h.can (n + j) (by omega)).2) (Lib.strCells_oneCell s)
    simp only [Nat.add_zero] at hst
    have hr : (Builtin.append_ #[t, u] ty #[.slice (some ⟨b, off, none⟩) n cap, .string s]).run P w = .ok (.slice (some ⟨b, off, none⟩) (n + s.size) cap) (w.setCells b (off + n) (Lib.strCells s)) := by
      simp [Builtin.append_, run_underlying ht, run_underlying hu, sizeOf, typeInfo, hi, hsize, Builtin.lenOf, hroom, hf, Addr.add_lit, hst]
    refine ⟨b, off, cap, _, hr, ⟨by rw [List.length_append, h.len, hl], hroom, h.cm, fun j v hj => ?_, fun j hj => ?_⟩, keep_setCells (S := fun x => x = b) b (fun _ => rfl) _ _ _ (Keep.refl _ w), .inl rfl, ?_⟩
    · by_cases hjn : j < n
      · rw [List.getElem?_append_left (by rw [h.len]; exact hjn)] at hj
        rw [World.cell?_setCells_out _ _ _ _ _ (fun _ _ => .inl (by simp; omega))]
        exact h.val j v hj
      · rw [List.getElem?_append_right (by rw [h.len]; omega), h.len] at hj
        have hjm : j - n < (Lib.strCells s).length := by
          rcases Nat.lt_or_ge (j - n) (Lib.strCells s).length with x | x
          · exact x
          · rw [List.getElem?_eq_none x] at hj; cases hj
        have := World.cell?_setCells_in b (Lib.strCells s) (off + n) w (fun k hk => by rw [Nat.add_assoc]; exact (h.can (n + k) (by omega)).1) (j - n) hjm
        rw [show off + n + (j - n) = off + j from by omega] at this
        rw [this]
        rw [List.getElem?_eq_getElem hjm] at hj
        exact hj
    · rw [World.frozen?_setCells]
      refine ⟨?_, (h.can j hj).2⟩
      by_cases hin : n ≤ j ∧ j < n + (Lib.strCells s).length
      · have := World.cell?_setCells_in b (Lib.strCells s) (off + n) w (fun k hk => by rw [Nat.add_assoc]; exact (h.can (n + k) (by omega)).1) (j - n) (by omega)
        rw [show off + n + (j - n) = off + j from by omega] at this
        rw [this]; rfl
      · rw [World.cell?_setCells_out _ _ _ _ _ (fun _ _ => by simp; omega)]
        exact (h.can j hj).1
    · exact Nat.lt_of_lt_of_le hb (keep_setCells (S := fun x => x = b) b (fun _ => rfl) _ _ _ (Keep.refl _ w)).size
  · have hsm : n + s.size ≤ 9223372036854775807 := by simp only [maxLen] at h63; omega
    have hr := Lib.run_append_grow_string (P := P) w t u ty e i (.int .u8 0) ht hu hi hz ⟨b, off, none⟩ n cap xs (by rw [hsize, h.len]; omega)
      (fun j v hj => by rw [add_mk]; exact h.val j v hj) s (by omega) (by omega) (by rw [hby]; exact growslice_fits (by omega) (by omega))
    have hge := grownCap_ge w (n + s.size) cap e
    have hcm := grownCap_le_maxLen w (n + s.size) cap e h63
    have hsz : (xs.toArray ++ (Lib.strCells s).toArray ++ Builtin.zeroCells (Value.int .u8 0).cells (grownCap w (n + s.size) cap e - (n + s.size))).size = grownCap w (n + s.size) cap e := by
      have := h.len
      have hzs : (Value.int .u8 0).cells.size = 1 := rfl
      simp only [Array.size_append, List.size_toArray, size_zeroCells, hzs, hl]
      omega
    have hrow := Row.of_block (heap_alloc_new w.drew (.cells (xs.toArray ++ (Lib.strCells s).toArray ++ Builtin.zeroCells (Value.int .u8 0).cells (grownCap w (n + s.size) cap e - (n + s.size))) e)) (.inl (Nat.le_refl _)) (n := n + s.size) (by rw [hsz]; exact hge) (by rw [hsz]; exact hcm)
    rw [hsz] at hrow
    have htk : (xs.toArray ++ (Lib.strCells s).toArray ++ Builtin.zeroCells (Value.int .u8 0).cells (grownCap w (n + s.size) cap e - (n + s.size))).toList.take (n + s.size) = xs ++ Lib.strCells s := by
      simp only [Array.toList_append]
      rw [List.take_append_of_le_length (by have := h.len; simp; omega), List.take_of_length_le (by have := h.len; simp; omega)]
    rw [htk] at hrow
    exact ⟨_, 0, _, _, hr, hrow, ((Keep.refl _ w).drew).alloc _, .inr (Nat.le_refl _), by simp⟩

/-- append of a text's bytes to what is kept. -/
theorem run_append_buf_str {P : Program} (w : World) (t u ty e : TypeId) (i : TypeInfo) (ht : P.underlying t = some (.slice e)) (hu : P.underlying u = some .string) (hi : P.info? e = some i) (hz : i.zero = some (.int .u8 0))
    (hsize : i.size = 1) (hby : i.bytes = 1) {A : Option Addr} {n cap : Nat} {xs : List Value} (h : Buf w A n cap xs) (s : ByteArray)
    (h63 : n + s.size ≤ maxLen) (hbytes : n + s.size ≤ 140737488355328) :
    ∃ A' cap' w', (Builtin.append_ #[t, u] ty #[.slice A n cap, .string s]).run P w = .ok (.slice A' (n + s.size) cap') w' ∧
      Buf w' A' (n + s.size) cap' (xs ++ Lib.strCells s) ∧ Keep (fun k => blk A = some k) w w' ∧ (∀ k, blk A' = some k → blk A = some k ∨ w.heap.size ≤ k) := by
  rcases h with ⟨rfl, rfl, rfl, rfl⟩ | ⟨b, off, rfl, hb, hr⟩
  · obtain ⟨v', w', h1, h2, h3, h4⟩ := run_append_str_at (P := P) w w.heap.size t u ty e i ht hu hi hz hsize hby (.slice none 0 0) 0 [] (World.ownsRow_nil _ _ _ _) s h63 hbytes (Nat.le_refl _)
    obtain ⟨A', c', rfl, _⟩ := own_form h2
    simp only [ownBlock_slice] at h3 h4
    exact ⟨A', c', w', h1, Buf.of_own h2, (Keep.refl (fun k => blk none = some k) w).grown h3 (fun k hk _ => hk), h4⟩
  · obtain ⟨b', off', cap', w', h1, h2, h3, h4, h5⟩ := run_append_row_str (P := P) w t u ty e i ht hu hi hz hsize hby hr hb s h63 hbytes
    refine ⟨_, cap', w', h1, .inr ⟨b', off', rfl, h5, h2⟩, h3.mono (fun k _ hk => by simp [blk, hk]), fun k hk => ?_⟩
    have hk' : b' = k := by simpa [blk] using hk
    rcases h4 with h4 | h4
    · left; simp [blk]; omega
    · right; omega

/-- At the operation, for the walk. -/
theorem wp_append_buf_str {P : Program} (w : World) {o : Oper} {a : Act} {K : Act → World → Prop} {Q : Exit → Act → World → Prop} (sl x : Operand) (t u : TypeId)
    (ho : o.op = .call { callee := .builtin .append, args := #[sl, x], argTypes := #[t, u] })
    (e : TypeId) (i : TypeInfo) (ht : P.underlying t = some (.slice e)) (hu : P.underlying u = some .string) (hi : P.info? e = some i) (hz : i.zero = some (.int .u8 0))
    (hsize : i.size = 1) (hby : i.bytes = 1)
    {A : Option Addr} {n cap : Nat} {xs : List Value} (hs : a.eval sl = .slice A n cap) (hown : Buf w A n cap xs) (s : ByteArray) (hx : a.eval x = .string s)
    (h63 : n + s.size ≤ maxLen) (hbytes : n + s.size ≤ 140737488355328)
    (h : ∀ A' cap' w', Buf w' A' (n + s.size) cap' (xs ++ Lib.strCells s) → Keep (fun k => blk A = some k) w w' → (∀ k, blk A' = some k → blk A = some k ∨ w.heap.size ≤ k) → K (a.put o.dst (.slice A' (n + s.size) cap')) w') :
    Oper.wp P o a w K Q := by
  obtain ⟨A', cap', w', hr, h2, h3, h4⟩ := run_append_buf_str (P := P) w t u o.type e i ht hu hi hz hsize hby hown s h63 hbytes
  unfold Oper.wp execOp
  simp only [ho, resolve, invoke, builtin, Sem.run_bind, Sem.run_pure, Result.andThen_ok, List.map_toArray, List.map_cons, List.map_nil, hs, hx, hr]
  exact h A' cap' w' h2 h3 h4

theorem wpList_append_buf_str {P : Program} (w : World) {ops : Array Oper} {rest : List Oper} {o : Oper} {a : Act} {Q : Exit → Act → World → Prop} (hgd : o.guard = none) (sl x : Operand) (t u : TypeId)
    (ho : o.op = .call { callee := .builtin .append, args := #[sl, x], argTypes := #[t, u] })
    (e : TypeId) (i : TypeInfo) (ht : P.underlying t = some (.slice e)) (hu : P.underlying u = some .string) (hi : P.info? e = some i) (hz : i.zero = some (.int .u8 0))
    (hsize : i.size = 1) (hby : i.bytes = 1)
    {A : Option Addr} {n cap : Nat} {xs : List Value} (hs : a.eval sl = .slice A n cap) (hown : Buf w A n cap xs) (s : ByteArray) (hx : a.eval x = .string s)
    (h63 : n + s.size ≤ maxLen) (hbytes : n + s.size ≤ 140737488355328)
    (h : ∀ A' cap' w', Buf w' A' (n + s.size) cap' (xs ++ Lib.strCells s) → Keep (fun k => blk A = some k) w w' → (∀ k, blk A' = some k → blk A = some k ∨ w.heap.size ≤ k) → wpList P ops Q rest (a.put o.dst (.slice A' (n + s.size) cap')) w') :
    wpList P ops Q (o :: rest) a w :=
  wpList_plain hgd fun K hK => wp_append_buf_str w sl x t u ho e i ht hu hi hz hsize hby hs hown s hx h63 hbytes fun A' cap' w' h2 h3 h4 => hK _ _ (h A' cap' w' h2 h3 h4)

/-- At a step of a region that draws its order. -/
theorem step_append_buf_str {P : Program} (w : World) {ops : Array Oper} {o : Oper} {a : Act} {K : Act → World → Prop} {Q : Exit → Act → World → Prop} {E : Prop} (hgd : o.guard = none) (sl x : Operand) (t u : TypeId)
    (ho : o.op = .call { callee := .builtin .append, args := #[sl, x], argTypes := #[t, u] })
    (e : TypeId) (i : TypeInfo) (ht : P.underlying t = some (.slice e)) (hu : P.underlying u = some .string) (hi : P.info? e = some i) (hz : i.zero = some (.int .u8 0))
    (hsize : i.size = 1) (hby : i.bytes = 1)
    {A : Option Addr} {n cap : Nat} {xs : List Value} (hs : a.eval sl = .slice A n cap) (hown : Buf w A n cap xs) (s : ByteArray) (hx : a.eval x = .string s)
    (h63 : n + s.size ≤ maxLen) (hbytes : n + s.size ≤ 140737488355328)
    (h : ∀ A' cap' w', Buf w' A' (n + s.size) cap' (xs ++ Lib.strCells s) → Keep (fun k => blk A = some k) w w' → (∀ k, blk A' = some k → blk A = some k ∨ w.heap.size ≤ k) → K (a.put o.dst (.slice A' (n + s.size) cap')) w') :
    if Region.wanted o (yielded ops a.tmps) = true then Oper.wp P o a w K Q else E := by
  have hw : Region.wanted o (yielded ops a.tmps) = true := by simp [Region.wanted, hgd]
  rw [if_pos hw]
  exact wp_append_buf_str w sl x t u ho e i ht hu hi hz hsize hby hs hown s hx h63 hbytes h

/-- string(kept[:k]): its first bytes. -/
theorem run_buf_string {P : Program} {w : World} (src dst e : TypeId) {A : Option Addr} {n cap : Nat} {l : List UInt8} (h : Buf w A n cap (Lib.byteCells l)) (hs : P.underlying src = some (.slice e)) (he : P.underlying e = some (.int .u8)) (hd : P.underlying dst = some .string) (k : Nat) (hk : k ≤ n) :
    (convert src dst (.slice A k cap)).run P w = .ok (.string ⟨(l.take k).toArray⟩) w := by
  rcases h with ⟨rfl, rfl, rfl, hl⟩ | ⟨b, off, rfl, hb, hr⟩
  · have hl' : l = [] := List.eq_nil_of_length_eq_zero (by have := congrArg List.length hl; rwa [Lib.byteCells_length] at this)
    have hk0 : k = 0 := by omega
    subst hl' hk0
    exact Lib.run_convert_nil_bytes w src dst e 0 hs he hd
  · have h2 := hr.take k hk
    rw [show (Lib.byteCells l).take k = Lib.byteCells (l.take k) from by simp [Lib.byteCells]] at h2
    exact run_row_string src dst e h2 hs he hd

end Go.Proofs.Ytcpdeeiopoghiaa
namespace Go.Proofs.Ytcpdeeiopoghiaa
set_option linter.unusedVariables false
open Go.RowKit

theorem run_append_buf_at {P : Program} (w : World) (t ty e : TypeId) (i : TypeInfo) (z : Value) (bytes : Nat) (ht : P.underlying t = some (.slice e)) (hi : P.info? e = some i) (hz : i.zero = some z)
    (hsize : i.size = 1) (hby : i.bytes = bytes) (hzs : z.cells.size = 1) {A : Option Addr} {n cap : Nat} {xs : List Value} (h : Buf w A n cap xs)
    (B : Option Addr) (m c : Nat) (us : List Value) (hs : Src w B m us) (h1 : ∀ u ∈ us, u.oneCell' = true)
    (h63 : n + m ≤ maxLen) (hbytes : (n + m) * bytes ≤ 140737488355328) :
    ∃ A' cap' w', (Builtin.append_ #[t, t] ty #[.slice A n cap, .slice B m c]).run P w = .ok (.slice A' (n + m) cap') w' ∧
      Buf w' A' (n + m) cap' (xs ++ us) ∧ Keep (fun k => blk A = some k) w w' ∧ (A' = A ∨ ((∀ k, blk A' = some k → w.heap.size ≤ k) ∧ Keep (fun _ => False) w w')) := by
  rcases h with ⟨rfl, rfl, rfl, rfl⟩ | ⟨b, off, rfl, hb, hr⟩
  · obtain ⟨v', w', hrun, hown, hbel⟩ := run_copy_src (P := P) w t ty e i z bytes ht hi hz hsize hby hzs B m c us hs h1 (by omega) (by rwa [Nat.zero_add] at hbytes)
    obtain ⟨A', c', rfl, _⟩ := own_form hown
    refine ⟨A', c', w', by rw [Nat.zero_add]; exact hrun, by rw [Nat.zero_add, List.nil_append]; exact Buf.of_own hown, Keep.of_below _ hbel, .inr ⟨fun k hk => ?_, Keep.of_below _ hbel⟩⟩
    exact (hown.lt k (by rw [ownBlock_slice]; exact hk)).1
  · rcases Nat.eq_zero_or_pos m with h0 | h0
    · subst h0
      have hn : us = [] := List.eq_nil_of_length_eq_zero hs.1
      subst hn
      have hle : n + 0 ≤ cap := hr.le
      rcases B with _ | ad
      · refine ⟨some ⟨b, off, none⟩, cap, w, ?_, by rw [List.append_nil]; exact .inr ⟨b, off, rfl, hb, hr⟩, Keep.refl _ _, .inl rfl⟩
        have hle' : n ≤ cap := hr.le
        simp [Builtin.append_, run_underlying ht, sizeOf, typeInfo, hi, Builtin.lenOf, Builtin.firstCells, hle', hsize, storeCells, Result.andThen]
      · obtain ⟨b', off', cap', w', hrun, h2, h3, h4⟩ := run_append_row (P := P) w t ty e i z bytes ht hi hz hsize hby hzs hr ad 0 c [] rfl (fun j u hj => by simp at hj) (fun u hu => by simp at hu) h63 hbytes
        have hb' : b' < w'.heap.size := by
          rcases h4 with h4 | h4
          · rw [h4.1]; exact Nat.lt_of_lt_of_le hb h3.size
          · rcases Nat.eq_zero_or_pos cap' with hc | hc
            · exact absurd hrun (by
                intro hrun
                have hr2 := run_append_room_cells (P := P) w t ty e i ht hi b off n cap ad 0 c [] (by rw [hsize]; rfl) (fun j u hj => by simp at hj) (fun u hu => by simp at hu) hr.le
                  (fun j hj => by simp at hj) (fun j hj => by simp at hj)
                rw [hr2] at hrun
                injection hrun with q1 _
                injection q1 with q1 _ _
                injection q1 with q1
                injection q1 with q1
                omega)
            · exact h2.lt hc
        exact ⟨_, cap', w', hrun, .inr ⟨b', off', rfl, hb', h2⟩, h3.mono (fun k _ hk => by simp [blk, hk]), by
          rcases h4 with ⟨rfl, rfl⟩ | h4
          · exact .inl rfl
          · exact .inr ⟨(fun k hk => (by have hk' : b' = k := (by simpa [blk] using hk); have := h4.1; omega)), h4.2⟩⟩
    · obtain ⟨b2, o2, rfl, hb2, hc2⟩ := hs.2 h0
      obtain ⟨b', off', cap', w', hrun, h2, h3, h4⟩ := run_append_row (P := P) w t ty e i z bytes ht hi hz hsize hby hzs hr ⟨b2, o2, none⟩ m c us hs.1 (fun j u hj => by rw [add_mk]; exact hc2 j u hj) h1 h63 hbytes
      have hb' : b' < w'.heap.size := h2.lt (by have := h2.le; omega)
      exact ⟨_, cap', w', hrun, .inr ⟨b', off', rfl, hb', h2⟩, h3.mono (fun k _ hk => by simp [blk, hk]), by
        rcases h4 with ⟨rfl, rfl⟩ | h4
        · exact .inl rfl
        · exact .inr ⟨(fun k hk => (by have hk' : b' = k := (by simpa [blk] using hk); have := h4.1; omega)), h4.2⟩⟩

theorem blk_or {A A' : Option Addr} {m : Nat} (h : A' = A ∨ ∀ k, blk A' = some k → m ≤ k) : ∀ k, blk A' = some k → blk A = some k ∨ m ≤ k := fun k hk => by
  rcases h with rfl | h
  · exact .inl hk
  · exact .inr (h k hk)

theorem run_append_buf {P : Program} (w : World) (t ty e : TypeId) (i : TypeInfo) (z : Value) (bytes : Nat) (ht : P.underlying t = some (.slice e)) (hi : P.info? e = some i) (hz : i.zero = some z)
    (hsize : i.size = 1) (hby : i.bytes = bytes) (hzs : z.cells.size = 1) {A : Option Addr} {n cap : Nat} {xs : List Value} (h : Buf w A n cap xs)
    (B : Option Addr) (m c : Nat) (us : List Value) (hs : Src w B m us) (h1 : ∀ u ∈ us, u.oneCell' = true)
    (h63 : n + m ≤ maxLen) (hbytes : (n + m) * bytes ≤ 140737488355328) :
    ∃ A' cap' w', (Builtin.append_ #[t, t] ty #[.slice A n cap, .slice B m c]).run P w = .ok (.slice A' (n + m) cap') w' ∧
      Buf w' A' (n + m) cap' (xs ++ us) ∧ Keep (fun k => blk A = some k) w w' ∧ (∀ k, blk A' = some k → blk A = some k ∨ w.heap.size ≤ k) := by
  obtain ⟨A', cap', w', r1, r2, r3, r4⟩ := run_append_buf_at (P := P) w t ty e i z bytes ht hi hz hsize hby hzs h B m c us hs h1 h63 hbytes
  exact ⟨A', cap', w', r1, r2, r3, blk_or (r4.imp id And.left)⟩

/-- At the operation, for the walk. -/
theorem wp_append_buf {P : Program} (w : World) {o : Oper} {a : Act} {K : Act → World → Prop} {Q : Exit → Act → World → Prop} (sl x : Operand) (t : TypeId)
    (ho : o.op = .call { callee := .builtin .append, args := #[sl, x], argTypes := #[t, t] })
    (e : TypeId) (i : TypeInfo) (z : Value) (bytes : Nat) (ht : P.underlying t = some (.slice e)) (hi : P.info? e = some i) (hz : i.zero = some z)
    (hsize : i.size = 1) (hby : i.bytes = bytes) (hzs : z.cells.size = 1)
    {A : Option Addr} {n cap : Nat} {xs : List Value} (hs : a.eval sl = .slice A n cap) (hown : Buf w A n cap xs) {B : Option Addr} {m c : Nat} (us : List Value) (hx : a.eval x = .slice B m c) (hsrc : Src w B m us) (h1 : ∀ u ∈ us, u.oneCell' = true)
    (h63 : n + m ≤ maxLen) (hbytes : (n + m) * bytes ≤ 140737488355328)
    (h : ∀ A' cap' w', Buf w' A' (n + m) cap' (xs ++ us) → Keep (fun k => blk A = some k) w w' → (∀ k, blk A' = some k → blk A = some k ∨ w.heap.size ≤ k) → K (a.put o.dst (.slice A' (n + m) cap')) w') :
    Oper.wp P o a w K Q := by
  obtain ⟨A', cap', w', hr, h2, h3, h4⟩ := run_append_buf (P := P) w t o.type e i z bytes ht hi hz hsize hby hzs hown B m c us hsrc h1 h63 hbytes
  unfold Oper.wp execOp
  simp only [ho, resolve, invoke, builtin, Sem.run_bind, Sem.run_pure, Result.andThen_ok, List.map_toArray, List.map_cons, List.map_nil, hs, hx, hr]
  exact h A' cap' w' h2 h3 h4

theorem wpList_append_buf {P : Program} (w : World) {ops : Array Oper} {rest : List Oper} {o : Oper} {a : Act} {Q : Exit → Act → World → Prop} (hgd : o.guard = none) (sl x : Operand) (t : TypeId)
    (ho : o.op = .call { callee := .builtin .append, args := #[sl, x], argTypes := #[t, t] })
    (e : TypeId) (i : TypeInfo) (z : Value) (bytes : Nat) (ht : P.underlying t = some (.slice e)) (hi : P.info? e = some i) (hz : i.zero = some z)
    (hsize : i.size = 1) (hby : i.bytes = bytes) (hzs : z.cells.size = 1)
    {A : Option Addr} {n cap : Nat} {xs : List Value} (hs : a.eval sl = .slice A n cap) (hown : Buf w A n cap xs) {B : Option Addr} {m c : Nat} (us : List Value) (hx : a.eval x = .slice B m c) (hsrc : Src w B m us) (h1 : ∀ u ∈ us, u.oneCell' = true)
    (h63 : n + m ≤ maxLen) (hbytes : (n + m) * bytes ≤ 140737488355328)
    (h : ∀ A' cap' w', Buf w' A' (n + m) cap' (xs ++ us) → Keep (fun k => blk A = some k) w w' → (∀ k, blk A' = some k → blk A = some k ∨ w.heap.size ≤ k) → wpList P ops Q rest (a.put o.dst (.slice A' (n + m) cap')) w') :
    wpList P ops Q (o :: rest) a w :=
  wpList_plain hgd fun K hK => wp_append_buf w sl x t ho e i z bytes ht hi hz hsize hby hzs hs hown us hx hsrc h1 h63 hbytes fun A' cap' w' h2 h3 h4 => hK _ _ (h A' cap' w' h2 h3 h4)

theorem wpList_append_buf_at {P : Program} (w : World) {ops : Array Oper} {rest : List Oper} {o : Oper} {a : Act} {Q : Exit → Act → World → Prop} (hgd : o.guard = none) (sl x : Operand) (t : TypeId)
    (ho : o.op = .call { callee := .builtin .append, args := #[sl, x], argTypes := #[t, t] })
    (e : TypeId) (i : TypeInfo) (z : Value) (bytes : Nat) (ht : P.underlying t = some (.slice e)) (hi : P.info? e = some i) (hz : i.zero = some z)
    (hsize : i.size = 1) (hby : i.bytes = bytes) (hzs : z.cells.size = 1)
    {A : Option Addr} {n cap : Nat} {xs : List Value} (hs : a.eval sl = .slice A n cap) (hown : Buf w A n cap xs) {B : Option Addr} {m c : Nat} (us : List Value) (hx : a.eval x = .slice B m c) (hsrc : Src w B m us) (h1 : ∀ u ∈ us, u.oneCell' = true)
    (h63 : n + m ≤ maxLen) (hbytes : (n + m) * bytes ≤ 140737488355328)
    (h : ∀ A' cap' w', Buf w' A' (n + m) cap' (xs ++ us) → Keep (fun k => blk A = some k) w w' → (A' = A ∨ ((∀ k, blk A' = some k → w.heap.size ≤ k) ∧ Keep (fun _ => False) w w')) → wpList P ops Q rest (a.put o.dst (.slice A' (n + m) cap')) w') :
    wpList P ops Q (o :: rest) a w := by
  refine wpList_plain hgd fun K hK => ?_
  obtain ⟨A', cap', w', hr, h2, h3, h4⟩ := run_append_buf_at (P := P) w t o.type e i z bytes ht hi hz hsize hby hzs hown B m c us hsrc h1 h63 hbytes
  unfold Oper.wp execOp
  simp only [ho, resolve, invoke, builtin, Sem.run_bind, Sem.run_pure, Result.andThen_ok, List.map_toArray, List.map_cons, List.map_nil, hs, hx, hr]
  exact hK _ _ (h A' cap' w' h2 h3 h4)

/-- At a step of a region that draws its order. -/
theorem step_append_buf {P : Program} (w : World) {ops : Array Oper} {o : Oper} {a : Act} {K : Act → World → Prop} {Q : Exit → Act → World → Prop} {E : Prop} (hgd : o.guard = none) (sl x : Operand) (t : TypeId)
    (ho : o.op = .call { callee := .builtin .append, args := #[sl, x], argTypes := #[t, t] })
    (e : TypeId) (i : TypeInfo) (z : Value) (bytes : Nat) (ht : P.underlying t = some (.slice e)) (hi : P.info? e = some i) (hz : i.zero = some z)
    (hsize : i.size = 1) (hby : i.bytes = bytes) (hzs : z.cells.size = 1)
    {A : Option Addr} {n cap : Nat} {xs : List Value} (hs : a.eval sl = .slice A n cap) (hown : Buf w A n cap xs) {B : Option Addr} {m c : Nat} (us : List Value) (hx : a.eval x = .slice B m c) (hsrc : Src w B m us) (h1 : ∀ u ∈ us, u.oneCell' = true)
    (h63 : n + m ≤ maxLen) (hbytes : (n + m) * bytes ≤ 140737488355328)
    (h : ∀ A' cap' w', Buf w' A' (n + m) cap' (xs ++ us) → Keep (fun k => blk A = some k) w w' → (∀ k, blk A' = some k → blk A = some k ∨ w.heap.size ≤ k) → K (a.put o.dst (.slice A' (n + m) cap')) w') :
    if Region.wanted o (yielded ops a.tmps) = true then Oper.wp P o a w K Q else E := by
  have hw : Region.wanted o (yielded ops a.tmps) = true := by simp [Region.wanted, hgd]
  rw [if_pos hw]
  exact wp_append_buf w sl x t ho e i z bytes ht hi hz hsize hby hzs hs hown us hx hsrc h1 h63 hbytes h

/-- What is kept is read. -/
theorem Buf.src {w : World} {A : Option Addr} {n c : Nat} {xs : List Value} (h : Buf w A n c xs) : Src w A n xs := by
  rcases h with ⟨rfl, rfl, rfl, rfl⟩ | ⟨b, off, rfl, hb, h⟩
  · exact ⟨rfl, fun h => absurd h (by omega)⟩
  · exact ⟨h.len, fun _ => ⟨b, off, rfl, hb, fun i u hu => h.val i u hu⟩⟩

/-- A slice of one element that was just laid. -/
theorem src_one {w : World} (u : Value) (t : TypeId) (g : Nat) (hg : g = w.heap.size) : Src (w.alloc (.cells #[u] t)) (some ⟨g, 0, none⟩) 1 [u] := by
  subst hg
  refine ⟨rfl, fun _ => ⟨_, 0, rfl, by simp, fun i v hv => ?_⟩⟩
  rw [Nat.zero_add, cell_of_row _ _ i _ t (0, 0) (heap_alloc_new w _)]
  simpa using hv

theorem Src.of_keep {S : Nat → Prop} {w w' : World} {A : Option Addr} {m : Nat} {us : List Value} (h : Src w A m us) (k : Keep S w w') (hn : ∀ i, blk A = some i → ¬ S i) : Src w' A m us :=
  ⟨h.1, fun h0 => by
    obtain ⟨b, off, rfl, hb, hc⟩ := h.2 h0
    exact ⟨b, off, rfl, Nat.lt_of_lt_of_le hb k.size, fun i u hu => (k.cell (p := ⟨b, off + i, none⟩) hb (hn b rfl)).trans (hc i u hu)⟩⟩

theorem Src.far {S : Nat → Prop} {w w' : World} {A : Option Addr} {m : Nat} {us : List Value} (h : Src w A m us) (k : Keep S w w') (hn : 0 < m → ∀ i, blk A = some i → ¬ S i) : Src w' A m us := by
  rcases Nat.eq_zero_or_pos m with h0 | h0
  · exact ⟨h.1, fun x => absurd x (by omega)⟩
  · exact h.of_keep k (hn h0)
theorem Src.lt {w : World} {A : Option Addr} {m : Nat} {us : List Value} (h : Src w A m us) (h0 : 0 < m) {i : Nat} (hi : blk A = some i) : i < w.heap.size := by
  obtain ⟨b, o, rfl, hb, _⟩ := h.2 h0
  simp [blk] at hi
  omega

end Go.Proofs.Ytcpdeeiopoghiaa
