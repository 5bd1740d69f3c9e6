/- Words and laws that speak of no program: frames, rows, slices, texts. Own work. A slice that a struct keeps, told by its cells at whatever offset (or nil): what append of a text, and slicing, make of it. It speaks of no program. Own work. append of elements that are read to a slice that is kept. It speaks of no program. Own work. What an object owns; cells that may be set. It speaks of no program. Own work. append of structs to a row of the call's own, with the place of the new row. It speaks of no program. Own work. The table row of byte. Own work. The table row of string. Own work. The table row of int. Own work. The table row of rune. Own work. The table row of bool. Own work. Rows that were just laid; own rows in a later world. Own work. Cells of one block, as a list. It speaks of no program. Own work. A slice of structs whose fields take a cell each, told by its cells. It speaks of no program. Own work. strings.Clone. Own work. -/
import Derived.WalkKit
import Derived.Outline
import Derived.WalkSpells
import Derived.WalkLawsBesides
import Derived.Maps.AppendAt
import Derived.ArgAppend
import Derived.Lib.AppendStr
import Derived.Lib.UnsafeStr
import Derived.Lib.Hide
import Derived.Lib.BufferRead
import Derived.Lib.BufferWrite
import Derived.Lib.Builder
import Derived.Lib.Walk
import Derived.Laws.BitsAllLaws
import Derived.Laws.MakeOwn
import Derived.Laws.IdiomStrings
import Derived.Deep.Draws
import Derived.Deep.Slices
import Derived.Deep.Fields
import Derived.Deep.QuietTactic
import Derived.Deep.RegionHeld3
import Derived.BigQuiet
import Derived.ProofKit
import Derived.ShutString
import Derived.Deep.AppendLies
import Derived.Laws.AppendOwnNone
import Derived.Test.YtnminmaklbhakaaGreatDoorProg
set_option linter.unusedVariables false
set_option linter.unusedSimpArgs false
namespace Go.Proofs.YtnminmaklbhakaaGreatDoor
set_option linter.unusedVariables false
open Go.RowKit

/-- Of the blocks that there were, those in S alone may have turned. -/
structure Keep (S : Nat → Prop) (w w' : World) : Prop where
  os : w'.os = w.os
  tape : w'.tape = w.tape
  output : w'.output = w.output
  size : w.heap.size ≤ w'.heap.size
  block : ∀ k, k < w.heap.size → ¬ S k → w'.heap[k]? = w.heap[k]?

theorem lt_heap {w : World} {k : Nat} {o : Obj} (h : w.heap[k]? = some o) : k < w.heap.size := by
  rcases Nat.lt_or_ge k w.heap.size with x | x
  · exact x
  · simp [Array.getElem?_eq_none x] at h

namespace Keep
variable {S S' : Nat → Prop} {w w1 w2 : World}
theorem refl (S : Nat → Prop) (w : World) : Keep S w w := ⟨rfl, rfl, rfl, Nat.le_refl _, fun _ _ _ => rfl⟩
theorem trans (h : Keep S w w1) (k : Keep S' w1 w2) (hs : ∀ i, i < w.heap.size → S' i → S i) : Keep S w w2 :=
  ⟨k.os.trans h.os, k.tape.trans h.tape, k.output.trans h.output, Nat.le_trans h.size k.size,
    fun i hi hn => (k.block i (Nat.lt_of_lt_of_le hi h.size) (fun x => hn (hs i hi x))).trans (h.block i hi hn)⟩
theorem mono (h : Keep S w w1) (hs : ∀ i, i < w.heap.size → S i → S' i) : Keep S' w w1 :=
  ⟨h.os, h.tape, h.output, h.size, fun i hi hn => h.block i hi (fun x => hn (hs i hi x))⟩
theorem drew (h : Keep S w w1) : Keep S w w1.drew := ⟨h.os, h.tape, h.output, h.size, h.block⟩
theorem drewN (h : Keep S w w1) (n : Nat) : Keep S w (w1.drewN n) := ⟨h.os, h.tape, h.output, h.size, h.block⟩
theorem alloc (h : Keep S w w1) (o : Obj) : Keep S w (w1.alloc o) :=
  ⟨h.os, h.tape, h.output, Nat.le_trans h.size (by simp), fun i hi hn => (Below.heap_alloc w1 o i (Nat.lt_of_lt_of_le hi h.size)).trans (h.block i hi hn)⟩
theorem setCell (h : Keep S w w1) {p : Addr} (hp : p.block < w.heap.size → S p.block) (u : Value) : Keep S w (w1.setCell p u) :=
  ⟨h.os, h.tape, h.output, by simpa [World.setCell] using h.size, fun i hi hn => (Below.heap_setCell w1 p u i (fun e => hn (e ▸ hp (e ▸ hi)))).trans (h.block i hi hn)⟩
theorem grown (h : Keep S w w1) {row : Option Nat} (hg : w1.grownBy w2 row) (hr : ∀ k, row = some k → k < w.heap.size → S k) : Keep S w w2 :=
  ⟨hg.os.trans h.os, hg.tape.trans h.tape, hg.output.trans h.output, Nat.le_trans h.size hg.size,
    fun i hi hn => (hg.block i (Nat.lt_of_lt_of_le hi h.size) (fun e => hn (hr i e.symm hi))).trans (h.block i hi hn)⟩
theorem of_below (S : Nat → Prop) (h : Below w.heap.size w w1) : Keep S w w1 := ⟨h.os, h.tape, h.output, h.size, fun i hi _ => h.block i hi⟩
theorem below {B : Nat} (h : Keep S w w1) (hb : B ≤ w.heap.size) (hs : ∀ k, k < B → ¬ S k) : Below B w w1 := ⟨h.os, h.tape, h.output, h.size, fun i hi => h.block i (by omega) (hs i hi)⟩
theorem cell (h : Keep S w w1) {p : Addr} (hp : p.block < w.heap.size) (hn : ¬ S p.block) : w1.cell? p = w.cell? p := World.cell?_of_block (w := w) (h.block p.block hp hn)
theorem frozen (h : Keep S w w1) {p : Addr} (hp : p.block < w.heap.size) (hn : ¬ S p.block) : w1.frozen? p = w.frozen? p := World.frozen?_of_block (w := w) (h.block p.block hp hn)
theorem heap (h : Keep S w w1) {k : Nat} {o : Obj} (hk : w.heap[k]? = some o) (hn : ¬ S k) : w1.heap[k]? = some o :=
  (h.block k (lt_heap hk) hn).trans hk
end Keep

/-- The block of an address, if there is one. -/
def blk (A : Option Addr) : Option Nat := A.map (·.block)

theorem ownBlock_slice (A : Option Addr) (n c : Nat) : (Value.slice A n c).ownBlock = blk A := by cases A <;> rfl

/-- A slice of the call's own, kept over what turns other blocks. -/
theorem own_keep {S : Nat → Prop} {w w' : World} {base : Nat} {e : TypeId} {size : Nat} {v : Value} {n : Nat} {xs : List Value} (h : w.ownsRow base e size v n xs) (k : Keep S w w')
    (hn : ∀ i, v.ownBlock = some i → ¬ S i) : w'.ownsRow base e size v n xs := by
  refine ⟨h.1, ?_⟩
  rcases h.2 with h2 | ⟨g, cap, cur, rfl, hb, hg, r⟩
  · exact .inl h2
  · exact .inr ⟨g, cap, cur, rfl, hb, k.heap hg (hn g rfl), r⟩

/-- What is owned is a slice: its form. -/
theorem own_form {w : World} {base : Nat} {e : TypeId} {size : Nat} {v : Value} {n : Nat} {xs : List Value} (h : w.ownsRow base e size v n xs) :
    ∃ A c, v = .slice A n c ∧ (0 < n → ∃ g, A = some ⟨g, 0, none⟩) := by
  rcases h.2 with ⟨rfl, rfl⟩ | ⟨g, cap, cur, rfl, _⟩
  · exact ⟨none, 0, rfl, fun h => absurd h (by omega)⟩
  · exact ⟨_, cap, rfl, fun _ => ⟨g, rfl⟩⟩

theorem own_lt {w : World} {base : Nat} {e : TypeId} {size : Nat} {v : Value} {n : Nat} {xs : List Value} (h : w.ownsRow base e size v n xs) {k : Nat} (hk : v.ownBlock = some k) : k < w.heap.size := (h.lt k hk).2

/-- A row of one element type is no block of another one's. -/
theorem own_ne {w : World} {base : Nat} {e t : TypeId} {size : Nat} {v : Value} {n : Nat} {xs : List Value} {p : Nat} {cs : Array Value} (h : w.ownsRow base e size v n xs) (hp : w.heap[p]? = some (.cells cs t (0, 0))) (hne : e ≠ t) :
    v.ownBlock ≠ some p := by
  rcases h.2 with ⟨rfl, _⟩ | ⟨g, cap, cur, rfl, _, hg, _⟩
  · simp [Value.ownBlock]
  · intro x
    have hgp : g = p := by simpa [Value.ownBlock] using x
    rw [hgp, hp] at hg
    simp at hg
    exact hne hg.2.symm

/-- A block that is known whole: its cells. -/
theorem cell_at {w : World} {p : Nat} {cs : Array Value} {t : TypeId} (h : w.heap[p]? = some (.cells cs t (0, 0))) (i : Nat) : w.cell? ⟨p, i, none⟩ = cs[i]? := cell_of_row w p i cs t (0, 0) h
theorem free_at {w : World} {p : Nat} {cs : Array Value} {t : TypeId} (h : w.heap[p]? = some (.cells cs t (0, 0))) (i : Nat) : w.frozen? ⟨p, i, none⟩ = false := by simp [World.frozen?, h]
theorem heap_set {w : World} {p : Nat} {cs : Array Value} {t : TypeId} (h : w.heap[p]? = some (.cells cs t (0, 0))) (i : Nat) (u : Value) :
    (w.setCell ⟨p, i, none⟩ u).heap[p]? = some (.cells (cs.setIfInBounds i u) t (0, 0)) := by
  simp [World.setCell, Array.getElem?_modify, h]
theorem heap_far {w : World} {k : Nat} {o : Obj} (h : w.heap[k]? = some o) {p : Addr} (hp : k ≠ p.block) (u : Value) : (w.setCell p u).heap[k]? = some o := (Below.heap_setCell w p u k hp).trans h
theorem heap_alloc {w : World} {k : Nat} {o : Obj} (h : w.heap[k]? = some o) (x : Obj) : (w.alloc x).heap[k]? = some o := (Below.heap_alloc w x k (lt_heap h)).trans h

/-- The string's append, with the place where the new row lies. -/
theorem run_append_str_at {P : Program} (w : World) (base : Nat) (t u ty e : TypeId) (i : TypeInfo) (ht : P.underlying t = some (.slice e)) (hu : P.underlying u = some .string) (hi : P.info? e = some i) (hz : i.zero = some (.int .u8 0))
    (hsize : i.size = 1) (hby : i.bytes = 1) (v : Value) (n : Nat) (xs : List Value) (hown : w.ownsRow base e 1 v n xs) (s : ByteArray)
    (h63 : n + s.size ≤ maxLen) (hbytes : n + s.size ≤ 140737488355328) (hbase : base ≤ w.heap.size) :
    ∃ v' w', (Builtin.append_ #[t, u] ty #[v, .string s]).run P w = .ok v' w' ∧ w'.ownsRow base e 1 v' (n + s.size) (xs ++ Lib.strCells s) ∧ w.grownBy w' v.ownBlock ∧
      (∀ k, v'.ownBlock = some k → v.ownBlock = some k ∨ w.heap.size ≤ k) := by
  obtain ⟨v', w', hr, h2, h3, h4⟩ := Lib.run_append_own_string (P := P) w base t u ty e i ht hu hi hz hsize hby v n xs hown s h63 hbytes hbase
  refine ⟨v', w', hr, h2, h3, ?_⟩
  have hsm : n + s.size ≤ 9223372036854775807 := by simp only [maxLen] at h63; omega
  have hxl : xs.length = n := by simpa using hown.1
  rcases hown.2 with ⟨rfl, rfl⟩ | ⟨g, cap, cur, rfl, hbg, hg, hnc, hcm, hcs, htake⟩
  · -- onto nil: whatever base is laid, the new row lies from there on
    obtain ⟨v2, w2, hr2, h22, _, _⟩ := Lib.run_append_own_string (P := P) w w.heap.size t u ty e i ht hu hi hz hsize hby (.slice none 0 0) 0 [] (World.ownsRow_nil _ _ _ _) s h63 hbytes (Nat.le_refl _)
    rw [hr] at hr2
    injection hr2 with e1 e2
    subst e1
    subst e2
    exact fun k hk => .inr (h22.lt k hk).1
  · by_cases hroom : n + s.size ≤ cap
    · have hr1 := Lib.run_append_room_string (P := P) w t u ty e i ht hu hi hsize g n cap cur hg s hroom (by rw [hcs]; omega)
      rw [hr] at hr1
      injection hr1 with e1 _
      rw [e1]
      exact fun k hk => .inl hk
    · have holds : ∀ j u, xs[j]? = some u → w.cell? ((⟨g, 0, none⟩ : Addr).add j) = some u := hown.cells (g := g) rfl
      have hr1 := Lib.run_append_grow_string (P := P) w t u ty e i (.int .u8 0) ht hu hi hz ⟨g, 0, none⟩ n cap xs (by rw [hsize]; simpa using hxl) holds s (by omega) (by omega) (by rw [hby]; exact growslice_fits (by omega) (by omega))
      rw [hr] at hr1
      injection hr1 with e1 _
      rw [e1]
      intro k hk
      simp [Value.ownBlock] at hk
      exact .inr (by omega)

/-- At the operation, for the walk. -/
theorem wpList_append_str_at {P : Program} (w : World) {ops : Array Oper} {rest : List Oper} {o : Oper} {a : Act} {Q : Exit → Act → World → Prop} (hgd : o.guard = none) (sl x : Operand) (t u : TypeId)
    (ho : o.op = .call { callee := .builtin .append, args := #[sl, x], argTypes := #[t, u] })
    (base : Nat) (e : TypeId) (i : TypeInfo) (ht : P.underlying t = some (.slice e)) (hu : P.underlying u = some .string) (hi : P.info? e = some i) (hz : i.zero = some (.int .u8 0))
    (hsize : i.size = 1) (hby : i.bytes = 1)
    (v : Value) (n : Nat) (xs : List Value) (hs : a.eval sl = v) (hown : w.ownsRow base e 1 v n xs) (s : ByteArray) (hx : a.eval x = .string s)
    (h63 : n + s.size ≤ maxLen) (hbytes : n + s.size ≤ 140737488355328) (hbase : base ≤ w.heap.size)
    (h : ∀ v' w', w'.ownsRow base e 1 v' (n + s.size) (xs ++ Lib.strCells s) → w.grownBy w' v.ownBlock → (∀ k, v'.ownBlock = some k → v.ownBlock = some k ∨ w.heap.size ≤ k) → wpList P ops Q rest (a.put o.dst v') w') :
    wpList P ops Q (o :: rest) a w := by
  refine wpList_plain hgd fun K hK => ?_
  obtain ⟨v', w', hr, h2, h3, h4⟩ := run_append_str_at (P := P) w base t u o.type e i ht hu hi hz hsize hby v n xs hown s h63 hbytes hbase
  unfold Oper.wp execOp
  simp only [ho, resolve, invoke, builtin, Sem.run_bind, Sem.run_pure, Result.andThen_ok, List.map_toArray, List.map_cons, List.map_nil, hs, hx, hr]
  exact hK _ _ (h v' w' h2 h3 h4)

theorem toNat_ofNat {n : Nat} (h : n < 256) : (UInt8.ofNat n).toNat = n := by simp; omega

theorem i64_or_nat (a b : Nat) (ha : a < 9223372036854775808) (hb : b < 9223372036854775808) : bits .or .i64 (a : Int) (b : Int) = ((a ||| b : Nat) : Int) := by
  have hx : a ||| b < 2 ^ 63 := Nat.or_lt_two_pow (by omega) (by omega)
  show IntKind.i64.wrap ((BitVec.ofInt 64 (a : Int) ||| BitVec.ofInt 64 (b : Int)).toNat : Int) = _
  rw [BitVec.toNat_or, ofInt_u64 a (by omega), ofInt_u64 b (by omega), IntKind.wrap_i64]
  omega

theorem drop_at (s : ByteArray) (k : Nat) (h : k < s.size) : s.data.toList.drop k = s[k] :: s.data.toList.drop (k + 1) := by
  rw [List.drop_eq_getElem_cons (by simpa using h)]; rfl

/-- What a call did to a reader's block alone. -/
theorem keep_set (w : World) (p i : Nat) (u : Value) : Keep (· = p) w (w.setCell ⟨p, i, none⟩ u) :=
  Keep.setCell (S := fun x => x = p) (Keep.refl _ w) (p := ⟨p, i, none⟩) (fun _ => rfl) u

theorem Keep.own {w w1 : World} {p : Nat} (h : Keep (· = p) w w1) (i : Nat) (u : Value) : Keep (· = p) w (w1.setCell ⟨p, i, none⟩ u) :=
  Keep.setCell (S := fun x => x = p) h (p := ⟨p, i, none⟩) (fun _ => rfl) u

theorem not_empty {s : ByteArray} (h : s.size ≠ 0) : s.toList.isEmpty = false := by
  rw [Lib.toList_data, List.isEmpty_eq_false_iff]
  intro e
  apply h
  rw [Lib.size_eq, e]
  rfl

theorem is_empty {s : ByteArray} (h : s.size = 0) : s = .empty := ByteArray.ext (Array.eq_empty_of_size_eq_zero h)

theorem head_at (s : ByteArray) (h : 0 < s.size) : s.data.toList.headD 0 = s[0] := by
  have := drop_at s 0 h
  rw [List.drop_zero] at this
  rw [this]
  rfl

theorem ret1 {a b : Int} (h : a = b) : Ending.returned (.int .i64 a) = .returned (.int .i64 b) := by rw [h]

theorem byteCells_one (b : UInt8) : Lib.byteCells [b] = [.int .u8 b.toNat] := rfl

theorem u8_of {n : Nat} (h : n < 256) : IntKind.u8.wrap (n : Int) = ((UInt8.ofNat n).toNat : Int) := by
  rw [toNat_ofNat h, IntKind.wrap_u8']; omega

/-- A slice that is read: its cells; it lies in a block that none of B's calls turns. -/
def SliceAt (w : World) (B : Option Addr) (vs : List Value) (S : Nat → Prop) : Prop :=
  0 < vs.length → ∃ b off, B = some ⟨b, off, none⟩ ∧ b < w.heap.size ∧ ¬ S b ∧ ∀ i v, vs[i]? = some v → w.cell? ⟨b, off + i, none⟩ = some v

theorem take_next {α : Type} {xs : List α} {k : Nat} {x : α} (h : xs[k]? = some x) : xs.take (k + 1) = xs.take k ++ [x] := by
  have hk : k < xs.length := by
    rcases Nat.lt_or_ge k xs.length with h1 | h1
    · exact h1
    · rw [List.getElem?_eq_none h1] at h; cases h
  rw [List.take_add_one, h]; rfl

theorem u8_wrap {x : Int} (h1 : 0 ≤ x) (h2 : x ≤ 255) : x = ((UInt8.ofNat x.toNat).toNat : Int) := by
  rw [toNat_ofNat (by omega)]; omega

/-- How many bytes texts have. -/
def sum (xs : List ByteArray) : Nat := (xs.map (·.size)).foldr (· + ·) 0

theorem sum_snoc (xs : List ByteArray) (x : ByteArray) : sum (xs ++ [x]) = sum xs + x.size := by
  induction xs with
  | nil => simp [sum]
  | cons y r ih => simp only [sum, List.cons_append, List.map_cons, List.foldr_cons] at ih ⊢; omega

theorem sum_take (xs : List ByteArray) (k : Nat) : sum (xs.take k) ≤ sum xs := by
  induction xs generalizing k with
  | nil => simp
  | cons y r ih =>
    cases k with
    | zero => simp [sum]
    | succ k => have := ih k; simp only [sum, List.take_succ_cons, List.map_cons, List.foldr_cons] at this ⊢; omega

theorem extract_mk (l : List UInt8) (a b : Nat) : (⟨l.toArray⟩ : ByteArray).extract a b = ⟨((l.take b).drop a).toArray⟩ := by
  apply ByteArray.ext
  simp [ByteArray.data_extract, List.drop_take]

theorem size_mk (l : List UInt8) : (⟨l.toArray⟩ : ByteArray).size = l.length := rfl

theorem extract_end (l r : List UInt8) : (⟨(l ++ r).toArray⟩ : ByteArray).extract l.length (⟨(l ++ r).toArray⟩ : ByteArray).size = ⟨r.toArray⟩ := by
  rw [extract_mk, size_mk, List.take_of_length_le (Nat.le_refl _), List.drop_left]

theorem extract_start (l r : List UInt8) : (⟨(l ++ r).toArray⟩ : ByteArray).extract 0 l.length = ⟨l.toArray⟩ := by
  rw [extract_mk, List.take_left, List.drop_zero]

/-- A slice that the call has just laid. -/
theorem slice_new {w : World} {g : Nat} (hg : g = w.heap.size) (vs : List Value) (t : TypeId) {S : Nat → Prop} (hS : ¬ S g) : SliceAt (w.alloc (.cells vs.toArray t)) (some ⟨g, 0, none⟩) vs S := by
  subst hg
  intro _
  refine ⟨_, 0, rfl, by simp, hS, fun i v hv => ?_⟩
  rw [Nat.zero_add, cell_of_row _ _ i _ t (0, 0) (heap_alloc_new w _)]
  simpa using hv

theorem mk_data (s : ByteArray) : (⟨s.data.toList.toArray⟩ : ByteArray) = s := by
  apply ByteArray.ext
  simp

theorem sum_one (s : ByteArray) : sum [s] = s.size := by simp [sum]

theorem sum_two (s t : ByteArray) : sum [s, t] = s.size + t.size := by simp [sum]

/-- string(row): the bytes that are owned. -/
theorem run_own_string {P : Program} {w : World} {base e t u c : Nat} {A : Option Addr} {l : List UInt8} (h : w.ownsRow base e 1 (.slice A l.length c) l.length (Lib.byteCells l))
    (ht : P.underlying t = some (.slice e)) (he : P.underlying e = some (.int .u8)) (hu : P.underlying u = some .string) : (convert t u (.slice A l.length c)).run P w = .ok (.string ⟨l.toArray⟩) w := by
  rcases h.2 with ⟨h1, h2⟩ | ⟨g, cap, cur, h1, _, hg, _, _, _, htk⟩
  · injection h1 with hA hn hc
    have hl : l = [] := List.eq_nil_of_length_eq_zero hn
    subst hA hl hc
    exact Lib.run_convert_nil_bytes w t u e 0 ht he hu
  · injection h1 with hA hn hc
    subst hA hc
    exact run_convert_bytes_back w t u e _ _ l ht he hu (Lib.bytes_of_row hg (by simpa using htk))

theorem keep_setCells {S : Nat → Prop} {w0 : World} (b : Nat) (hb : b < w0.heap.size → S b) : ∀ (vs : List Value) (o : Nat) (w : World), Keep S w0 w → Keep S w0 (w.setCells b o vs)
  | [], _, _, h => h
  | v :: r, o, w, h => keep_setCells b hb r (o + 1) _ (h.setCell (p := ⟨b, o, none⟩) hb v)

/-- n elements from place off of block b on, with room for cap: they hold xs; all may be written. -/
structure Row (w : World) (b off n cap : Nat) (xs : List Value) : Prop where
  len : xs.length = n
  le : n ≤ cap
  cm : cap ≤ maxLen
  val : ∀ j u, xs[j]? = some u → w.cell? ⟨b, off + j, none⟩ = some u
  can : ∀ j, j < cap → (w.cell? ⟨b, off + j, none⟩).isSome = true ∧ w.frozen? ⟨b, off + j, none⟩ = false

namespace Row
variable {w w' : World} {b off n cap : Nat} {xs : List Value}
theorem lt (h : Row w b off n cap xs) (hc : 0 < cap) : b < w.heap.size := by
  obtain ⟨u, hu⟩ := Option.isSome_iff_exists.1 (h.can 0 hc).1
  exact World.block_lt_of_cell? w _ hu
theorem keep {S : Nat → Prop} (h : Row w b off n cap xs) (k : Keep S w w') (hn : ¬ S b) : Row w' b off n cap xs := by
  rcases Nat.eq_zero_or_pos cap with h0 | h0
  · subst h0
    have hn0 : n = 0 := by have := h.le; omega
    have hx : xs = [] := List.eq_nil_of_length_eq_zero (by rw [h.len, hn0])
    subst hn0 hx
    exact ⟨rfl, h.le, h.cm, fun j u hj => by simp at hj, fun j hj => absurd hj (by omega)⟩
  · have hb := h.lt h0
    exact ⟨h.len, h.le, h.cm, fun j u hj => (k.cell (p := ⟨b, off + j, none⟩) hb hn).trans (h.val j u hj),
      fun j hj => by rw [k.cell (p := ⟨b, off + j, none⟩) hb hn, k.frozen (p := ⟨b, off + j, none⟩) hb hn]; exact h.can j hj⟩
theorem alloc (h : Row w b off n cap xs) (o : Obj) : Row (w.alloc o) b off n cap xs := h.keep (S := fun _ => False) ((Keep.refl _ w).alloc o) (fun x => x)
theorem drew (h : Row w b off n cap xs) : Row w.drew b off n cap xs := ⟨h.len, h.le, h.cm, h.val, h.can⟩
theorem drewN (h : Row w b off n cap xs) (k : Nat) : Row (w.drewN k) b off n cap xs := ⟨h.len, h.le, h.cm, h.val, h.can⟩
/-- A store into it. -/
theorem set (h : Row w b off n cap xs) (i : Nat) (hi : i < n) (u : Value) : Row (w.setCell ⟨b, off + i, none⟩ u) b off n cap (xs.set i u) := by
  refine ⟨by rw [List.length_set]; exact h.len, h.le, h.cm, fun j v hj => ?_, fun j hj => ?_⟩
  · by_cases e : i = j
    · subst e
      have hil : i < xs.length := by rw [h.len]; exact hi
      rw [List.getElem?_set_self hil] at hj
      obtain ⟨u0, hu0⟩ := Option.isSome_iff_exists.1 (h.can i (by have := h.le; omega)).1
      rw [← hj]
      simpa using World.cell?_setCell_same _ _ _ hu0
    · rw [List.getElem?_set_ne e] at hj
      rw [World.cell?_setCell_other _ _ _ _ (by simp)]
      exact h.val j v hj
  · rw [World.frozen?_setCell]
    refine ⟨?_, (h.can j hj).2⟩
    by_cases e : i = j
    · subst e
      obtain ⟨u0, hu0⟩ := Option.isSome_iff_exists.1 (h.can i hj).1
      have := World.cell?_setCell_same w ⟨b, off + i, none⟩ u hu0
      rw [this]; rfl
    · rw [World.cell?_setCell_other _ _ _ _ (by simp)]
      exact (h.can j hj).1
/-- A block that is known whole, none of whose cells is marked within the row. -/
theorem of_block {g : Nat} {cs : Array Value} {t : TypeId} {fz : Nat × Nat} (hg : w.heap[g]? = some (.cells cs t fz)) (hf : fz.2 ≤ fz.1 ∨ cs.size ≤ fz.1) {n : Nat} (hn : n ≤ cs.size) (hm : cs.size ≤ maxLen) : Row w g 0 n cs.size (cs.toList.take n) := by
  refine ⟨by rw [List.length_take, Array.length_toList]; omega, hn, hm, fun j u hj => ?_, fun j hj => ⟨?_, ?_⟩⟩
  · rw [Nat.zero_add, cell_of_row w g j cs t fz hg]
    rw [List.getElem?_take] at hj
    split at hj
    · simpa using hj
    · cases hj
  · rw [Nat.zero_add, cell_of_row w g j cs t fz hg, Array.getElem?_eq_getElem hj]; rfl
  · obtain ⟨lo, hi⟩ := fz
    simp only [World.frozen?, hg, Bool.and_eq_false_iff, decide_eq_false_iff_not]
    simp only at hf
    omega
end Row

/-- append of elements that lie somewhere: in place, or in a new row. -/
theorem run_append_row {P : Program} (w : World) (t ty e : TypeId) (i : TypeInfo) (z : Value) (bytes : Nat) (ht : P.underlying t = some (.slice e)) (hi : P.info? e = some i) (hz : i.zero = some z)
    (hsize : i.size = 1) (hby : i.bytes = bytes) (hzs : z.cells.size = 1) {b off n cap : Nat} {xs : List Value} (h : Row w b off n cap xs)
    (a : Addr) (m c : Nat) (news : List Value) (hl : news.length = m) (hnews : ∀ j u, news[j]? = some u → w.cell? (a.add j) = some u) (h1 : ∀ u ∈ news, u.oneCell' = true)
    (h63 : n + m ≤ maxLen) (hbytes : (n + m) * bytes ≤ 140737488355328) :
    ∃ b' off' cap' w', (Builtin.append_ #[t, t] ty #[.slice (some ⟨b, off, none⟩) n cap, .slice (some a) m c]).run P w = .ok (.slice (some ⟨b', off', none⟩) (n + m) cap') w' ∧
      Row w' b' off' (n + m) cap' (xs ++ news) ∧ Keep (· = b) w w' ∧ ((b' = b ∧ off' = off) ∨ (w.heap.size ≤ b' ∧ Keep (fun _ => False) w w')) := by
  have hsm : n + m ≤ 9223372036854775807 := by simp only [maxLen] at h63; omega
  by_cases hroom : n + m ≤ cap
  · have hr := run_append_room_cells (P := P) w t ty e i ht hi b off n cap a m c news (by rw [hsize]; omega) hnews h1 hroom
      (fun j hj => by rw [hsize, Nat.mul_one, Nat.add_assoc]; exact (h.can (n + j) (by omega)).1) (fun j hj => by rw [hsize, Nat.mul_one, Nat.add_assoc]; exact (h.can (n + j) (by omega)).2)
    rw [hsize, Nat.mul_one] at hr
    refine ⟨b, off, cap, _, hr, ⟨by rw [List.length_append, h.len, hl], hroom, h.cm, fun j u hj => ?_, fun j hj => ?_⟩, keep_setCells (S := fun x => x = b) b (fun _ => rfl) _ _ _ (Keep.refl _ w), .inl ⟨rfl, rfl⟩⟩
    · by_cases hjn : j < n
      · rw [List.getElem?_append_left (by rw [h.len]; exact hjn)] at hj
        rw [World.cell?_setCells_out _ _ _ _ _ (fun _ _ => .inl (by simp; omega))]
        exact h.val j u hj
      · rw [List.getElem?_append_right (by rw [h.len]; omega), h.len] at hj
        have hjm : j - n < news.length := by
          rcases Nat.lt_or_ge (j - n) news.length with x | x
          · exact x
          · rw [List.getElem?_eq_none x] at hj; cases hj
        have := World.cell?_setCells_in b news (off + n) w (fun k hk => by rw [Nat.add_assoc]; exact (h.can (n + k) (by omega)).1) (j - n) hjm
        rw [show off + n + (j - n) = off + j from by omega] at this
        rw [this]
        rw [List.getElem?_eq_getElem hjm] at hj
        exact hj
    · rw [World.frozen?_setCells]
      refine ⟨?_, (h.can j hj).2⟩
      by_cases hin : n ≤ j ∧ j < n + news.length
      · have := World.cell?_setCells_in b news (off + n) w (fun k hk => by rw [Nat.add_assoc]; exact (h.can (n + k) (by omega)).1) (j - n) (by omega)
        rw [show off + n + (j - n) = off + j from by omega] at this
        rw [this]; rfl
      · rw [World.cell?_setCells_out _ _ _ _ _ (fun _ _ => by simp; omega)]
        exact (h.can j hj).1
  · have hr := run_append_grow (P := P) w t ty e i z ht hi hz ⟨b, off, none⟩ n cap xs (by rw [hsize, h.len]; omega)
      (fun j v hj => by
        have hadd : (⟨b, off, none⟩ : Addr).add j = ⟨b, off + j, none⟩ := by unfold Addr.add; split <;> simp_all
        rw [hadd]; exact h.val j v hj) a m c news (by rw [hsize]; omega) hnews (by omega) (by omega) (by rw [hby]; exact growslice_fits (by omega) hbytes)
    have hge := grownCap_ge w (n + m) cap e
    have hcm := grownCap_le_maxLen w (n + m) cap e h63
    have hsz : (xs.toArray ++ news.toArray ++ Builtin.zeroCells z.cells (grownCap w (n + m) cap e - (n + m))).size = grownCap w (n + m) cap e := by
      have := h.len
      simp only [Array.size_append, List.size_toArray, size_zeroCells, hzs, hl]
      omega
    have hrow := Row.of_block (heap_alloc_new w.drew (.cells (xs.toArray ++ news.toArray ++ Builtin.zeroCells z.cells (grownCap w (n + m) cap e - (n + m))) e)) (.inl (Nat.le_refl _)) (n := n + m) (by rw [hsz]; exact hge) (by rw [hsz]; exact hcm)
    rw [hsz] at hrow
    have htk : (xs.toArray ++ news.toArray ++ Builtin.zeroCells z.cells (grownCap w (n + m) cap e - (n + m))).toList.take (n + m) = xs ++ news := by
      simp only [Array.toList_append]
      rw [List.take_append_of_le_length (by have := h.len; simp; omega), List.take_of_length_le (by have := h.len; simp; omega)]
    rw [htk] at hrow
    exact ⟨_, 0, _, _, hr, hrow, ((Keep.refl _ w).drew).alloc _, .inr ⟨Nat.le_refl _, ((Keep.refl _ w).drew).alloc _⟩⟩

/-- At the operation, for the walk. -/
theorem wpList_append_row {P : Program} (w : World) {ops : Array Oper} {rest : List Oper} {o : Oper} {act : Act} {Q : Exit → Act → World → Prop} (hgd : o.guard = none) (sl x : Operand) (t : TypeId)
    (ho : o.op = .call { callee := .builtin .append, args := #[sl, x], argTypes := #[t, t] })
    (e : TypeId) (i : TypeInfo) (z : Value) (bytes : Nat) (ht : P.underlying t = some (.slice e)) (hi : P.info? e = some i) (hz : i.zero = some z)
    (hsize : i.size = 1) (hby : i.bytes = bytes) (hzs : z.cells.size = 1) {b off n cap : Nat} {xs : List Value} (hs : act.eval sl = .slice (some ⟨b, off, none⟩) n cap) (h : Row w b off n cap xs)
    (a : Addr) (m c : Nat) (news : List Value) (hx : act.eval x = .slice (some a) m c) (hl : news.length = m) (hnews : ∀ j u, news[j]? = some u → w.cell? (a.add j) = some u) (h1 : ∀ u ∈ news, u.oneCell' = true)
    (h63 : n + m ≤ maxLen) (hbytes : (n + m) * bytes ≤ 140737488355328)
    (hK : ∀ b' off' cap' w', Row w' b' off' (n + m) cap' (xs ++ news) → Keep (· = b) w w' → (b' = b ∨ w.heap.size ≤ b') → wpList P ops Q rest (act.put o.dst (.slice (some ⟨b', off', none⟩) (n + m) cap')) w') :
    wpList P ops Q (o :: rest) act w := by
  refine wpList_plain hgd fun K hK' => ?_
  obtain ⟨b', off', cap', w', hr, h2, h3, h4⟩ := run_append_row (P := P) w t o.type e i z bytes ht hi hz hsize hby hzs h a m c news hl hnews h1 h63 hbytes
  unfold Oper.wp execOp
  simp only [ho, resolve, invoke, builtin, Sem.run_bind, Sem.run_pure, Result.andThen_ok, List.map_toArray, List.map_cons, List.map_nil, hs, hx, hr]
  exact hK' _ _ (hK b' off' cap' w' h2 h3 (h4.imp And.left And.left))

/-- []byte(s): a new row of its own. -/
theorem run_bytes_row {P : Program} (w : World) (src dst e : TypeId) (s : ByteArray) (hs : P.underlying src = some .string) (hd : P.underlying dst = some (.slice e)) (he : P.underlying e = some (.int .u8)) (hl : s.size ≤ maxLen) :
    ∃ cap w', (convert src dst (.string s)).run P w = .ok (.slice (some ⟨w.heap.size, 0, none⟩) s.size cap) w' ∧ Row w' w.heap.size 0 s.size cap (Lib.byteCells s.data.toList) ∧ Below w.heap.size w w' := by
  have hr := run_bytes_of_string (P := P) w src dst e s hs hd he
  have hge := grownCap_ge w s.size 0 e
  have hcm := grownCap_le_maxLen w s.size 0 e hl
  have hsz : (bytesRow s (grownCap w s.size 0 e)).size = grownCap w s.size 0 e := by
    have : s.data.size = s.size := rfl
    simp only [bytesRow, Array.size_append, Array.size_map, Array.size_replicate, this]
    omega
  have htk : (bytesRow s (grownCap w s.size 0 e)).toList.take s.size = Lib.byteCells s.data.toList := by
    have h1 : (s.data.map fun b => Value.int .u8 (b.toNat : Int)).toList = Lib.byteCells s.data.toList := by simp [Lib.byteCells]
    have h2 : (Lib.byteCells s.data.toList).length = s.size := by rw [Lib.byteCells_length, Array.length_toList]; rfl
    simp only [bytesRow, Array.toList_append, h1]
    rw [List.take_append_of_le_length (by omega), List.take_of_length_le (by omega)]
  have hrow := Row.of_block (heap_alloc_new w.drew (.cells (bytesRow s (grownCap w s.size 0 e)) e ((bytesRow s (grownCap w s.size 0 e)).size, (bytesRow s (grownCap w s.size 0 e)).size + 1))) (.inr (Nat.le_refl _)) (n := s.size) (by rw [hsz]; exact hge) (by rw [hsz]; exact hcm)
  rw [htk, hsz] at hrow
  rw [hsz] at hr
  exact ⟨_, _, hr, hrow, ((Below.refl _ w).drew).alloc (Nat.le_refl _) _⟩

/-- string(b): its bytes. -/
theorem run_row_string {P : Program} {w : World} (src dst e : TypeId) {b off n cap : Nat} {l : List UInt8} (h : Row w b off n cap (Lib.byteCells l)) (hs : P.underlying src = some (.slice e)) (he : P.underlying e = some (.int .u8)) (hd : P.underlying dst = some .string) :
    (convert src dst (.slice (some ⟨b, off, none⟩) n cap)).run P w = .ok (.string ⟨l.toArray⟩) w := by
  have hn : l.length = n := by rw [← h.len, Lib.byteCells_length]
  subst hn
  refine run_convert_bytes_back w src dst e _ cap l hs he hd (fun j hj => ?_)
  have hadd : (⟨b, off, none⟩ : Addr).add j = ⟨b, off + j, none⟩ := by unfold Addr.add; split <;> simp_all
  rw [hadd]
  exact h.val j _ (by simp [Lib.byteCells, hj])

/-- n strings that are read. -/
def Strs (w : World) (A : Option Addr) (n : Nat) (ss : List ByteArray) : Prop :=
  ss.length = n ∧ (0 < n → ∃ b off, A = some ⟨b, off, none⟩ ∧ b < w.heap.size ∧ ∀ i s, ss[i]? = some s → w.cell? ⟨b, off + i, none⟩ = some (.string s)) ∧ (∀ s ∈ ss, s.size ≤ maxLen) ∧ n ≤ maxLen

theorem strs_nil (w : World) (A : Option Addr) : Strs w A 0 [] := ⟨rfl, fun h => absurd h (by omega), by simp, by unfold maxLen; omega⟩

theorem strs_of {w : World} {x : Addr} {len : Nat} {zs : List ByteArray} (hl : len ≤ zs.length) (hcell : ∀ i, i < zs.length → w.cell? (x.add i) = some (.string (zs.getD i ByteArray.empty))) (hws : ∀ s ∈ zs, s.size ≤ maxLen) (hm : len ≤ maxLen) :
    Strs w (some x) len (zs.take len) := by
  refine ⟨by rw [List.length_take]; omega, fun h0 => ?_, fun s hs => hws s (List.mem_of_mem_take hs), hm⟩
  obtain ⟨b, off, spot⟩ := x
  have hc := hcell 0 (by omega)
  have hspot : spot = none := by simpa [Addr.add] using World.cell?_spot hc
  subst hspot
  refine ⟨b, off, rfl, ?_, fun i s hi => ?_⟩
  · have := World.block_lt_of_cell? w _ hc
    simpa [Addr.add] using this
  · rw [List.getElem?_take] at hi
    split at hi
    · have hiz : i < zs.length := by
        rcases Nat.lt_or_ge i zs.length with h | h
        · exact h
        · rw [List.getElem?_eq_none h] at hi; cases hi
      have h1 := hcell i hiz
      have hadd : (⟨b, off, none⟩ : Addr).add i = ⟨b, off + i, none⟩ := by unfold Addr.add; split <;> simp_all
      rw [hadd] at h1
      rw [h1, List.getD_eq_getElem?_getD, hi]
      rfl
    · cases hi

/-- n numbers that are read. -/
def Ints (w : World) (A : Option Addr) (n : Nat) (xs : List Int) : Prop :=
  xs.length = n ∧ (0 < n → ∃ b off, A = some ⟨b, off, none⟩ ∧ b < w.heap.size ∧ ∀ i x, xs[i]? = some x → w.cell? ⟨b, off + i, none⟩ = some (.int .i64 x)) ∧ (∀ x ∈ xs, -9223372036854775808 ≤ x ∧ x ≤ 9223372036854775807) ∧ n ≤ maxLen

theorem ints_nil (w : World) (A : Option Addr) : Ints w A 0 [] := ⟨rfl, fun h => absurd h (by omega), by simp, by unfold maxLen; omega⟩

theorem wf_bounds {x : Int} (h : (Lit.int .i64 x).wf = true) : -9223372036854775808 ≤ x ∧ x ≤ 9223372036854775807 := by
  simpa [Lit.wf, IntKind.min, IntKind.max, IntKind.signed, IntKind.bits] using h

theorem add_mk (b off j : Nat) : (⟨b, off, none⟩ : Addr).add j = ⟨b, off + j, none⟩ := by unfold Addr.add; split <;> simp_all

theorem ints_of {w : World} {x : Addr} {len : Nat} {zs : List Int} (hl : len ≤ zs.length) (hcell : ∀ i, i < zs.length → w.cell? (x.add i) = some (.int .i64 (zs.getD i 0))) (hws : ∀ n ∈ zs, (Lit.int .i64 n).wf = true) (hm : len ≤ maxLen) :
    Ints w (some x) len (zs.take len) := by
  refine ⟨by rw [List.length_take]; omega, fun h0 => ?_, fun s hs => wf_bounds (hws s (List.mem_of_mem_take hs)), hm⟩
  obtain ⟨b, off, spot⟩ := x
  have hc := hcell 0 (by omega)
  have hspot : spot = none := by simpa [Addr.add] using World.cell?_spot hc
  subst hspot
  refine ⟨b, off, rfl, ?_, fun i s hi => ?_⟩
  · have := World.block_lt_of_cell? w _ hc
    simpa [Addr.add] using this
  · rw [List.getElem?_take] at hi
    split at hi
    · have hiz : i < zs.length := by
        rcases Nat.lt_or_ge i zs.length with h | h
        · exact h
        · rw [List.getElem?_eq_none h] at hi; cases hi
      have h1 := hcell i hiz
      rw [add_mk] at h1
      rw [h1, List.getD_eq_getElem?_getD, hi]
      rfl
    · cases hi

section
open Go.ChangeShapes Go.WideShapes Go.Deep
variable {H : Type} {enc : TypeId × Value → H} {P : Program} {w : World}
theorem ints_read {t e : TypeId} (ht : P.underlying t = some (.slice e)) (he : P.underlying e = some (.int .i64)) (hc : P.cellsOf e = 1) {fuel : Nat} {v : Value} {y : DataW H × List MemPlace} (h : DataW.trod enc P w 0 (fun _ => true) true fuel t [v] = some y) :
    ∃ A len cap zs, v = .slice A len cap ∧ Ints w A len zs := by
  rcases open_ints ht he hc h with ⟨hcs, _⟩ | ⟨x, l, c, zs, hcs, _, hl, hm, hz, _, hcell, hwz⟩
  · injection hcs with h1
    exact ⟨none, 0, 0, [], h1, ints_nil _ _⟩
  · injection hcs with h1
    have hz' : zs.length = c := by simpa using hz
    exact ⟨some x, l, c, _, h1, ints_of (by omega) hcell hwz (Nat.le_trans hl hm)⟩

theorem strs_read {t e : TypeId} (ht : P.underlying t = some (.slice e)) (he : P.underlying e = some .string) (hc : P.cellsOf e = 1) {fuel : Nat} {v : Value} {y : DataW H × List MemPlace} (h : DataW.trod enc P w 0 (fun _ => true) true fuel t [v] = some y) :
    ∃ A len cap zs, v = .slice A len cap ∧ Strs w A len zs := by
  rcases open_strings ht he hc h with ⟨hcs, _⟩ | ⟨x, l, c, zs, hcs, _, hl, hm, hz, _, hcell, hwz⟩
  · injection hcs with h1
    exact ⟨none, 0, 0, [], h1, strs_nil _ _⟩
  · injection hcs with h1
    have hz' : zs.length = c := by simpa using hz
    exact ⟨some x, l, c, _, h1, strs_of (by omega) hcell hwz (Nat.le_trans hl hm)⟩
end

/-- What Room tells. -/
def roomF : Int → List Int → Int
  | l, [] => l
  | l, x :: r => if l < 0 ∨ l < x then -1 else roomF (l - x) r

theorem roomF_neg (l : Int) (x : Int) (r : List Int) (h : l < 0 ∨ l < x) : roomF l (x :: r) = -1 := if_pos h

theorem roomF_go (l : Int) (x : Int) (r : List Int) (h1 : 0 ≤ l) (h2 : x ≤ l) : roomF l (x :: r) = roomF (l - x) r := if_neg (by omega)

theorem roomF_facts (xs : List Int) : ∀ l, (∀ x ∈ xs, 0 ≤ x) → -1 ≤ l → -1 ≤ roomF l xs ∧ roomF l xs ≤ max l (-1) ∧ (0 ≤ roomF l xs → 0 ≤ l ∧ ∀ x ∈ xs, x ≤ l) := by
  induction xs with
  | nil => intro l _ hl; simp only [roomF]; exact ⟨hl, by omega, fun h => ⟨h, by simp⟩⟩
  | cons x r ih =>
    intro l hx hl
    by_cases h : l < 0 ∨ l < x
    · rw [roomF_neg l x r h]; exact ⟨by omega, by omega, fun h => absurd h (by omega)⟩
    · rw [roomF_go l x r (by omega) (by omega)]
      have h0 := hx x (by simp)
      obtain ⟨h1, h2, h3⟩ := ih (l - x) (fun y hy => hx y (by simp [hy])) (by omega)
      refine ⟨h1, by omega, fun h4 => ⟨by omega, fun y hy => ?_⟩⟩
      rcases List.mem_cons.1 hy with e | e
      · omega
      · have := (h3 h4).2 y e; omega

theorem roomF_one (l x : Int) (h : 0 ≤ roomF l [x]) : roomF l [x] = l - x ∧ 0 ≤ l := by
  by_cases h1 : l < 0 ∨ l < x
  · rw [roomF_neg l x [] h1] at h; omega
  · rw [roomF_go l x [] (by omega) (by omega)]; exact ⟨rfl, by omega⟩

theorem drop_next {α : Type} {xs : List α} {k : Nat} {x : α} (h : xs[k]? = some x) : xs.drop k = x :: xs.drop (k + 1) := by
  have hk : k < xs.length := by
    rcases Nat.lt_or_ge k xs.length with h1 | h1
    · exact h1
    · rw [List.getElem?_eq_none h1] at h; cases h
  rw [List.drop_eq_getElem_cons hk]
  rw [List.getElem?_eq_getElem hk] at h
  injection h with h
  rw [h]

theorem slice_drew {w : World} {B : Option Addr} {vs : List Value} {S : Nat → Prop} (h : SliceAt w B vs S) : SliceAt w.drew B vs S := h

/-- A slice that is read: m elements us. -/
def Src (w : World) (A : Option Addr) (m : Nat) (us : List Value) : Prop :=
  us.length = m ∧ (0 < m → ∃ b off, A = some ⟨b, off, none⟩ ∧ b < w.heap.size ∧ ∀ i u, us[i]? = some u → w.cell? ⟨b, off + i, none⟩ = some u)

theorem Src.keep {w w' : World} {A : Option Addr} {m : Nat} {us : List Value} (h : Src w A m us) (k : Keep (fun _ => False) w w') : Src w' A m us :=
  ⟨h.1, fun h0 => by
    obtain ⟨b, off, e, hb, hc⟩ := h.2 h0
    exact ⟨b, off, e, Nat.lt_of_lt_of_le hb k.size, fun i u hu => (k.cell (p := ⟨b, off + i, none⟩) hb (fun x => x)).trans (hc i u hu)⟩⟩

theorem Src.below {w w' : World} {A : Option Addr} {m : Nat} {us : List Value} (h : Src w A m us) (k : Below w.heap.size w w') : Src w' A m us := h.keep (Keep.of_below _ k)

theorem src_ints {w : World} {A : Option Addr} {n : Nat} {xs : List Int} (h : Ints w A n xs) : Src w A n (xs.map (Value.int .i64)) :=
  ⟨by rw [List.length_map]; exact h.1, fun h0 => by
    obtain ⟨b, off, e, hb, hc⟩ := h.2.1 h0
    refine ⟨b, off, e, hb, fun i u hu => ?_⟩
    rw [List.getElem?_map] at hu
    obtain ⟨x, hx, rfl⟩ := Option.map_eq_some_iff.1 hu
    exact hc i x hx⟩

theorem src_strs {w : World} {A : Option Addr} {n : Nat} {xs : List ByteArray} (h : Strs w A n xs) : Src w A n (xs.map Value.string) :=
  ⟨by rw [List.length_map]; exact h.1, fun h0 => by
    obtain ⟨b, off, e, hb, hc⟩ := h.2.1 h0
    refine ⟨b, off, e, hb, fun i u hu => ?_⟩
    rw [List.getElem?_map] at hu
    obtain ⟨x, hx, rfl⟩ := Option.map_eq_some_iff.1 hu
    exact hc i x hx⟩

/-- append(nil, l...): a new row, or nil. -/
theorem run_copy_src {P : Program} (w : World) (t ty e : TypeId) (i : TypeInfo) (z : Value) (bytes : Nat) (ht : P.underlying t = some (.slice e)) (hi : P.info? e = some i) (hz : i.zero = some z)
    (hsize : i.size = 1) (hby : i.bytes = bytes) (hzs : z.cells.size = 1) (A : Option Addr) (m c : Nat) (us : List Value) (hs : Src w A m us) (h1 : ∀ u ∈ us, u.oneCell' = true)
    (h63 : m ≤ maxLen) (hbytes : m * bytes ≤ 140737488355328) :
    ∃ v' w', (Builtin.append_ #[t, t] ty #[.slice none 0 0, .slice A m c]).run P w = .ok v' w' ∧ w'.ownsRow w.heap.size e 1 v' m us ∧ Below w.heap.size w w' := by
  rcases Nat.eq_zero_or_pos m with h0 | h0
  · subst h0
    have hn : us = [] := List.eq_nil_of_length_eq_zero hs.1
    subst hn
    rcases A with _ | ad
    · refine ⟨.slice none 0 0, w, ?_, World.ownsRow_nil _ _ _ _, Below.refl _ _⟩
      simp [Builtin.append_, run_underlying ht, sizeOf, typeInfo, hi, Builtin.lenOf, Builtin.firstCells]
    · obtain ⟨v', w', hr, h2, h3, _⟩ := run_append_own (P := P) w w.heap.size t ty e i z 1 bytes ht hi hz hsize hby hzs (by omega) (.slice none 0 0) 0 [] (World.ownsRow_nil _ _ _ _) ad 0 c [] rfl (fun j u hj => by simp at hj) (fun u hu => by simp at hu) (by unfold maxLen; omega) (by omega) (Nat.le_refl _)
      exact ⟨v', w', hr, by simpa using h2, (Below.refl _ _).grown h3 (Nat.le_refl _) (fun k hk => by simp [Value.ownBlock] at hk)⟩
  · obtain ⟨b, off, rfl, hb, hc⟩ := hs.2 h0
    obtain ⟨v', w', hr, h2, h3, _⟩ := run_append_own (P := P) w w.heap.size t ty e i z 1 bytes ht hi hz hsize hby hzs (by omega) (.slice none 0 0) 0 [] (World.ownsRow_nil _ _ _ _) ⟨b, off, none⟩ m c us (by rw [hs.1]; omega) (fun j u hj => by rw [add_mk]; exact hc j u hj) h1 (by omega) (by rw [Nat.zero_add]; exact hbytes) (Nat.le_refl _)
    exact ⟨v', w', hr, by simpa using h2, (Below.refl _ _).grown h3 (Nat.le_refl _) (fun k hk => by simp [Value.ownBlock] at hk)⟩

/-- A list that was lent: it may be written; behind it stands a mark. -/
def Lent (w : World) (e : TypeId) (g c : Nat) (us : List Value) (mark : Value) : Prop := w.ownsRow 0 e 1 (.slice (some ⟨g, 0, none⟩) (us.length + 1) c) (us.length + 1) (us ++ [mark])

theorem Lent.keep {S : Nat → Prop} {w w' : World} {e : TypeId} {g c : Nat} {us : List Value} {mark : Value} (h : Lent w e g c us mark) (k : Keep S w w') (hn : ¬ S g) : Lent w' e g c us mark :=
  own_keep h k (fun i hi => by simp [Value.ownBlock] at hi; subst hi; exact hn)

theorem Lent.lt {w : World} {e : TypeId} {g c : Nat} {us : List Value} {mark : Value} (h : Lent w e g c us mark) : g < w.heap.size := (World.ownsRow.lt h g rfl).2

theorem Lent.cells {w : World} {e : TypeId} {g c : Nat} {us : List Value} {mark : Value} (h : Lent w e g c us mark) : ∀ j u, us[j]? = some u → w.cell? ⟨g, j, none⟩ = some u := fun j u hj => by
  have h1 := World.ownsRow.cells h (g := g) rfl j u (by rw [List.getElem?_append_left (List.getElem?_eq_some_iff.1 hj).1]; exact hj)
  rw [add_mk, Nat.zero_add] at h1
  exact h1

theorem Lent.mark {w : World} {e : TypeId} {g c : Nat} {us : List Value} {mark : Value} (h : Lent w e g c us mark) : w.cell? ⟨g, us.length, none⟩ = some mark := by
  have h1 := World.ownsRow.cells h (g := g) rfl us.length mark (by rw [List.getElem?_append_right (Nat.le_refl _)]; simp)
  rw [add_mk, Nat.zero_add] at h1
  exact h1

theorem Lent.cap {w : World} {e : TypeId} {g c : Nat} {us : List Value} {mark : Value} (h : Lent w e g c us mark) : us.length + 1 ≤ c ∧ c ≤ maxLen := by
  rcases h.2 with ⟨h1, _⟩ | ⟨g', cap, cur, h1, _, _, h2, h3, _⟩
  · cases h1
  · injection h1 with _ _ h4
    subst h4
    exact ⟨h2, h3⟩

theorem Lent.src {w : World} {e : TypeId} {g c : Nat} {us : List Value} {mark : Value} (h : Lent w e g c us mark) : Src w (some ⟨g, 0, none⟩) us.length us :=
  ⟨rfl, fun _ => ⟨g, 0, rfl, h.lt, fun i u hu => by rw [Nat.zero_add]; exact h.cells i u hu⟩⟩

theorem Lent.slice {w : World} {e : TypeId} {g c : Nat} {us : List Value} {mark : Value} (h : Lent w e g c us mark) {S : Nat → Prop} (hS : ¬ S g) : SliceAt w (some ⟨g, 0, none⟩) us S :=
  fun _ => ⟨g, 0, rfl, h.lt, hS, fun i u hu => by rw [Nat.zero_add]; exact h.cells i u hu⟩

theorem Lent.ne {w : World} {e t : TypeId} {g c p : Nat} {us : List Value} {mark : Value} {cs : Array Value} (h : Lent w e g c us mark) (hp : w.heap[p]? = some (.cells cs t (0, 0))) (hne : e ≠ t) : g ≠ p := fun x => own_ne h hp hne (by rw [← x]; rfl)

theorem Lent.block {w : World} {e : TypeId} {g c : Nat} {us : List Value} {mark : Value} (h : Lent w e g c us mark) : ∃ cur, w.heap[g]? = some (.cells cur e (0, 0)) := by
  rcases h.2 with ⟨h1, _⟩ | ⟨g', cap, cur, h1, _, hg, _⟩
  · cases h1
  · injection h1 with h2
    injection h2 with h2
    injection h2 with h2
    subst h2
    exact ⟨cur, hg⟩

theorem sum_mem {xs : List ByteArray} {x : ByteArray} (h : x ∈ xs) : x.size ≤ sum xs := by
  induction xs with
  | nil => cases h
  | cons y r ih =>
    have h1 : sum (y :: r) = y.size + sum r := by simp [sum]
    rcases List.mem_cons.1 h with e | e
    · rw [e, h1]; omega
    · have := ih e; omega

theorem mk_add (a b : List UInt8) : (⟨a.toArray⟩ : ByteArray) ++ ⟨b.toArray⟩ = ⟨(a ++ b).toArray⟩ := by
  apply ByteArray.ext
  simp

theorem mk_add' (a : List UInt8) (s : ByteArray) : (⟨a.toArray⟩ : ByteArray) ++ s = ⟨(a ++ s.data.toList).toArray⟩ := by
  rw [← mk_add, mk_data]

/-- All texts, one behind the other. -/
def joinL (xs : List ByteArray) : List UInt8 := xs.flatMap fun s => s.data.toList

theorem joinL_snoc (xs : List ByteArray) (x : ByteArray) : joinL (xs ++ [x]) = joinL xs ++ x.data.toList := by simp [joinL]

theorem joinL_len (xs : List ByteArray) : (joinL xs).length = sum xs := by
  induction xs with
  | nil => rfl
  | cons x r ih =>
    have : joinL (x :: r) = x.data.toList ++ joinL r := by simp [joinL]
    rw [this, List.length_append, ih, ← Lib.size_eq]
    simp [sum]

end Go.Proofs.YtnminmaklbhakaaGreatDoor
namespace Go.Proofs.YtnminmaklbhakaaGreatDoor
set_option linter.unusedVariables false
open Go.RowKit

/-- A kept slice: nil, or a row. -/
def Buf (w : World) (A : Option Addr) (n c : Nat) (xs : List Value) : Prop :=
  (A = none ∧ n = 0 ∧ c = 0 ∧ xs = []) ∨ ∃ b off, A = some ⟨b, off, none⟩ ∧ b < w.heap.size ∧ Row w b off n c xs

namespace Buf
variable {w w' : World} {A : Option Addr} {n c : Nat} {xs : List Value}
theorem nil (w : World) : Buf w none 0 0 [] := .inl ⟨rfl, rfl, rfl, rfl⟩
theorem len (h : Buf w A n c xs) : xs.length = n := by
  rcases h with ⟨_, rfl, _, rfl⟩ | ⟨b, off, _, _, h⟩
  · rfl
  · exact h.len
theorem le (h : Buf w A n c xs) : n ≤ c := by
  rcases h with ⟨_, rfl, _, rfl⟩ | ⟨b, off, _, _, h⟩
  · omega
  · exact h.le
theorem cm (h : Buf w A n c xs) : c ≤ maxLen := by
  rcases h with ⟨_, _, rfl, _⟩ | ⟨b, off, _, _, h⟩
  · unfold maxLen; omega
  · exact h.cm
theorem lt (h : Buf w A n c xs) {k : Nat} (hk : blk A = some k) : k < w.heap.size := by
  rcases h with ⟨rfl, _⟩ | ⟨b, off, rfl, hb, _⟩
  · simp [blk] at hk
  · simp [blk] at hk; omega
theorem keep {S : Nat → Prop} (h : Buf w A n c xs) (k : Keep S w w') (hn : ∀ i, blk A = some i → ¬ S i) : Buf w' A n c xs := by
  rcases h with h | ⟨b, off, rfl, hb, h⟩
  · exact .inl h
  · exact .inr ⟨b, off, rfl, Nat.lt_of_lt_of_le hb k.size, h.keep k (hn b rfl)⟩
theorem drew (h : Buf w A n c xs) : Buf w.drew A n c xs := h.keep (S := fun _ => False) ((Keep.refl _ w).drew) (fun _ _ x => x)
theorem drewN (h : Buf w A n c xs) (k : Nat) : Buf (w.drewN k) A n c xs := h.keep (S := fun _ => False) ((Keep.refl _ w).drewN k) (fun _ _ x => x)
theorem some_of (h : Buf w A n c xs) (h0 : 0 < n) : ∃ b off, A = some ⟨b, off, none⟩ ∧ b < w.heap.size ∧ Row w b off n c xs := by
  rcases h with ⟨_, rfl, _⟩ | h
  · omega
  · exact h
/-- What an own row is. -/
theorem of_own {base : Nat} {e : TypeId} (h : w.ownsRow base e 1 (.slice A n c) n xs) : Buf w A n c xs := by
  rcases h.2 with ⟨h1, h2⟩ | ⟨g, cap, cur, h1, _, hg, q1, q2, q3, q4⟩
  · injection h1 with hA hn hc
    subst hA hn hc
    exact .inl ⟨rfl, rfl, rfl, List.eq_nil_of_length_eq_zero (by have := h.1; omega)⟩
  · injection h1 with hA hn hc
    subst hA hc
    have hcs : cur.size = c := by simpa using q3
    have hr := Row.of_block (n := n) hg (.inl (Nat.le_refl _)) (by omega) (by omega)
    rw [hcs] at hr
    have htk : cur.toList.take n = xs := by simpa using q4
    rw [htk] at hr
    exact .inr ⟨g, 0, rfl, lt_heap hg, hr⟩
end Buf

/-- The rows of a slice: from k on. -/
theorem Row.drop {w : World} {b off n cap : Nat} {xs : List Value} (h : Row w b off n cap xs) (k : Nat) (hk : k ≤ n) : Row w b (off + k) (n - k) (cap - k) (xs.drop k) :=
  ⟨by rw [List.length_drop, h.len], by have := h.le; omega, by have := h.cm; omega,
    fun j u hj => by rw [List.getElem?_drop] at hj; rw [Nat.add_assoc]; exact h.val _ u hj,
    fun j hj => by rw [Nat.add_assoc]; exact h.can _ (by omega)⟩

theorem Row.take {w : World} {b off n cap : Nat} {xs : List Value} (h : Row w b off n cap xs) (k : Nat) (hk : k ≤ n) : Row w b off k cap (xs.take k) :=
  ⟨by rw [List.length_take, h.len]; omega, by have := h.le; omega, h.cm,
    fun j u hj => by
      rw [List.getElem?_take] at hj
      split at hj
      · exact h.val _ u hj
      · exact absurd hj (by simp),
    fun j hj => h.can _ hj⟩

/-- append of a text's bytes to a row that lies anywhere. -/
theorem run_append_row_str {P : Program} (w : World) (t u ty e : TypeId) (i : TypeInfo) (ht : P.underlying t = some (.slice e)) (hu : P.underlying u = some .string) (hi : P.info? e = some i) (hz : i.zero = some (.int .u8 0))
    (hsize : i.size = 1) (hby : i.bytes = 1) {b off n cap : Nat} {xs : List Value} (h : Row w b off n cap xs) (hb : b < w.heap.size) (s : ByteArray)
    (h63 : n + s.size ≤ maxLen) (hbytes : n + s.size ≤ 140737488355328) :
    ∃ b' off' cap' w', (Builtin.append_ #[t, u] ty #[.slice (some ⟨b, off, none⟩) n cap, .string s]).run P w = .ok (.slice (some ⟨b', off', none⟩) (n + s.size) cap') w' ∧
      Row w' b' off' (n + s.size) cap' (xs ++ Lib.strCells s) ∧ Keep (· = b) w w' ∧ (b' = b ∨ w.heap.size ≤ b') ∧ b' < w'.heap.size := by
  have hl := Lib.strCells_length s
  by_cases hroom : n + s.size ≤ cap
  · have hf := Lib.run_firstCells_string (P := P) w 1 s
    have hst := run_storeCells_cells (P := P) b (off + n) (Lib.strCells s) 0 w (fun j hj => by rw [Nat.add_zero, Nat.add_assoc]; exact (h.can (n + j) (by omega)).1) (fun j hj => by rw [Nat.add_zero, Nat.add_assoc]; exact (h.can (n + j) (by omega)).2) (Lib.strCells_oneCell s)
    simp only [Nat.add_zero] at hst
    have hr : (Builtin.append_ #[t, u] ty #[.slice (some ⟨b, off, none⟩) n cap, .string s]).run P w = .ok (.slice (some ⟨b, off, none⟩) (n + s.size) cap) (w.setCells b (off + n) (Lib.strCells s)) := by
      simp [Builtin.append_, run_underlying ht, run_underlying hu, sizeOf, typeInfo, hi, hsize, Builtin.lenOf, hroom, hf, Addr.add_lit, hst]
    refine ⟨b, off, cap, _, hr, ⟨by rw [List.length_append, h.len, hl], hroom, h.cm, fun j v hj => ?_, fun j hj => ?_⟩, keep_setCells (S := fun x => x = b) b (fun _ => rfl) _ _ _ (Keep.refl _ w), .inl rfl, ?_⟩
    · by_cases hjn : j < n
      · rw [List.getElem?_append_left (by rw [h.len]; exact hjn)] at hj
        rw [World.cell?_setCells_out _ _ _ _ _ (fun _ _ => .inl (by simp; omega))]
        exact h.val j v hj
      · rw [List.getElem?_append_right (by rw [h.len]; omega), h.len] at hj
        have hjm : j - n < (Lib.strCells s).length := by
          rcases Nat.lt_or_ge (j - n) (Lib.strCells s).length with x | x
          · exact x
          · rw [List.getElem?_eq_none x] at hj; cases hj
        have := World.cell?_setCells_in b (Lib.strCells s) (off + n) w (fun k hk => by rw [Nat.add_assoc]; exact (h.can (n + k) (by omega)).1) (j - n) hjm
        rw [show off + n + (j - n) = off + j from by omega] at this
        rw [this]
        rw [List.getElem?_eq_getElem hjm] at hj
        exact hj
    · rw [World.frozen?_setCells]
      refine ⟨?_, (h.can j hj).2⟩
      by_cases hin : n ≤ j ∧ j < n + (Lib.strCells s).length
      · have := World.cell?_setCells_in b (Lib.strCells s) (off + n) w (fun k hk => by rw [Nat.add_assoc]; exact (h.can (n + k) (by omega)).1) (j - n) (by omega)
        rw [show off + n + (j - n) = off + j from by omega] at this
        rw [this]; rfl
      · rw [World.cell?_setCells_out _ _ _ _ _ (fun _ _ => by simp; omega)]
        exact (h.can j hj).1
    · exact Nat.lt_of_lt_of_le hb (keep_setCells (S := fun x => x = b) b (fun _ => rfl) _ _ _ (Keep.refl _ w)).size
  · have hsm : n + s.size ≤ 9223372036854775807 := by simp only [maxLen] at h63; omega
    have hr := Lib.run_append_grow_string (P := P) w t u ty e i (.int .u8 0) ht hu hi hz ⟨b, off, none⟩ n cap xs (by rw [hsize, h.len]; omega)
      (fun j v hj => by rw [add_mk]; exact h.val j v hj) s (by omega) (by omega) (by rw [hby]; exact growslice_fits (by omega) (by omega))
    have hge := grownCap_ge w (n + s.size) cap e
    have hcm := grownCap_le_maxLen w (n + s.size) cap e h63
    have hsz : (xs.toArray ++ (Lib.strCells s).toArray ++ Builtin.zeroCells (Value.int .u8 0).cells (grownCap w (n + s.size) cap e - (n + s.size))).size = grownCap w (n + s.size) cap e := by
      have := h.len
      have hzs : (Value.int .u8 0).cells.size = 1 := rfl
      simp only [Array.size_append, List.size_toArray, size_zeroCells, hzs, hl]
      omega
    have hrow := Row.of_block (heap_alloc_new w.drew (.cells (xs.toArray ++ (Lib.strCells s).toArray ++ Builtin.zeroCells (Value.int .u8 0).cells (grownCap w (n + s.size) cap e - (n + s.size))) e)) (.inl (Nat.le_refl _)) (n := n + s.size) (by rw [hsz]; exact hge) (by rw [hsz]; exact hcm)
    rw [hsz] at hrow
    have htk : (xs.toArray ++ (Lib.strCells s).toArray ++ Builtin.zeroCells (Value.int .u8 0).cells (grownCap w (n + s.size) cap e - (n + s.size))).toList.take (n + s.size) = xs ++ Lib.strCells s := by
      simp only [Array.toList_append]
      rw [List.take_append_of_le_length (by have := h.len; simp; omega), List.take_of_length_le (by have := h.len; simp; omega)]
    rw [htk] at hrow
    exact ⟨_, 0, _, _, hr, hrow, ((Keep.refl _ w).drew).alloc _, .inr (Nat.le_refl _), by simp⟩

/-- append of a text's bytes to what is kept. -/
theorem run_append_buf_str {P : Program} (w : World) (t u ty e : TypeId) (i : TypeInfo) (ht : P.underlying t = some (.slice e)) (hu : P.underlying u = some .string) (hi : P.info? e = some i) (hz : i.zero = some (.int .u8 0))
    (hsize : i.size = 1) (hby : i.bytes = 1) {A : Option Addr} {n cap : Nat} {xs : List Value} (h : Buf w A n cap xs) (s : ByteArray)
    (h63 : n + s.size ≤ maxLen) (hbytes : n + s.size ≤ 140737488355328) :
    ∃ A' cap' w', (Builtin.append_ #[t, u] ty #[.slice A n cap, .string s]).run P w = .ok (.slice A' (n + s.size) cap') w' ∧
      Buf w' A' (n + s.size) cap' (xs ++ Lib.strCells s) ∧ Keep (fun k => blk A = some k) w w' ∧ (∀ k, blk A' = some k → blk A = some k ∨ w.heap.size ≤ k) := by
  rcases h with ⟨rfl, rfl, rfl, rfl⟩ | ⟨b, off, rfl, hb, hr⟩
  · obtain ⟨v', w', h1, h2, h3, h4⟩ := run_append_str_at (P := P) w w.heap.size t u ty e i ht hu hi hz hsize hby (.slice none 0 0) 0 [] (World.ownsRow_nil _ _ _ _) s h63 hbytes (Nat.le_refl _)
    obtain ⟨A', c', rfl, _⟩ := own_form h2
    simp only [ownBlock_slice] at h3 h4
    exact ⟨A', c', w', h1, Buf.of_own h2, (Keep.refl (fun k => blk none = some k) w).grown h3 (fun k hk _ => hk), h4⟩
  · obtain ⟨b', off', cap', w', h1, h2, h3, h4, h5⟩ := run_append_row_str (P := P) w t u ty e i ht hu hi hz hsize hby hr hb s h63 hbytes
    refine ⟨_, cap', w', h1, .inr ⟨b', off', rfl, h5, h2⟩, h3.mono (fun k _ hk => by simp [blk, hk]), fun k hk => ?_⟩
    have hk' : b' = k := by simpa [blk] using hk
    rcases h4 with h4 | h4
    · left; simp [blk]; omega
    · right; omega

/-- At the operation, for the walk. -/
theorem wp_append_buf_str {P : Program} (w : World) {o : Oper} {a : Act} {K : Act → World → Prop} {Q : Exit → Act → World → Prop} (sl x : Operand) (t u : TypeId)
    (ho : o.op = .call { callee := .builtin .append, args := #[sl, x], argTypes := #[t, u] })
    (e : TypeId) (i : TypeInfo) (ht : P.underlying t = some (.slice e)) (hu : P.underlying u = some .string) (hi : P.info? e = some i) (hz : i.zero = some (.int .u8 0))
    (hsize : i.size = 1) (hby : i.bytes = 1)
    {A : Option Addr} {n cap : Nat} {xs : List Value} (hs : a.eval sl = .slice A n cap) (hown : Buf w A n cap xs) (s : ByteArray) (hx : a.eval x = .string s)
    (h63 : n + s.size ≤ maxLen) (hbytes : n + s.size ≤ 140737488355328)
    (h : ∀ A' cap' w', Buf w' A' (n + s.size) cap' (xs ++ Lib.strCells s) → Keep (fun k => blk A = some k) w w' → (∀ k, blk A' = some k → blk A = some k ∨ w.heap.size ≤ k) → K (a.put o.dst (.slice A' (n + s.size) cap')) w') :
    Oper.wp P o a w K Q := by
  obtain ⟨A', cap', w', hr, h2, h3, h4⟩ := run_append_buf_str (P := P) w t u o.type e i ht hu hi hz hsize hby hown s h63 hbytes
  unfold Oper.wp execOp
  simp only [ho, resolve, invoke, builtin, Sem.run_bind, Sem.run_pure, Result.andThen_ok, List.map_toArray, List.map_cons, List.map_nil, hs, hx, hr]
  exact h A' cap' w' h2 h3 h4

theorem wpList_append_buf_str {P : Program} (w : World) {ops : Array Oper} {rest : List Oper} {o : Oper} {a : Act} {Q : Exit → Act → World → Prop} (hgd : o.guard = none) (sl x : Operand) (t u : TypeId)
    (ho : o.op = .call { callee := .builtin .append, args := #[sl, x], argTypes := #[t, u] })
    (e : TypeId) (i : TypeInfo) (ht : P.underlying t = some (.slice e)) (hu : P.underlying u = some .string) (hi : P.info? e = some i) (hz : i.zero = some (.int .u8 0))
    (hsize : i.size = 1) (hby : i.bytes = 1)
    {A : Option Addr} {n cap : Nat} {xs : List Value} (hs : a.eval sl = .slice A n cap) (hown : Buf w A n cap xs) (s : ByteArray) (hx : a.eval x = .string s)
    (h63 : n + s.size ≤ maxLen) (hbytes : n + s.size ≤ 140737488355328)
    (h : ∀ A' cap' w', Buf w' A' (n + s.size) cap' (xs ++ Lib.strCells s) → Keep (fun k => blk A = some k) w w' → (∀ k, blk A' = some k → blk A = some k ∨ w.heap.size ≤ k) → wpList P ops Q rest (a.put o.dst (.slice A' (n + s.size) cap')) w') :
    wpList P ops Q (o :: rest) a w :=
  wpList_plain hgd fun K hK => wp_append_buf_str w sl x t u ho e i ht hu hi hz hsize hby hs hown s hx h63 hbytes fun A' cap' w' h2 h3 h4 => hK _ _ (h A' cap' w' h2 h3 h4)

/-- At a step of a region that draws its order. -/
theorem step_append_buf_str {P : Program} (w : World) {ops : Array Oper} {o : Oper} {a : Act} {K : Act → World → Prop} {Q : Exit → Act → World → Prop} {E : Prop} (hgd : o.guard = none) (sl x : Operand) (t u : TypeId)
    (ho : o.op = .call { callee := .builtin .append, args := #[sl, x], argTypes := #[t, u] })
    (e : TypeId) (i : TypeInfo) (ht : P.underlying t = some (.slice e)) (hu : P.underlying u = some .string) (hi : P.info? e = some i) (hz : i.zero = some (.int .u8 0))
    (hsize : i.size = 1) (hby : i.bytes = 1)
    {A : Option Addr} {n cap : Nat} {xs : List Value} (hs : a.eval sl = .slice A n cap) (hown : Buf w A n cap xs) (s : ByteArray) (hx : a.eval x = .string s)
    (h63 : n + s.size ≤ maxLen) (hbytes : n + s.size ≤ 140737488355328)
    (h : ∀ A' cap' w', Buf w' A' (n + s.size) cap' (xs ++ Lib.strCells s) → Keep (fun k => blk A = some k) w w' → (∀ k, blk A' = some k → blk A = some k ∨ w.heap.size ≤ k) → K (a.put o.dst (.slice A' (n + s.size) cap')) w') :
    if Region.wanted o (yielded ops a.tmps) = true then Oper.wp P o a w K Q else E := by
  have hw : Region.wanted o (yielded ops a.tmps) = true := by simp [Region.wanted, hgd]
  rw [if_pos hw]
  exact wp_append_buf_str w sl x t u ho e i ht hu hi hz hsize hby hs hown s hx h63 hbytes h

/-- string(kept[:k]): its first bytes. -/
theorem run_buf_string {P : Program} {w : World} (src dst e : TypeId) {A : Option Addr} {n cap : Nat} {l : List UInt8} (h : Buf w A n cap (Lib.byteCells l)) (hs : P.underlying src = some (.slice e)) (he : P.underlying e = some (.int .u8)) (hd : P.underlying dst = some .string) (k : Nat) (hk : k ≤ n) :
    (convert src dst (.slice A k cap)).run P w = .ok (.string ⟨(l.take k).toArray⟩) w := by
  rcases h with ⟨rfl, rfl, rfl, hl⟩ | ⟨b, off, rfl, hb, hr⟩
  · have hl' : l = [] := List.eq_nil_of_length_eq_zero (by have := congrArg List.length hl; rwa [Lib.byteCells_length] at this)
    have hk0 : k = 0 := by omega
    subst hl' hk0
    exact Lib.run_convert_nil_bytes w src dst e 0 hs he hd
  · have h2 := hr.take k hk
    rw [show (Lib.byteCells l).take k = Lib.byteCells (l.take k) from by simp [Lib.byteCells]] at h2
    exact run_row_string src dst e h2 hs he hd

end Go.Proofs.YtnminmaklbhakaaGreatDoor
namespace Go.Proofs.YtnminmaklbhakaaGreatDoor
set_option linter.unusedVariables false
open Go.RowKit

theorem run_append_buf_at {P : Program} (w : World) (t ty e : TypeId) (i : TypeInfo) (z : Value) (bytes : Nat) (ht : P.underlying t = some (.slice e)) (hi : P.info? e = some i) (hz : i.zero = some z)
    (hsize : i.size = 1) (hby : i.bytes = bytes) (hzs : z.cells.size = 1) {A : Option Addr} {n cap : Nat} {xs : List Value} (h : Buf w A n cap xs)
    (B : Option Addr) (m c : Nat) (us : List Value) (hs : Src w B m us) (h1 : ∀ u ∈ us, u.oneCell' = true)
    (h63 : n + m ≤ maxLen) (hbytes : (n + m) * bytes ≤ 140737488355328) :
    ∃ A' cap' w', (Builtin.append_ #[t, t] ty #[.slice A n cap, .slice B m c]).run P w = .ok (.slice A' (n + m) cap') w' ∧
      Buf w' A' (n + m) cap' (xs ++ us) ∧ Keep (fun k => blk A = some k) w w' ∧ (A' = A ∨ ((∀ k, blk A' = some k → w.heap.size ≤ k) ∧ Keep (fun _ => False) w w')) := by
  rcases h with ⟨rfl, rfl, rfl, rfl⟩ | ⟨b, off, rfl, hb, hr⟩
  · obtain ⟨v', w', hrun, hown, hbel⟩ := run_copy_src (P := P) w t ty e i z bytes ht hi hz hsize hby hzs B m c us hs h1 (by omega) (by rwa [Nat.zero_add] at hbytes)
    obtain ⟨A', c', rfl, _⟩ := own_form hown
    refine ⟨A', c', w', by rw [Nat.zero_add]; exact hrun, by rw [Nat.zero_add, List.nil_append]; exact Buf.of_own hown, Keep.of_below _ hbel, .inr ⟨fun k hk => ?_, Keep.of_below _ hbel⟩⟩
    exact (hown.lt k (by rw [ownBlock_slice]; exact hk)).1
  · rcases Nat.eq_zero_or_pos m with h0 | h0
    · subst h0
      have hn : us = [] := List.eq_nil_of_length_eq_zero hs.1
      subst hn
      have hle : n + 0 ≤ cap := hr.le
      rcases B with _ | ad
      · refine ⟨some ⟨b, off, none⟩, cap, w, ?_, by rw [List.append_nil]; exact .inr ⟨b, off, rfl, hb, hr⟩, Keep.refl _ _, .inl rfl⟩
        have hle' : n ≤ cap := hr.le
        simp [Builtin.append_, run_underlying ht, sizeOf, typeInfo, hi, Builtin.lenOf, Builtin.firstCells, hle', hsize, storeCells, Result.andThen]
      · obtain ⟨b', off', cap', w', hrun, h2, h3, h4⟩ := run_append_row (P := P) w t ty e i z bytes ht hi hz hsize hby hzs hr ad 0 c [] rfl (fun j u hj => by simp at hj) (fun u hu => by simp at hu) h63 hbytes
        have hb' : b' < w'.heap.size := by
          rcases h4 with h4 | h4
          · rw [h4.1]; exact Nat.lt_of_lt_of_le hb h3.size
          · rcases Nat.eq_zero_or_pos cap' with hc | hc
            · exact absurd hrun (by
                intro hrun
                have hr2 := run_append_room_cells (P := P) w t ty e i ht hi b off n cap ad 0 c [] (by rw [hsize]; rfl) (fun j u hj => by simp at hj) (fun u hu => by simp at hu) hr.le
                  (fun j hj => by simp at hj) (fun j hj => by simp at hj)
                rw [hr2] at hrun
                injection hrun with q1 _
                injection q1 with q1 _ _
                injection q1 with q1
                injection q1 with q1
                omega)
            · exact h2.lt hc
        exact ⟨_, cap', w', hrun, .inr ⟨b', off', rfl, hb', h2⟩, h3.mono (fun k _ hk => by simp [blk, hk]), by
          rcases h4 with ⟨rfl, rfl⟩ | h4
          · exact .inl rfl
          · exact .inr ⟨(fun k hk => (by have hk' : b' = k := (by simpa [blk] using hk); have := h4.1; omega)), h4.2⟩⟩
    · obtain ⟨b2, o2, rfl, hb2, hc2⟩ := hs.2 h0
      obtain ⟨b', off', cap', w', hrun, h2, h3, h4⟩ := run_append_row (P := P) w t ty e i z bytes ht hi hz hsize hby hzs hr ⟨b2, o2, none⟩ m c us hs.1 (fun j u hj => by rw [add_mk]; exact hc2 j u hj) h1 h63 hbytes
      have hb' : b' < w'.heap.size := h2.lt (by have := h2.le; omega)
      exact ⟨_, cap', w', hrun, .inr ⟨b', off', rfl, hb', h2⟩, h3.mono (fun k _ hk => by simp [blk, hk]), by
        rcases h4 with ⟨rfl, rfl⟩ | h4
        · exact .inl rfl
        · exact .inr ⟨(fun k hk => (by have hk' : b' = k := (by simpa [blk] using hk); have := h4.1; omega)), h4.2⟩⟩

theorem blk_or {A A' : Option Addr} {m : Nat} (h : A' = A ∨ ∀ k, blk A' = some k → m ≤ k) : ∀ k, blk A' = some k → blk A = some k ∨ m ≤ k := fun k hk => by
  rcases h with rfl | h
  · exact .inl hk
  · exact .inr (h k hk)

theorem run_append_buf {P : Program} (w : World) (t ty e : TypeId) (i : TypeInfo) (z : Value) (bytes : Nat) (ht : P.underlying t = some (.slice e)) (hi : P.info? e = some i) (hz : i.zero = some z)
    (hsize : i.size = 1) (hby : i.bytes = bytes) (hzs : z.cells.size = 1) {A : Option Addr} {n cap : Nat} {xs : List Value} (h : Buf w A n cap xs)
    (B : Option Addr) (m c : Nat) (us : List Value) (hs : Src w B m us) (h1 : ∀ u ∈ us, u.oneCell' = true)
    (h63 : n + m ≤ maxLen) (hbytes : (n + m) * bytes ≤ 140737488355328) :
    ∃ A' cap' w', (Builtin.append_ #[t, t] ty #[.slice A n cap, .slice B m c]).run P w = .ok (.slice A' (n + m) cap') w' ∧
      Buf w' A' (n + m) cap' (xs ++ us) ∧ Keep (fun k => blk A = some k) w w' ∧ (∀ k, blk A' = some k → blk A = some k ∨ w.heap.size ≤ k) := by
  obtain ⟨A', cap', w', r1, r2, r3, r4⟩ := run_append_buf_at (P := P) w t ty e i z bytes ht hi hz hsize hby hzs h B m c us hs h1 h63 hbytes
  exact ⟨A', cap', w', r1, r2, r3, blk_or (r4.imp id And.left)⟩

/-- At the operation, for the walk. -/
theorem wp_append_buf {P : Program} (w : World) {o : Oper} {a : Act} {K : Act → World → Prop} {Q : Exit → Act → World → Prop} (sl x : Operand) (t : TypeId)
    (ho : o.op = .call { callee := .builtin .append, args := #[sl, x], argTypes := #[t, t] })
    (e : TypeId) (i : TypeInfo) (z : Value) (bytes : Nat) (ht : P.underlying t = some (.slice e)) (hi : P.info? e = some i) (hz : i.zero = some z)
    (hsize : i.size = 1) (hby : i.bytes = bytes) (hzs : z.cells.size = 1)
    {A : Option Addr} {n cap : Nat} {xs : List Value} (hs : a.eval sl = .slice A n cap) (hown : Buf w A n cap xs) {B : Option Addr} {m c : Nat} (us : List Value) (hx : a.eval x = .slice B m c) (hsrc : Src w B m us) (h1 : ∀ u ∈ us, u.oneCell' = true)
    (h63 : n + m ≤ maxLen) (hbytes : (n + m) * bytes ≤ 140737488355328)
    (h : ∀ A' cap' w', Buf w' A' (n + m) cap' (xs ++ us) → Keep (fun k => blk A = some k) w w' → (∀ k, blk A' = some k → blk A = some k ∨ w.heap.size ≤ k) → K (a.put o.dst (.slice A' (n + m) cap')) w') :
    Oper.wp P o a w K Q := by
  obtain ⟨A', cap', w', hr, h2, h3, h4⟩ := run_append_buf (P := P) w t o.type e i z bytes ht hi hz hsize hby hzs hown B m c us hsrc h1 h63 hbytes
  unfold Oper.wp execOp
  simp only [ho, resolve, invoke, builtin, Sem.run_bind, Sem.run_pure, Result.andThen_ok, List.map_toArray, List.map_cons, List.map_nil, hs, hx, hr]
  exact h A' cap' w' h2 h3 h4

theorem wpList_append_buf {P : Program} (w : World) {ops : Array Oper} {rest : List Oper} {o : Oper} {a : Act} {Q : Exit → Act → World → Prop} (hgd : o.guard = none) (sl x : Operand) (t : TypeId)
    (ho : o.op = .call { callee := .builtin .append, args := #[sl, x], argTypes := #[t, t] })
    (e : TypeId) (i : TypeInfo) (z : Value) (bytes : Nat) (ht : P.underlying t = some (.slice e)) (hi : P.info? e = some i) (hz : i.zero = some z)
    (hsize : i.size = 1) (hby : i.bytes = bytes) (hzs : z.cells.size = 1)
    {A : Option Addr} {n cap : Nat} {xs : List Value} (hs : a.eval sl = .slice A n cap) (hown : Buf w A n cap xs) {B : Option Addr} {m c : Nat} (us : List Value) (hx : a.eval x = .slice B m c) (hsrc : Src w B m us) (h1 : ∀ u ∈ us, u.oneCell' = true)
    (h63 : n + m ≤ maxLen) (hbytes : (n + m) * bytes ≤ 140737488355328)
    (h : ∀ A' cap' w', Buf w' A' (n + m) cap' (xs ++ us) → Keep (fun k => blk A = some k) w w' → (∀ k, blk A' = some k → blk A = some k ∨ w.heap.size ≤ k) → wpList P ops Q rest (a.put o.dst (.slice A' (n + m) cap')) w') :
    wpList P ops Q (o :: rest) a w :=
  wpList_plain hgd fun K hK => wp_append_buf w sl x t ho e i z bytes ht hi hz hsize hby hzs hs hown us hx hsrc h1 h63 hbytes fun A' cap' w' h2 h3 h4 => hK _ _ (h A' cap' w' h2 h3 h4)

theorem wpList_append_buf_at {P : Program} (w : World) {ops : Array Oper} {rest : List Oper} {o : Oper} {a : Act} {Q : Exit → Act → World → Prop} (hgd : o.guard = none) (sl x : Operand) (t : TypeId)
    (ho : o.op = .call { callee := .builtin .append, args := #[sl, x], argTypes := #[t, t] })
    (e : TypeId) (i : TypeInfo) (z : Value) (bytes : Nat) (ht : P.underlying t = some (.slice e)) (hi : P.info? e = some i) (hz : i.zero = some z)
    (hsize : i.size = 1) (hby : i.bytes = bytes) (hzs : z.cells.size = 1)
    {A : Option Addr} {n cap : Nat} {xs : List Value} (hs : a.eval sl = .slice A n cap) (hown : Buf w A n cap xs) {B : Option Addr} {m c : Nat} (us : List Value) (hx : a.eval x = .slice B m c) (hsrc : Src w B m us) (h1 : ∀ u ∈ us, u.oneCell' = true)
    (h63 : n + m ≤ maxLen) (hbytes : (n + m) * bytes ≤ 140737488355328)
    (h : ∀ A' cap' w', Buf w' A' (n + m) cap' (xs ++ us) → Keep (fun k => blk A = some k) w w' → (A' = A ∨ ((∀ k, blk A' = some k → w.heap.size ≤ k) ∧ Keep (fun _ => False) w w')) → wpList P ops Q rest (a.put o.dst (.slice A' (n + m) cap')) w') :
    wpList P ops Q (o :: rest) a w := by
  refine wpList_plain hgd fun K hK => ?_
  obtain ⟨A', cap', w', hr, h2, h3, h4⟩ := run_append_buf_at (P := P) w t o.type e i z bytes ht hi hz hsize hby hzs hown B m c us hsrc h1 h63 hbytes
  unfold Oper.wp execOp
  simp only [ho, resolve, invoke, builtin, Sem.run_bind, Sem.run_pure, Result.andThen_ok, List.map_toArray, List.map_cons, List.map_nil, hs, hx, hr]
  exact hK _ _ (h A' cap' w' h2 h3 h4)

/-- At a step of a region that draws its order. -/
theorem step_append_buf {P : Program} (w : World) {ops : Array Oper} {o : Oper} {a : Act} {K : Act → World → Prop} {Q : Exit → Act → World → Prop} {E : Prop} (hgd : o.guard = none) (sl x : Operand) (t : TypeId)
    (ho : o.op = .call { callee := .builtin .append, args := #[sl, x], argTypes := #[t, t] })
    (e : TypeId) (i : TypeInfo) (z : Value) (bytes : Nat) (ht : P.underlying t = some (.slice e)) (hi : P.info? e = some i) (hz : i.zero = some z)
    (hsize : i.size = 1) (hby : i.bytes = bytes) (hzs : z.cells.size = 1)
    {A : Option Addr} {n cap : Nat} {xs : List Value} (hs : a.eval sl = .slice A n cap) (hown : Buf w A n cap xs) {B : Option Addr} {m c : Nat} (us : List Value) (hx : a.eval x = .slice B m c) (hsrc : Src w B m us) (h1 : ∀ u ∈ us, u.oneCell' = true)
    (h63 : n + m ≤ maxLen) (hbytes : (n + m) * bytes ≤ 140737488355328)
    (h : ∀ A' cap' w', Buf w' A' (n + m) cap' (xs ++ us) → Keep (fun k => blk A = some k) w w' → (∀ k, blk A' = some k → blk A = some k ∨ w.heap.size ≤ k) → K (a.put o.dst (.slice A' (n + m) cap')) w') :
    if Region.wanted o (yielded ops a.tmps) = true then Oper.wp P o a w K Q else E := by
  have hw : Region.wanted o (yielded ops a.tmps) = true := by simp [Region.wanted, hgd]
  rw [if_pos hw]
  exact wp_append_buf w sl x t ho e i z bytes ht hi hz hsize hby hzs hs hown us hx hsrc h1 h63 hbytes h

/-- What is kept is read. -/
theorem Buf.src {w : World} {A : Option Addr} {n c : Nat} {xs : List Value} (h : Buf w A n c xs) : Src w A n xs := by
  rcases h with ⟨rfl, rfl, rfl, rfl⟩ | ⟨b, off, rfl, hb, h⟩
  · exact ⟨rfl, fun h => absurd h (by omega)⟩
  · exact ⟨h.len, fun _ => ⟨b, off, rfl, hb, fun i u hu => h.val i u hu⟩⟩

/-- A slice of one element that was just laid. -/
theorem src_one {w : World} (u : Value) (t : TypeId) (g : Nat) (hg : g = w.heap.size) : Src (w.alloc (.cells #[u] t)) (some ⟨g, 0, none⟩) 1 [u] := by
  subst hg
  refine ⟨rfl, fun _ => ⟨_, 0, rfl, by simp, fun i v hv => ?_⟩⟩
  rw [Nat.zero_add, cell_of_row _ _ i _ t (0, 0) (heap_alloc_new w _)]
  simpa using hv

theorem Src.of_keep {S : Nat → Prop} {w w' : World} {A : Option Addr} {m : Nat} {us : List Value} (h : Src w A m us) (k : Keep S w w') (hn : ∀ i, blk A = some i → ¬ S i) : Src w' A m us :=
  ⟨h.1, fun h0 => by
    obtain ⟨b, off, rfl, hb, hc⟩ := h.2 h0
    exact ⟨b, off, rfl, Nat.lt_of_lt_of_le hb k.size, fun i u hu => (k.cell (p := ⟨b, off + i, none⟩) hb (hn b rfl)).trans (hc i u hu)⟩⟩

theorem Src.far {S : Nat → Prop} {w w' : World} {A : Option Addr} {m : Nat} {us : List Value} (h : Src w A m us) (k : Keep S w w') (hn : 0 < m → ∀ i, blk A = some i → ¬ S i) : Src w' A m us := by
  rcases Nat.eq_zero_or_pos m with h0 | h0
  · exact ⟨h.1, fun x => absurd x (by omega)⟩
  · exact h.of_keep k (hn h0)
theorem Src.lt {w : World} {A : Option Addr} {m : Nat} {us : List Value} (h : Src w A m us) (h0 : 0 < m) {i : Nat} (hi : blk A = some i) : i < w.heap.size := by
  obtain ⟨b, o, rfl, hb, _⟩ := h.2 h0
  simp [blk] at hi
  omega

end Go.Proofs.YtnminmaklbhakaaGreatDoor
namespace Go.Proofs.YtnminmaklbhakaaGreatDoor
set_option linter.unusedVariables false
open Go.RowKit

/-- What a call turns of what an object owns; what it owns then is that, or new. -/
def Step (own : Nat → Prop) (w : World) (own' : Nat → Prop) (w' : World) : Prop := Keep own w w' ∧ ∀ k, own' k → own k ∨ w.heap.size ≤ k

theorem Step.refl (own : Nat → Prop) (w : World) : Step own w own w := ⟨Keep.refl _ _, fun _ h => .inl h⟩
theorem Step.trans {o o1 o2 : Nat → Prop} {w w1 w2 : World} (h : Step o w o1 w1) (k : Step o1 w1 o2 w2) : Step o w o2 w2 := by
  refine ⟨h.1.trans k.1 fun i hi hs => ?_, fun j hj => ?_⟩
  · rcases h.2 i hs with h2 | h2
    · exact h2
    · omega
  · rcases k.2 j hj with h2 | h2
    · exact h.2 j h2
    · exact .inr (Nat.le_trans h.1.size h2)
theorem Step.of_keep {own S : Nat → Prop} {w w' : World} (h : Keep S w w') (hs : ∀ i, S i → own i) : Step own w own w' := ⟨h.mono fun i _ x => hs i x, fun _ x => .inl x⟩
theorem Step.drewN {own own' : Nat → Prop} {w w' : World} (h : Step own w own' w') (n : Nat) : Step own w own' (w'.drewN n) := ⟨h.1.drewN n, h.2⟩
/-- What two objects own together. -/
theorem Step.both {o o1 p p1 : Nat → Prop} {w w1 w2 : World} (h : Step o w o1 w1) (k : Step p w1 p1 w2) (hp : ∀ i, p i → i < w.heap.size) : Step (fun i => o i ∨ p i) w (fun i => o1 i ∨ p1 i) w2 := by
  refine ⟨(h.1.mono (S' := fun i => o i ∨ p i) (fun _ _ x => .inl x)).trans k.1 (fun i hi x => .inr x), fun j hj => ?_⟩
  rcases hj with hj | hj
  · exact (h.2 j hj).imp .inl id
  · rcases k.2 j hj with x | x
    · exact .inl (.inr x)
    · exact .inr (Nat.le_trans h.1.size x)

/-- A cell that may be set. -/
def Cell (w : World) (b o : Nat) (v : Value) : Prop := w.cell? ⟨b, o, none⟩ = some v ∧ w.frozen? ⟨b, o, none⟩ = false

theorem Cell.lt {w : World} {b o : Nat} {v : Value} (h : Cell w b o v) : b < w.heap.size := World.block_lt_of_cell? w _ h.1
theorem Cell.keep {S : Nat → Prop} {w w' : World} {b o : Nat} {v : Value} (h : Cell w b o v) (k : Keep S w w') (hn : ¬ S b) : Cell w' b o v :=
  ⟨(k.cell (p := ⟨b, o, none⟩) h.lt hn).trans h.1, (k.frozen (p := ⟨b, o, none⟩) h.lt hn).trans h.2⟩
theorem Cell.alloc {w : World} {b o : Nat} {v : Value} (h : Cell w b o v) (x : Obj) : Cell (w.alloc x) b o v := h.keep (S := fun _ => False) ((Keep.refl _ w).alloc x) (fun y => y)
theorem Cell.drew {w : World} {b o : Nat} {v : Value} (h : Cell w b o v) : Cell w.drew b o v := h
theorem Cell.drewN {w : World} {b o : Nat} {v : Value} (h : Cell w b o v) (n : Nat) : Cell (w.drewN n) b o v := h
theorem Cell.set {w : World} {b o : Nat} {v : Value} (h : Cell w b o v) (u : Value) : Cell (w.setCell ⟨b, o, none⟩ u) b o u := ⟨World.cell?_setCell_same _ _ _ h.1, by simp [h.2]⟩
theorem Cell.far {w : World} {b o : Nat} {v : Value} (h : Cell w b o v) {k i : Nat} (hn : ¬ (k = b ∧ i = o)) (u : Value) : Cell (w.setCell ⟨k, i, none⟩ u) b o v :=
  ⟨(World.cell?_setCell_other _ ⟨k, i, none⟩ ⟨b, o, none⟩ _ (by simp; omega)).trans h.1, by simp [h.2]⟩
theorem cell_in {w : World} {p : Nat} {cs : Array Value} {t : TypeId} (h : w.heap[p]? = some (.cells cs t (0, 0))) (i : Nat) {v : Value} (hv : cs[i]? = some v) : Cell w p i v := ⟨(cell_at h i).trans hv, free_at h i⟩
theorem Cell.box {w : World} {cs : Array Value} {t : TypeId} (i : Nat) {v : Value} (hv : cs[i]? = some v) : Cell (w.alloc (.cells cs t)) w.heap.size i v := cell_in (heap_alloc_new w _) i hv

end Go.Proofs.YtnminmaklbhakaaGreatDoor
namespace Go.Proofs.YtnminmaklbhakaaGreatDoor
set_option linter.unusedVariables false
open Go.RowKit

theorem own_at {P : Program} (w : World) (base : Nat) (t ty e : TypeId) (i : TypeInfo) (z : Value) (size bytes : Nat) (ht : P.underlying t = some (.slice e)) (hi : P.info? e = some i) (hz : i.zero = some z)
    (hsize : i.size = size) (hby : i.bytes = bytes) (hzs : z.cells.size = size) (hsz : 0 < size) (v : Value) (n : Nat) (xs : List Value) (hown : w.ownsRow base e size v n xs)
    (a : Addr) (m c : Nat) (news : List Value) (hl : news.length = m * size) (hnews : ∀ j u, news[j]? = some u → w.cell? (a.add j) = some u) (h1 : ∀ u ∈ news, u.oneCell' = true)
    (h63 : n + m ≤ maxLen) (hbytes : (n + m) * bytes ≤ 140737488355328) (hbase : base ≤ w.heap.size) :
    ∃ v' w', (Builtin.append_ #[t, t] ty #[v, .slice (some a) m c]).run P w = .ok v' w' ∧ w'.ownsRow base e size v' (n + m) (xs ++ news) ∧ Keep (fun k => v.ownBlock = some k) w w' ∧ (∀ k, v'.ownBlock = some k → v.ownBlock = some k ∨ w.heap.size ≤ k) := by
  obtain ⟨v', w', hr, h2, h3, _, h5⟩ := run_append_own_at (P := P) w base t ty e i z size bytes ht hi hz hsize hby hzs hsz v n xs hown a m c news hl hnews h1 h63 hbytes hbase
  refine ⟨v', w', hr, h2, (Keep.refl (fun k => v.ownBlock = some k) w).grown h3 (fun k hk _ => hk), fun k hk => ?_⟩
  rcases h5 with h5 | h5
  · exact .inl (h5 ▸ hk)
  · rw [h5] at hk
    injection hk with hk
    exact .inr (by omega)

theorem wp_own_at {P : Program} (w : World) {o : Oper} {a : Act} {K : Act → World → Prop} {Q : Exit → Act → World → Prop} (sl x : Operand) (t : TypeId)
    (ho : o.op = .call { callee := .builtin .append, args := #[sl, x], argTypes := #[t, t] })
    (base : Nat) (e : TypeId) (i : TypeInfo) (z : Value) (size bytes : Nat) (ht : P.underlying t = some (.slice e)) (hi : P.info? e = some i) (hz : i.zero = some z)
    (hsize : i.size = size) (hby : i.bytes = bytes) (hzs : z.cells.size = size) (hsz : 0 < size)
    (v : Value) (n : Nat) (xs : List Value) (hs : a.eval sl = v) (hown : w.ownsRow base e size v n xs)
    (ad : Addr) (m c : Nat) (news : List Value) (hx : a.eval x = .slice (some ad) m c) (hl : news.length = m * size) (hnews : ∀ j u, news[j]? = some u → w.cell? (ad.add j) = some u) (h1 : ∀ u ∈ news, u.oneCell' = true)
    (h63 : n + m ≤ maxLen) (hbytes : (n + m) * bytes ≤ 140737488355328) (hbase : base ≤ w.heap.size)
    (h : ∀ v' w', w'.ownsRow base e size v' (n + m) (xs ++ news) → Keep (fun k => v.ownBlock = some k) w w' → (∀ k, v'.ownBlock = some k → v.ownBlock = some k ∨ w.heap.size ≤ k) → K (a.put o.dst v') w') :
    Oper.wp P o a w K Q := by
  obtain ⟨v', w', hr, h2, h3, h4⟩ := own_at (P := P) w base t o.type e i z size bytes ht hi hz hsize hby hzs hsz v n xs hown ad m c news hl hnews h1 h63 hbytes hbase
  unfold Oper.wp execOp
  simp only [ho, resolve, invoke, builtin, Sem.run_bind, Sem.run_pure, Result.andThen_ok, List.map_toArray, List.map_cons, List.map_nil, hs, hx, hr]
  exact h v' w' h2 h3 h4

theorem wpList_own_at {P : Program} (w : World) {ops : Array Oper} {rest : List Oper} {o : Oper} {a : Act} {Q : Exit → Act → World → Prop} (hgd : o.guard = none) (sl x : Operand) (t : TypeId)
    (ho : o.op = .call { callee := .builtin .append, args := #[sl, x], argTypes := #[t, t] })
    (base : Nat) (e : TypeId) (i : TypeInfo) (z : Value) (size bytes : Nat) (ht : P.underlying t = some (.slice e)) (hi : P.info? e = some i) (hz : i.zero = some z)
    (hsize : i.size = size) (hby : i.bytes = bytes) (hzs : z.cells.size = size) (hsz : 0 < size)
    (v : Value) (n : Nat) (xs : List Value) (hs : a.eval sl = v) (hown : w.ownsRow base e size v n xs)
    (ad : Addr) (m c : Nat) (news : List Value) (hx : a.eval x = .slice (some ad) m c) (hl : news.length = m * size) (hnews : ∀ j u, news[j]? = some u → w.cell? (ad.add j) = some u) (h1 : ∀ u ∈ news, u.oneCell' = true)
    (h63 : n + m ≤ maxLen) (hbytes : (n + m) * bytes ≤ 140737488355328) (hbase : base ≤ w.heap.size)
    (h : ∀ v' w', w'.ownsRow base e size v' (n + m) (xs ++ news) → Keep (fun k => v.ownBlock = some k) w w' → (∀ k, v'.ownBlock = some k → v.ownBlock = some k ∨ w.heap.size ≤ k) → wpList P ops Q rest (a.put o.dst v') w') :
    wpList P ops Q (o :: rest) a w :=
  wpList_plain hgd fun K hK => wp_own_at w sl x t ho base e i z size bytes ht hi hz hsize hby hzs hsz v n xs hs hown ad m c news hx hl hnews h1 h63 hbytes hbase fun v' w' h2 h3 h4 => hK _ _ (h v' w' h2 h3 h4)

/-- At a step of a region that draws its order. -/
theorem step_own_at {P : Program} (w : World) {ops : Array Oper} {o : Oper} {a : Act} {K : Act → World → Prop} {Q : Exit → Act → World → Prop} {E : Prop} (hgd : o.guard = none) (sl x : Operand) (t : TypeId)
    (ho : o.op = .call { callee := .builtin .append, args := #[sl, x], argTypes := #[t, t] })
    (base : Nat) (e : TypeId) (i : TypeInfo) (z : Value) (size bytes : Nat) (ht : P.underlying t = some (.slice e)) (hi : P.info? e = some i) (hz : i.zero = some z)
    (hsize : i.size = size) (hby : i.bytes = bytes) (hzs : z.cells.size = size) (hsz : 0 < size)
    (v : Value) (n : Nat) (xs : List Value) (hs : a.eval sl = v) (hown : w.ownsRow base e size v n xs)
    (ad : Addr) (m c : Nat) (news : List Value) (hx : a.eval x = .slice (some ad) m c) (hl : news.length = m * size) (hnews : ∀ j u, news[j]? = some u → w.cell? (ad.add j) = some u) (h1 : ∀ u ∈ news, u.oneCell' = true)
    (h63 : n + m ≤ maxLen) (hbytes : (n + m) * bytes ≤ 140737488355328) (hbase : base ≤ w.heap.size)
    (h : ∀ v' w', w'.ownsRow base e size v' (n + m) (xs ++ news) → Keep (fun k => v.ownBlock = some k) w w' → (∀ k, v'.ownBlock = some k → v.ownBlock = some k ∨ w.heap.size ≤ k) → K (a.put o.dst v') w') :
    if Region.wanted o (yielded ops a.tmps) = true then Oper.wp P o a w K Q else E := by
  have hw : Region.wanted o (yielded ops a.tmps) = true := by simp [Region.wanted, hgd]
  rw [if_pos hw]
  exact wp_own_at w sl x t ho base e i z size bytes ht hi hz hsize hby hzs hsz v n xs hs hown ad m c news hx hl hnews h1 h63 hbytes hbase h

/-- Cells that were just laid, in a new block. -/
theorem cells_new (w : World) (xs : List Value) (t : TypeId) (g : Nat) (hg : g = w.heap.size) : ∀ j u, xs[j]? = some u → (w.alloc (.cells xs.toArray t)).cell? ((⟨g, 0, none⟩ : Addr).add j) = some u := by
  subst hg
  intro j u hj
  rw [add_mk, Nat.zero_add, cell_of_row _ _ j _ t (0, 0) (heap_alloc_new w _)]
  simpa using hj

/-- append of all of another such row. -/
theorem own_more {P : Program} (w : World) (base base2 : Nat) (t ty e : TypeId) (i : TypeInfo) (z : Value) (size bytes : Nat) (ht : P.underlying t = some (.slice e)) (hi : P.info? e = some i) (hz : i.zero = some z)
    (hsize : i.size = size) (hby : i.bytes = bytes) (hzs : z.cells.size = size) (hsz : 0 < size) (v v2 : Value) (n m : Nat) (xs ys : List Value) (hown : w.ownsRow base e size v n xs) (hown2 : w.ownsRow base2 e size v2 m ys) (h1 : ∀ u ∈ ys, u.oneCell' = true)
    (h63 : n + m ≤ maxLen) (hbytes : (n + m) * bytes ≤ 140737488355328) (hbase : base ≤ w.heap.size) :
    ∃ v' w', (Builtin.append_ #[t, t] ty #[v, v2]).run P w = .ok v' w' ∧ w'.ownsRow base e size v' (n + m) (xs ++ ys) ∧ Keep (fun k => v.ownBlock = some k) w w' ∧ (∀ k, v'.ownBlock = some k → v.ownBlock = some k ∨ w.heap.size ≤ k) := by
  rcases hown2.2 with ⟨rfl, rfl⟩ | ⟨g, cap, cur, rfl, _⟩
  · have hy : ys = [] := List.eq_nil_of_length_eq_zero (by simpa using hown2.1)
    subst hy
    exact ⟨v, w, run_append_owned_none (P := P) (w := w) base t ty e i size ht hi v n xs hown, by rw [List.append_nil]; exact hown, Keep.refl _ _, fun k hk => .inl hk⟩
  · exact own_at w base t ty e i z size bytes ht hi hz hsize hby hzs hsz v n xs hown ⟨g, 0, none⟩ m cap ys hown2.1 (fun j u hj => hown2.cells rfl j u hj) h1 h63 hbytes hbase

theorem wp_own_more {P : Program} (w : World) {o : Oper} {a : Act} {K : Act → World → Prop} {Q : Exit → Act → World → Prop} (sl x : Operand) (t : TypeId)
    (ho : o.op = .call { callee := .builtin .append, args := #[sl, x], argTypes := #[t, t] })
    (base base2 : Nat) (e : TypeId) (i : TypeInfo) (z : Value) (size bytes : Nat) (ht : P.underlying t = some (.slice e)) (hi : P.info? e = some i) (hz : i.zero = some z)
    (hsize : i.size = size) (hby : i.bytes = bytes) (hzs : z.cells.size = size) (hsz : 0 < size)
    (v v2 : Value) (n m : Nat) (xs ys : List Value) (hs : a.eval sl = v) (hx : a.eval x = v2) (hown : w.ownsRow base e size v n xs) (hown2 : w.ownsRow base2 e size v2 m ys) (h1 : ∀ u ∈ ys, u.oneCell' = true)
    (h63 : n + m ≤ maxLen) (hbytes : (n + m) * bytes ≤ 140737488355328) (hbase : base ≤ w.heap.size)
    (h : ∀ v' w', w'.ownsRow base e size v' (n + m) (xs ++ ys) → Keep (fun k => v.ownBlock = some k) w w' → (∀ k, v'.ownBlock = some k → v.ownBlock = some k ∨ w.heap.size ≤ k) → K (a.put o.dst v') w') :
    Oper.wp P o a w K Q := by
  obtain ⟨v', w', hr, h2, h3, h4⟩ := own_more (P := P) w base base2 t o.type e i z size bytes ht hi hz hsize hby hzs hsz v v2 n m xs ys hown hown2 h1 h63 hbytes hbase
  unfold Oper.wp execOp
  simp only [ho, resolve, invoke, builtin, Sem.run_bind, Sem.run_pure, Result.andThen_ok, List.map_toArray, List.map_cons, List.map_nil, hs, hx, hr]
  exact h v' w' h2 h3 h4

theorem wpList_own_more {P : Program} (w : World) {ops : Array Oper} {rest : List Oper} {o : Oper} {a : Act} {Q : Exit → Act → World → Prop} (hgd : o.guard = none) (sl x : Operand) (t : TypeId)
    (ho : o.op = .call { callee := .builtin .append, args := #[sl, x], argTypes := #[t, t] })
    (base base2 : Nat) (e : TypeId) (i : TypeInfo) (z : Value) (size bytes : Nat) (ht : P.underlying t = some (.slice e)) (hi : P.info? e = some i) (hz : i.zero = some z)
    (hsize : i.size = size) (hby : i.bytes = bytes) (hzs : z.cells.size = size) (hsz : 0 < size)
    (v v2 : Value) (n m : Nat) (xs ys : List Value) (hs : a.eval sl = v) (hx : a.eval x = v2) (hown : w.ownsRow base e size v n xs) (hown2 : w.ownsRow base2 e size v2 m ys) (h1 : ∀ u ∈ ys, u.oneCell' = true)
    (h63 : n + m ≤ maxLen) (hbytes : (n + m) * bytes ≤ 140737488355328) (hbase : base ≤ w.heap.size)
    (h : ∀ v' w', w'.ownsRow base e size v' (n + m) (xs ++ ys) → Keep (fun k => v.ownBlock = some k) w w' → (∀ k, v'.ownBlock = some k → v.ownBlock = some k ∨ w.heap.size ≤ k) → wpList P ops Q rest (a.put o.dst v') w') :
    wpList P ops Q (o :: rest) a w :=
  wpList_plain hgd fun K hK => wp_own_more w sl x t ho base base2 e i z size bytes ht hi hz hsize hby hzs hsz v v2 n m xs ys hs hx hown hown2 h1 h63 hbytes hbase fun v' w' h2 h3 h4 => hK _ _ (h v' w' h2 h3 h4)

theorem own_base {w : World} {base b2 e size n : Nat} {v : Value} {xs : List Value} (h : w.ownsRow base e size v n xs) (hb : b2 ≤ base) : w.ownsRow b2 e size v n xs := ⟨h.1, by
  rcases h.2 with q | ⟨g, cap, cur, q1, q2, q3⟩
  · exact .inl q
  · exact .inr ⟨g, cap, cur, q1, Nat.le_trans hb q2, q3⟩⟩

end Go.Proofs.YtnminmaklbhakaaGreatDoor
namespace Go.Proofs.YtnminmaklbhakaaGreatDoor
set_option linter.unusedVariables false
open Go.RowKit

theorem byte_info : (Tryz.prog.info? 5).map (fun i => (i.zero, i.size, i.bytes)) = some (some (.int .u8 0), 1, 1) := by kernel_rfl

end Go.Proofs.YtnminmaklbhakaaGreatDoor
namespace Go.Proofs.YtnminmaklbhakaaGreatDoor
set_option linter.unusedVariables false
open Go.RowKit

theorem string_info : (Tryz.prog.info? 9).map (fun i => (i.zero, i.size, i.bytes)) = some (some (.string .empty), 1, 16) := by kernel_rfl

end Go.Proofs.YtnminmaklbhakaaGreatDoor
namespace Go.Proofs.YtnminmaklbhakaaGreatDoor
set_option linter.unusedVariables false
open Go.RowKit

theorem int_info : (Tryz.prog.info? 3).map (fun i => (i.zero, i.size, i.bytes)) = some (some (.int .i64 0), 1, 8) := by kernel_rfl

end Go.Proofs.YtnminmaklbhakaaGreatDoor
namespace Go.Proofs.YtnminmaklbhakaaGreatDoor
set_option linter.unusedVariables false
open Go.RowKit

theorem rune_info : (Tryz.prog.info? 21).map (fun i => (i.zero, i.size, i.bytes)) = some (some (.int .i32 0), 1, 4) := by kernel_rfl

end Go.Proofs.YtnminmaklbhakaaGreatDoor
namespace Go.Proofs.YtnminmaklbhakaaGreatDoor
set_option linter.unusedVariables false
open Go.RowKit

theorem bool_info : (Tryz.prog.info? 4).map (fun i => (i.zero, i.size, i.bytes)) = some (some (.bool false), 1, 1) := by kernel_rfl

end Go.Proofs.YtnminmaklbhakaaGreatDoor
namespace Go.Proofs.YtnminmaklbhakaaGreatDoor
set_option linter.unusedVariables false
open Go.RowKit

theorem own_below {w w' : World} {base e size n : Nat} {v : Value} {xs : List Value} {B : Nat} (h : w.ownsRow base e size v n xs) (k : Below B w w') (hB : ∀ i, v.ownBlock = some i → i < B) : w'.ownsRow base e size v n xs := by
  refine ⟨h.1, ?_⟩
  rcases h.2 with h2 | ⟨g, cap, cur, rfl, hb, hg, r⟩
  · exact .inl h2
  · exact .inr ⟨g, cap, cur, rfl, hb, (k.block g (hB g rfl)).trans hg, r⟩

/-- Texts that were just laid. -/
theorem src_new (w : World) (us : List Value) (t : TypeId) (g : Nat) (hg : g = w.heap.size) (n : Nat) (hn : us.length = n) : Src (w.alloc (.cells us.toArray t)) (some ⟨g, 0, none⟩) n us := by
  subst hg
  refine ⟨hn, fun _ => ⟨_, 0, rfl, by simp, fun i v hv => ?_⟩⟩
  rw [Nat.zero_add, cell_of_row _ _ i _ t (0, 0) (heap_alloc_new w _)]
  simpa using hv

end Go.Proofs.YtnminmaklbhakaaGreatDoor
namespace Go.Proofs.YtnminmaklbhakaaGreatDoor
set_option linter.unusedVariables false
open Go.RowKit

/-- Cells that may be set, of one block. -/
def Cells (w : World) (p : Nat) (cs : List Value) : Prop := ∀ i v, cs[i]? = some v → Cell w p i v
theorem Cells.set {w : World} {p : Nat} {cs : List Value} (h : Cells w p cs) (j : Nat) (hj : j < cs.length) (u : Value) : Cells (w.setCell ⟨p, j, none⟩ u) p (cs.set j u) := by
  intro i v hi
  by_cases e : i = j
  · subst e
    rw [List.getElem?_set_self hj] at hi
    cases hi
    exact (h i _ (List.getElem?_eq_getElem hj)).set u
  · rw [List.getElem?_set_ne (Ne.symm e)] at hi
    exact (h i v hi).far (by omega) _
theorem Cells.keep {S : Nat → Prop} {w w' : World} {p : Nat} {cs : List Value} (h : Cells w p cs) (k : Keep S w w') (hn : ¬ S p) : Cells w' p cs := fun i v hi => (h i v hi).keep k hn
theorem Cells.alloc {w : World} {p : Nat} {cs : List Value} (h : Cells w p cs) (x : Obj) : Cells (w.alloc x) p cs := fun i v hi => (h i v hi).alloc x
theorem Cells.box (w : World) (cs : List Value) (t : TypeId) : Cells (w.alloc (.cells cs.toArray t)) w.heap.size cs := fun i v hi => Cell.box i (by simpa using hi)

end Go.Proofs.YtnminmaklbhakaaGreatDoor
namespace Go.Proofs.YtnminmaklbhakaaGreatDoor
set_option linter.unusedVariables false
open Go.RowKit Go.ChangeShapes Go.WideShapes Go.Deep

/-- n structs of m cells that are read; Q says what stands at a place. -/
def Structs {α : Type} (Q : Nat → Nat → α → Prop) (m : Nat) (w : World) (A : Option Addr) (n : Nat) (ops : List α) : Prop :=
  ops.length = n ∧ n ≤ maxLen ∧ (0 < n → ∃ b off, A = some ⟨b, off, none⟩ ∧ b < w.heap.size ∧ ∀ i o, ops[i]? = some o → Q b (off + i * m) o)

theorem Structs.at {α : Type} {Q : Nat → Nat → α → Prop} {m : Nat} {w : World} {A : Option Addr} {n : Nat} {ops : List α} (h : Structs Q m w A n ops) {i : Nat} (hi : i < n) : ∃ b off o, A = some ⟨b, off, none⟩ ∧ b < w.heap.size ∧ ops[i]? = some o ∧ Q b (off + i * m) o := by
  obtain ⟨b, off, e, hb, hq⟩ := h.2.2 (by omega)
  have hl : i < ops.length := by rw [h.1]; exact hi
  exact ⟨b, off, ops[i], e, hb, List.getElem?_eq_getElem hl, hq i _ (List.getElem?_eq_getElem hl)⟩

section
variable {H : Type} {enc : TypeId × Value → H} {P : Program} {w : World}

theorem structs_read {α : Type} (Q : Nat → Nat → α → Prop) (m : Nat) (h0 : 0 < m) {t e : TypeId} (ht : P.underlying t = some (.slice e)) (hC : P.cellsOf e = m)
    (hone : ∀ b off n cs y, (∀ i, i < m → w.cell? ⟨b, off + i, none⟩ = cs[i]?) → cs.length = m → DataW.trod enc P w 0 (fun _ => true) true n e cs = some y → ∃ o, Q b off o)
    {fuel : Nat} {A : Option Addr} {len cap : Nat} {y : DataW H × List MemPlace} (h : DataW.trod enc P w 0 (fun _ => true) true fuel t [.slice A len cap] = some y) : ∃ ops, Structs Q m w A len ops := by
  rcases open_slice ht h with ⟨hcs', _⟩ | ⟨a, len', cap', mm, n, D, Pl, hcs', _, hl, hm, hmm, _, hi⟩
  · injection hcs' with h4
    injection h4 with hA hn hc
    subst hA hn
    exact ⟨[], rfl, by unfold maxLen; omega, fun h => absurd h (by omega)⟩
  · injection hcs' with h4
    injection h4 with hA hn hc
    subst hA hn hc
    simp only [if_true] at hmm
    subst hmm
    rcases Nat.eq_zero_or_pos len with h5 | h5
    · subst h5
      exact ⟨[], rfl, by unfold maxLen; omega, fun h => absurd h (by omega)⟩
    · obtain ⟨b, off, spot⟩ := a
      have hcl : ∀ i, i < len → ∃ cs' : List Value, cs'.length = m ∧ (∀ j, j < m → w.cell? (((⟨b, off, spot⟩ : Addr).add (i * m)).add j) = cs'[j]?) ∧ ∃ x, DataW.trod enc P w 0 (fun _ => true) true n e cs' = some x := fun i hil => by
        obtain ⟨cs', hc, htr⟩ := hi i (by omega)
        obtain ⟨_, hcl, hat⟩ := World.cells?_some hc
        rw [hC] at hat hcl
        exact ⟨cs', hcl, hat, _, htr⟩
      have hspot : spot = none := by
        obtain ⟨cs', hcl, hat, _⟩ := hcl 0 (by omega)
        have h6 := hat 0 (by omega)
        have h7 : cs'[0]? = some (cs'[0]'(by omega)) := List.getElem?_eq_getElem (by omega)
        rw [h7] at h6
        have h8 := World.cell?_spot h6
        simpa [Addr.add] using h8
      subst hspot
      have hall : ∀ i, i < len → ∃ o, Q b (off + i * m) o := fun i hil => by
        obtain ⟨cs', hcl, hat, x, htr⟩ := hcl i hil
        refine hone b (off + i * m) n cs' x (fun j hj => ?_) hcl htr
        have h6 := hat j hj
        rw [add_mk, add_mk] at h6
        exact h6
      have hlt : b < w.heap.size := by
        obtain ⟨cs', hcl, hat, _⟩ := hcl 0 (by omega)
        have h6 := hat 0 (by omega)
        have h7 : cs'[0]? = some (cs'[0]'(by omega)) := List.getElem?_eq_getElem (by omega)
        rw [h7] at h6
        have h8 := World.block_lt_of_cell? w _ h6
        rw [add_mk, add_mk] at h8
        exact h8
      refine ⟨List.ofFn fun i : Fin len => (hall i i.2).choose, by simp, Nat.le_trans hl hm, fun _ => ⟨b, off, rfl, hlt, fun i o hio => ?_⟩⟩
      have hil : i < len := by
        rcases Nat.lt_or_ge i len with h6 | h6
        · exact h6
        · rw [List.getElem?_eq_none (by simpa using h6)] at hio; cases hio
      rw [List.getElem?_ofFn, dif_pos hil] at hio
      injection hio with hio
      rw [← hio]
      exact (hall i hil).choose_spec
end

end Go.Proofs.YtnminmaklbhakaaGreatDoor
namespace Go.Proofs.YtnminmaklbhakaaGreatDoor
set_option linter.unusedVariables false
open Go.RowKit

end Go.Proofs.YtnminmaklbhakaaGreatDoor

