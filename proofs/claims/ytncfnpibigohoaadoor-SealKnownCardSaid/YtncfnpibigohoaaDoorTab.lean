/- Tables of words: lists, and rows in memory. Own work. -/
import Derived.Test.YtncfnpibigohoaaDoorMsg
import Derived.Test.YtncfnpibigohoaaDoorInfoB
namespace Go.Proofs.YtncfnpibigohoaaDoor
set_option linter.unusedVariables false
open Go.RowKit

theorem sched_len (b : List UInt8) (n : Nat) : (sched b n).length = n := by
  induction n with
  | zero => rfl
  | succ n ih => simp [sched, ih]

theorem sched_at (b : List UInt8) {i n : Nat} (h : i < n) : at' (sched b n) i = wd b i := by
  induction n with
  | zero => omega
  | succ n ih =>
    by_cases e : i = n
    · subst e; rfl
    · rw [← ih (by omega)]
      simp only [at', sched]
      rw [List.getD_eq_getElem?_getD, List.getD_eq_getElem?_getD, List.getElem?_append_left (by rw [sched_len]; omega)]

theorem sched_is (b : List UInt8) (n : Nat) : sched b n = (List.range n).map (wd b) := by
  apply List.ext_getElem?
  intro i
  by_cases h : i < n
  · have h1 := sched_at b h
    simp only [at', List.getD_eq_getElem?_getD] at h1
    have hl : i < (sched b n).length := by rw [sched_len]; exact h
    rw [List.getElem?_eq_getElem hl] at h1 ⊢
    simp at h1
    rw [List.getElem?_map, List.getElem?_range h]
    simp [h1]
  · rw [List.getElem?_eq_none (by rw [sched_len]; omega), List.getElem?_eq_none (by simp; omega)]

theorem wd_last (b : List UInt8) (t : Nat) : wd b t = if t < 16 then word b t else next (sched b t) t := by
  simp only [wd, at', sched]
  rw [List.getD_eq_getElem?_getD, List.getElem?_append_right (by rw [sched_len]; omega), sched_len]
  simp

theorem wd_word (b : List UInt8) {t : Nat} (h : t < 16) : wd b t = word b t := by rw [wd_last, if_pos h]

theorem wd_next (b : List UInt8) {t : Nat} (h : 16 ≤ t) :
    wd b t = (((wd b (t - 16)).add (Wd.small (wd b (t - 15)) 7 18 3)).add (wd b (t - 7))).add (Wd.small (wd b (t - 2)) 17 19 10) := by
  rw [wd_last, if_neg (by omega)]
  unfold next
  rw [sched_at b (show t - 16 < t by omega), sched_at b (show t - 15 < t by omega), sched_at b (show t - 7 < t by omega), sched_at b (show t - 2 < t by omega)]

/-- n words told by a function. -/
def tabL (n : Nat) (f : Nat → Wd) : List Wd := (List.range n).map f
def upd (f : Nat → Wd) (i : Nat) (x : Wd) : Nat → Wd := fun j => if j = i then x else f j
theorem upd_same (f : Nat → Wd) (i : Nat) (x : Wd) : upd f i x i = x := if_pos rfl
theorem upd_ne (f : Nat → Wd) {i j : Nat} (x : Wd) (h : j ≠ i) : upd f i x j = f j := if_neg h
theorem tabL_len (n : Nat) (f : Nat → Wd) : (tabL n f).length = n := by simp [tabL]
theorem tabL_at {n : Nat} (f : Nat → Wd) {i : Nat} (h : i < n) : (tabL n f)[i]? = some (f i) := by simp [tabL, List.getElem?_map, List.getElem?_range h]
theorem tabL_set (n : Nat) (f : Nat → Wd) (i : Nat) (x : Wd) (h : i < n) : (tabL n f).set i x = tabL n (upd f i x) := by
  apply List.ext_getElem?
  intro j
  by_cases hj : j < n
  · rw [tabL_at _ hj]
    by_cases e : j = i
    · subst e
      rw [List.getElem?_set_self (by rw [tabL_len]; exact hj), upd_same]
    · rw [List.getElem?_set_ne (fun x => e x.symm), tabL_at _ hj, upd_ne _ _ e]
  · rw [List.getElem?_eq_none (by rw [List.length_set, tabL_len]; omega), List.getElem?_eq_none (by rw [tabL_len]; omega)]
theorem tabL_congr {n : Nat} {f g : Nat → Wd} (h : ∀ i, i < n → f i = g i) : tabL n f = tabL n g := by
  apply List.map_congr_left
  intro i hi
  exact h i (List.mem_range.1 hi)

/-- A row of n words, told by a function. -/
def Tab (w : World) (t : TypeId) (b n : Nat) (f : Nat → Wd) : Prop := w.heap[b]? = some (.cells (wcells (tabL n f)).toArray t (0, 0))

namespace Tab
variable {w w' : World} {t : TypeId} {b n : Nat} {f : Nat → Wd}
theorem lt (h : Tab w t b n f) : b < w.heap.size := lt_heap h
theorem cell (h : Tab w t b n f) {i : Nat} (hi : i < n) : w.cell? ⟨b, i, none⟩ = some (.int .u32 (f i).n) := by
  rw [cell_at h i]
  simp only [List.getElem?_toArray]
  exact wcells_at _ (tabL_at f hi)
theorem fr (h : Tab w t b n f) (i : Nat) : w.frozen? ⟨b, i, none⟩ = false := free_at h i
theorem keep {S : Nat → Prop} (h : Tab w t b n f) (k : Keep S w w') (hn : ¬ S b) : Tab w' t b n f := k.heap h hn
theorem below (h : Tab w t b n f) (k : Below w.heap.size w w') : Tab w' t b n f := h.keep (Keep.of_below (fun _ => False) k) (fun x => x)
theorem drewN (h : Tab w t b n f) (k : Nat) : Tab (w.drewN k) t b n f := h
theorem set (h : Tab w t b n f) {i : Nat} (hi : i < n) (x : Wd) : Tab (w.setCell ⟨b, i, none⟩ (.int .u32 x.n)) t b n (upd f i x) := by
  have h1 := heap_set h i (.int .u32 x.n)
  unfold Tab
  rw [h1, ← tabL_set n f i x hi]
  simp [wcells, List.map_set]
theorem congr {g : Nat → Wd} (h : Tab w t b n f) (e : ∀ i, i < n → f i = g i) : Tab w t b n g := by
  unfold Tab at h ⊢
  rw [← tabL_congr e]; exact h
theorem range (h : Tab w t b n f) : w.rangeAt b 0 (wcells (tabL n f)) := by
  intro j v hv
  rw [Nat.zero_add, cell_at h j]
  simpa using hv
end Tab

theorem keep_row (w : World) (g : Nat) (cs : Array Value) : Keep (· = g) w (w.setRow g cs) :=
  ⟨rfl, rfl, rfl, by simp, fun k _ hk => setRow_other w g k cs hk⟩

/-- A whole array stored into a block that is known whole. -/
theorem wpList_store_row {P : Program} {ops : Array Oper} {rest : List Oper} {op : Oper} {a : Act} {w : World} {Q : Exit → Act → World → Prop} (hgd : op.guard = none) (ty : TypeId) (x y : Operand) (ho : op.op = .store ty x y)
    (g : Nat) (t : TypeId) (old cells : Array Value) (hx : a.eval x = .pointer (some ⟨g, 0, none⟩)) (hy : a.eval y = .agg cells) (hg : w.heap[g]? = some (.cells old t (0, 0)))
    (hi : (P.info? ty).map (·.size) = some cells.size) (hs : old.size = cells.size) (h1 : cells.all (·.oneCell') = true)
    (h : wpList P ops Q rest (a.put op.dst undef) (w.setRow g cells)) : wpList P ops Q (op :: rest) a w :=
  wpList_plain hgd fun K hK => by
    unfold Oper.wp execOp
    simp only [ho, hx, hy, Instr.storeAt, Instr.sureAddr, Sem.run_bind, Sem.run_pure, Result.andThen_ok, run_storeVar_row w g t ty old cells hg hi hs h1]
    exact hK _ _ h

/-- a[i] of an array that is a value. -/
theorem run_index_agg {P : Program} (w : World) (t e : TypeId) (n : Nat) (i : TypeInfo) (d : TypeDesc) (h : P.underlying t = some (.array n e)) (he : P.underlying e = some d) (hd : d.isRow = false) (hi : P.info? e = some i) (hs : i.size = 1)
    (cs : Array Value) (k : IntKind) (j : Nat) (hj : j < n) (v : Value) (hv : cs[j]? = some v) : (Instr.index t (.agg cs) (.int k (j : Int))).run P w = .ok v w := by
  have hagg : (isAgg e).run P w = .ok false w := by
    unfold isAgg
    rw [Sem.run_bind, run_underlying he w]
    cases d <;> simp_all
  unfold Instr.index
  simp [Sem.run_bind, asIntOf, run_underlying h, sizeOf, typeInfo, hi, hs, part, hagg, hv, hj]

/-- The first bytes of word t, of k bytes that came. -/
def accN (b : List UInt8) (t : Nat) : Nat → Nat
  | 0 => 0
  | j + 1 => accN b t j * 256 + (b.getD (4 * t + j) 0).toNat

theorem accN_lt (b : List UInt8) (t : Nat) (j : Nat) : accN b t j < 256 ^ j := by
  induction j with
  | zero => simp [accN]
  | succ j ih =>
    have := (b.getD (4 * t + j) 0).toNat_lt
    simp only [accN, Nat.pow_succ]
    omega

def accW (b : List UInt8) (k t : Nat) : Wd := Wd.of (accN b t (min 4 (k - 4 * t)))

theorem accW_zero (b : List UInt8) (t : Nat) : accW b 0 t = Wd.of 0 := by simp [accW, accN]

theorem accW_word (b : List UInt8) {t : Nat} (h : t < 16) : accW b 64 t = wd b t := by
  rw [wd_word b h]
  have e : accN b t 4 = (b.getD (4 * t) 0).toNat * 16777216 + (b.getD (4 * t + 1) 0).toNat * 65536 + (b.getD (4 * t + 2) 0).toNat * 256 + (b.getD (4 * t + 3) 0).toNat := by
    simp only [accN, Nat.add_zero]
    generalize (b.getD (4 * t) 0).toNat = x0
    generalize (b.getD (4 * t + 1) 0).toNat = x1
    generalize (b.getD (4 * t + 2) 0).toNat = x2
    generalize (b.getD (4 * t + 3) 0).toNat = x3
    omega
  unfold accW word
  rw [show min 4 (64 - 4 * t) = 4 from by omega, e]

theorem accW_other (b : List UInt8) {k t : Nat} (h : t ≠ k / 4) : accW b (k + 1) t = accW b k t := by
  unfold accW
  rw [show min 4 (k + 1 - 4 * t) = min 4 (k - 4 * t) from by omega]

/-- The byte that comes next is put behind those that came. -/
theorem accW_same (b : List UInt8) {k : Nat} {x : UInt8} (hx : b[k]? = some x) :
    bits .or .u32 ((accW b k (k / 4)).n * 256 % 4294967296) (x.toNat : Int) = (accW b (k + 1) (k / 4)).n := by
  have h1 := accN_lt b (k / 4) (min 4 (k - 4 * (k / 4)))
  have h2 : (b.getD (4 * (k / 4) + k % 4) 0) = x := by
    rw [List.getD_eq_getElem?_getD, show 4 * (k / 4) + k % 4 = k from by omega, hx]; rfl
  have e1 : min 4 (k - 4 * (k / 4)) = k % 4 := by omega
  have e2 : min 4 (k + 1 - 4 * (k / 4)) = k % 4 + 1 := by omega
  unfold accW
  rw [e1] at h1 ⊢
  rw [e2]
  have h3 : accN b (k / 4) (k % 4) < 256 ^ 3 := Nat.lt_of_lt_of_le h1 (Nat.pow_le_pow_right (by omega) (by omega))
  have hb := x.toNat_lt
  simp only [accN, h2]
  rw [Wd.of_n (by omega), Wd.of_n (by omega)]
  have e3 : ((accN b (k / 4) (k % 4) : Nat) : Int) * 256 % 4294967296 = ((accN b (k / 4) (k % 4) * 256 : Nat) : Int) := by omega
  rw [e3, u32_or_nat _ _ (by omega) (by omega), nat_join 8 _ _ (by omega) (by omega)]

end Go.Proofs.YtncfnpibigohoaaDoor
