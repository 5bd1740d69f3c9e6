/- Rows of api.Cell in memory, told by functions of a place; copy, stores. Own work. -/
import Derived.Test.YtbjdcbnmpmcdiaaCellRead
namespace Go.Proofs.Ytbjdcbnmpmcdiaa
set_option linter.unusedVariables false
set_option linter.unusedSimpArgs false
open Go.RowKit

theorem cellCs_len (c : CellM) : (cellCs c).length = 6 := rfl
theorem cellCs_lt {c : CellM} {i : Nat} {v : Value} (h : (cellCs c)[i]? = some v) : i < 6 := by
  rcases Nat.lt_or_ge i 6 with e | e
  · exact e
  · rw [List.getElem?_eq_none (by rw [cellCs_len]; exact e)] at h; cases h
theorem cellCs_one (c : CellM) : ∀ u ∈ cellCs c, u.oneCell' = true := by
  intro u hu
  simp [cellCs, attrCs] at hu
  rcases hu with rfl | rfl | rfl | rfl | rfl | rfl <;> rfl

def flatF (f : Nat → CellM) (n : Nat) : List Value := (List.range n).flatMap fun k => cellCs (f k)
theorem flatF_succ (f : Nat → CellM) (n : Nat) : flatF f (n + 1) = flatF f n ++ cellCs (f n) := by simp [flatF, List.range_succ]
theorem flatF_len (f : Nat → CellM) (n : Nat) : (flatF f n).length = n * 6 := by
  induction n with
  | zero => rfl
  | succ n ih => rw [flatF_succ, List.length_append, ih, cellCs_len]; omega
theorem flatF_at (f : Nat → CellM) : ∀ (n j : Nat) (v : Value), (flatF f n)[j]? = some v ↔ j < n * 6 ∧ (cellCs (f (j / 6)))[j % 6]? = some v := by
  intro n
  induction n with
  | zero => intro j v; simp [flatF]
  | succ n ih =>
    intro j v
    rw [flatF_succ]
    by_cases h : j < n * 6
    · rw [List.getElem?_append_left (by rw [flatF_len]; exact h), ih]
      constructor
      · rintro ⟨a, b⟩; exact ⟨by omega, b⟩
      · rintro ⟨a, b⟩; exact ⟨h, b⟩
    · rw [List.getElem?_append_right (by rw [flatF_len]; omega), flatF_len]
      constructor
      · intro e
        have := cellCs_lt e
        rw [show j / 6 = n from by omega, show j % 6 = j - n * 6 from by omega]
        exact ⟨by omega, e⟩
      · rintro ⟨a, b⟩
        rw [show j / 6 = n from by omega, show j % 6 = j - n * 6 from by omega] at b
        exact b
theorem flatF_one (f : Nat → CellM) (n : Nat) : ∀ u ∈ flatF f n, u.oneCell' = true := by
  intro u hu
  simp only [flatF, List.mem_flatMap] at hu
  obtain ⟨k, -, h⟩ := hu
  exact cellCs_one _ u h
theorem flatF_take (xs : List CellM) (f : Nat → CellM) (h : ∀ k c, xs[k]? = some c → f k = c) : ∀ n, n ≤ xs.length → flatF f n = (xs.take n).flatMap cellCs := by
  intro n
  induction n with
  | zero => intro _; simp [flatF]
  | succ n ih =>
    intro hn
    have e : xs[n]? = some xs[n] := List.getElem?_eq_getElem (by omega)
    rw [flatF_succ, ih (by omega), List.take_add_one, e, List.flatMap_append, h n _ e]
    simp
theorem flatF_list (xs : List CellM) (f : Nat → CellM) (h : ∀ k c, xs[k]? = some c → f k = c) : flatF f xs.length = xs.flatMap cellCs := by
  rw [flatF_take xs f h _ (Nat.le_refl _), List.take_length]

/-- n cells f lie in block g from o on; they may be written. -/
structure Lies (w : World) (g o n : Nat) (f : Nat → CellM) : Prop where
  val : ∀ k, k < n → ∀ i v, (cellCs (f k))[i]? = some v → w.cell? ⟨g, o + (k * 6 + i), none⟩ = some v
  can : ∀ j, j < n * 6 → w.frozen? ⟨g, o + j, none⟩ = false

/-- n cells f were written in block g from o on; else there are new blocks alone. -/
structure PutC (g o n : Nat) (f : Nat → CellM) (w w' : World) : Prop where
  keep : Keep (· = g) w w'
  fz : ∀ i, w'.frozen? ⟨g, i, none⟩ = w.frozen? ⟨g, i, none⟩
  val : ∀ k, k < n → ∀ i v, (cellCs (f k))[i]? = some v → w'.cell? ⟨g, o + (k * 6 + i), none⟩ = some v
  out : ∀ i, (i < o ∨ o + n * 6 ≤ i) → w'.cell? ⟨g, i, none⟩ = w.cell? ⟨g, i, none⟩

namespace Lies
variable {w w' : World} {g o n : Nat} {f : Nat → CellM}
theorem lt (h : Lies w g o n f) (h0 : 0 < n) : g < w.heap.size := World.block_lt_of_cell? w _ (h.val 0 h0 0 _ rfl)
theorem keep {S : Nat → Prop} (h : Lies w g o n f) (hg : g < w.heap.size) (k : Keep S w w') (hn : ¬ S g) : Lies w' g o n f :=
  ⟨fun j hj i v hv => (k.cell (p := ⟨g, _, none⟩) hg hn).trans (h.val j hj i v hv), fun j hj => (k.frozen (p := ⟨g, _, none⟩) hg hn).trans (h.can j hj)⟩
theorem sub (h : Lies w g o n f) (a m : Nat) (ha : a + m ≤ n) : Lies w g (o + a * 6) m (fun k => f (a + k)) :=
  ⟨fun k hk i v hv => by have := h.val (a + k) (by omega) i v hv; rwa [show o + ((a + k) * 6 + i) = o + a * 6 + (k * 6 + i) from by omega] at this,
   fun j hj => by have := h.can (a * 6 + j) (by omega); rwa [← Nat.add_assoc] at this⟩
theorem congr {f' : Nat → CellM} (h : Lies w g o n f) (e : ∀ k, k < n → f k = f' k) : Lies w g o n f' := ⟨fun k hk i v hv => h.val k hk i v (by rw [e k hk]; exact hv), h.can⟩
theorem cells (h : Lies w g o n f) : ∀ j v, (flatF f n)[j]? = some v → w.cell? ⟨g, o + j, none⟩ = some v := fun j v hj => by
  obtain ⟨h1, h2⟩ := (flatF_at f n j v).1 hj
  have := h.val (j / 6) (by omega) (j % 6) v h2
  rwa [show j / 6 * 6 + j % 6 = j from by omega] at this
theorem some' (h : Lies w g o n f) : ∀ j, j < n * 6 → (w.cell? ⟨g, o + j, none⟩).isSome = true := fun j hj => by
  have : j < (flatF f n).length := by rw [flatF_len]; exact hj
  rw [h.cells j _ (List.getElem?_eq_getElem this)]; rfl
theorem src (h : Lies w g o n f) (hg : g < w.heap.size) : Src w (some ⟨g, o, none⟩) (n * 6) (flatF f n) := ⟨flatF_len f n, fun _ => ⟨g, o, rfl, hg, h.cells⟩⟩
end Lies

namespace PutC
variable {w w1 w2 w' : World} {g o n m a : Nat} {f h f0 : Nat → CellM}
theorem refl (g o : Nat) (f : Nat → CellM) (w : World) : PutC g o 0 f w w := ⟨Keep.refl _ _, fun _ => rfl, fun k hk => by omega, fun _ _ => rfl⟩
theorem then_keep (p : PutC g o n f w w1) (hg : g < w1.heap.size) (k : Keep (fun _ => False) w1 w2) : PutC g o n f w w2 :=
  ⟨p.keep.trans k (fun _ _ x => x.elim), fun i => (k.frozen (p := ⟨g, i, none⟩) hg (fun x => x)).trans (p.fz i), fun j hj i v hv => (k.cell (p := ⟨g, _, none⟩) hg (fun x => x)).trans (p.val j hj i v hv),
   fun i hi => (k.cell (p := ⟨g, i, none⟩) hg (fun x => x)).trans (p.out i hi)⟩
theorem keep_then (k : Keep (fun _ => False) w w1) (hg : g < w.heap.size) (p : PutC g o n f w1 w2) : PutC g o n f w w2 :=
  ⟨(k.mono (fun _ _ x => x.elim) : Keep (· = g) w w1).trans p.keep (fun _ _ x => x), fun i => (p.fz i).trans (k.frozen (p := ⟨g, i, none⟩) hg (fun x => x)), p.val, fun i hi => (p.out i hi).trans (k.cell (p := ⟨g, i, none⟩) hg (fun x => x))⟩
theorem congr (p : PutC g o n f w w') (e : ∀ k, k < n → f k = h k) : PutC g o n h w w' := ⟨p.keep, p.fz, fun k hk i v hv => p.val k hk i v (by rw [e k hk]; exact hv), p.out⟩
/-- Behind it more. -/
theorem grow (p : PutC g o n f w w1) (q : PutC g (o + n * 6) m h w1 w2) : PutC g o (n + m) (fun k => if k < n then f k else h (k - n)) w w2 := by
  refine ⟨p.keep.trans q.keep (fun _ _ x => x), fun i => (q.fz i).trans (p.fz i), fun k hk i v hv => ?_, fun i hi => (q.out i (by omega)).trans (p.out i (by omega))⟩
  by_cases e : k < n
  · rw [if_pos e] at hv
    have hi := cellCs_lt hv
    exact (q.out _ (by omega)).trans (p.val k e i v hv)
  · rw [if_neg e] at hv
    have := q.val (k - n) (by omega) i v hv
    rwa [show o + n * 6 + ((k - n) * 6 + i) = o + (k * 6 + i) from by omega] at this
/-- Ahead of it more. -/
theorem pre (q : PutC g (o + a * 6) m h w w1) (p : PutC g o a f w1 w2) : PutC g o (a + m) (fun k => if k < a then f k else h (k - a)) w w2 := by
  refine ⟨q.keep.trans p.keep (fun _ _ x => x), fun i => (p.fz i).trans (q.fz i), fun k hk i v hv => ?_, fun i hi => (p.out i (by omega)).trans (q.out i (by omega))⟩
  by_cases e : k < a
  · rw [if_pos e] at hv
    exact p.val k e i v hv
  · rw [if_neg e] at hv
    have hi := cellCs_lt hv
    have := q.val (k - a) (by omega) i v hv
    rw [show o + a * 6 + ((k - a) * 6 + i) = o + (k * 6 + i) from by omega] at this
    exact (p.out _ (by omega)).trans this
/-- What lies there then. -/
theorem lies (l : Lies w g o n f0) (p : PutC g (o + a * 6) m h w w') (ha : a + m ≤ n) : Lies w' g o n (fun k => if a ≤ k ∧ k < a + m then h (k - a) else f0 k) := by
  refine ⟨fun k hk i v hv => ?_, fun j hj => (p.fz _).trans (l.can j hj)⟩
  have hi := cellCs_lt hv
  by_cases e : a ≤ k ∧ k < a + m
  · rw [if_pos e] at hv
    have := p.val (k - a) (by omega) i v hv
    rwa [show o + a * 6 + ((k - a) * 6 + i) = o + (k * 6 + i) from by omega] at this
  · rw [if_neg e] at hv
    exact (p.out _ (by omega)).trans (l.val k hk i v hv)
theorem whole (l : Lies w g o n f0) (p : PutC g o n h w w') : Lies w' g o n h := by
  have := lies (a := 0) l (by simpa using p) (by omega)
  exact this.congr (fun k hk => by rw [if_pos (by omega)]; rfl)
end PutC

theorem put_sets {w : World} {g o n : Nat} {f f0 : Nat → CellM} (l : Lies w g o n f0) : PutC g o n f w (w.setCells g o (flatF f n)) := by
  have hl := flatF_len f n
  refine ⟨keep_setCells (S := (· = g)) g (fun _ => rfl) _ _ _ (Keep.refl _ _), fun i => World.frozen?_setCells _ _ _ _ _, fun k hk i v hv => ?_, fun i hi => World.cell?_setCells_out _ _ _ _ _ (fun _ _ => by simp; omega)⟩
  have hi := cellCs_lt hv
  have hv' : (flatF f n)[k * 6 + i]? = some v := by rw [flatF_at, show (k * 6 + i) / 6 = k from by omega, show (k * 6 + i) % 6 = i from by omega]; exact ⟨by omega, hv⟩
  have := World.cell?_setCells_in g (flatF f n) o w (fun j hj => l.some' j (by omega)) (k * 6 + i) (by omega)
  rw [this]
  rw [List.getElem?_eq_getElem (by omega)] at hv'
  exact hv'

/-- copy of cells that lie somewhere onto cells that lie somewhere. -/
theorem run_copy_cellsz {P : Program} (w : World) (dT sT ty elem : TypeId) (b o dLen dCap : Nat) (a : Addr) (sLen sCap z : Nat) (cs : List Value)
    (hu : P.underlying dT = some (.slice elem)) (hs : (P.info? elem).map (·.size) = some z) (hn : cs.length = Nat.min sLen dLen * z)
    (hsrc : ∀ j v, cs[j]? = some v → w.cell? (a.add j) = some v) (hc : ∀ j, j < cs.length → (w.cell? ⟨b, o + j, none⟩).isSome = true) (hf : ∀ j, j < cs.length → w.frozen? ⟨b, o + j, none⟩ = false) (h1 : ∀ v ∈ cs, v.oneCell' = true) :
    (Builtin.copy_ #[dT, sT] ty #[.slice (some ⟨b, o, none⟩) dLen dCap, .slice (some a) sLen sCap]).run P w = .ok (goInt (Nat.min sLen dLen)) (w.setCells b o cs) := by
  have hl := run_loadCells_list (P := P) w a cs hsrc
  have hst := run_storeCells_cells (P := P) b o cs 0 w (by simpa using hc) (by simpa using hf) h1
  cases hq : P.info? elem with
  | none => simp [hq] at hs
  | some i =>
    have hi : i.size = z := by simpa [hq] using hs
    simp [Builtin.copy_, run_underlying hu, Builtin.lenOf, Builtin.firstCells, sizeOf, typeInfo, hq, hi, ← hn, hl, hst]

/-- copy where there is nothing to copy, or no room. -/
theorem run_copy_zero {P : Program} (w : World) (dT sT ty elem : TypeId) (dp sp : Option Addr) (dLen dCap sLen sCap z : Nat)
    (hu : P.underlying dT = some (.slice elem)) (hs : (P.info? elem).map (·.size) = some z) (hn : Nat.min sLen dLen = 0) :
    (Builtin.copy_ #[dT, sT] ty #[.slice dp dLen dCap, .slice sp sLen sCap]).run P w = .ok (goInt 0) w := by
  cases hq : P.info? elem with
  | none => simp [hq] at hs
  | some i =>
    have hl : ∀ a, Sem.run P (loadCells a 0) w = .ok #[] w := fun a => run_loadCells_list (P := P) (w := w) a [] (fun j v h => by simp at h)
    cases dp <;> cases sp <;> simp [hl, Builtin.copy_, run_underlying hu, Builtin.lenOf, Builtin.firstCells, sizeOf, typeInfo, hq, hn, storeCells]

/-- A slice of cells: what it says of itself. -/
def SlC (w : World) (A : Option Addr) (g o n : Nat) (f : Nat → CellM) : Prop := 0 < n → A = some ⟨g, o, none⟩ ∧ Lies w g o n f ∧ g < w.heap.size

theorem SlC.src {w : World} {A : Option Addr} {g o n : Nat} {f : Nat → CellM} (h : SlC w A g o n f) : Src w A (n * 6) (flatF f n) :=
  ⟨flatF_len f n, fun h0 => by obtain ⟨e, l, hg⟩ := h (by omega); exact ⟨g, o, e, hg, l.cells⟩⟩
theorem flatF_pre (f : Nat → CellM) (m n : Nat) (h : m ≤ n) : flatF f m = (flatF f n).take (m * 6) := by
  apply List.ext_getElem?
  intro j
  rw [List.getElem?_take]
  apply Option.ext
  intro v
  rw [flatF_at]
  split
  · rw [flatF_at]
    constructor
    · rintro ⟨a, b⟩; exact ⟨by omega, b⟩
    · rintro ⟨a, b⟩; exact ⟨by omega, b⟩
  · constructor
    · rintro ⟨a, b⟩; omega
    · intro e; cases e
theorem src_pre {w : World} {A : Option Addr} {n m : Nat} {f : Nat → CellM} (h : Src w A (n * 6) (flatF f n)) (hm : m ≤ n) : Src w A (m * 6) (flatF f m) :=
  ⟨flatF_len f m, fun h0 => by
    obtain ⟨b, off, e, hb, hc⟩ := h.2 (by omega)
    refine ⟨b, off, e, hb, fun i u hu => hc i u ?_⟩
    rw [flatF_pre f m n hm, List.getElem?_take] at hu
    split at hu
    · exact hu
    · cases hu⟩

/-- copy of cells that are read onto cells. -/
theorem wpList_copy_putR {P : Program} {w : World} {ops : Array Oper} {rest : List Oper} {op : Oper} {act : Act} {Q : Exit → Act → World → Prop} (hgd : op.guard = none) (d s : Operand) (dT sT : TypeId)
    (ho : op.op = .call { callee := .builtin .copy, args := #[d, s], argTypes := #[dT, sT] }) (elem : TypeId) (hu : P.underlying dT = some (.slice elem)) (hs : (P.info? elem).map (·.size) = some 6)
    (dp sp : Option Addr) (dLen dCap sLen sCap : Nat) (hd : act.eval d = .slice dp dLen dCap) (hsv : act.eval s = .slice sp sLen sCap)
    (g o m : Nat) (f f' : Nat → CellM) (hm : Nat.min sLen dLen = m) (hD : SlC w dp g o m f) (hS : Src w sp (m * 6) (flatF f' m))
    (h : ∀ w', PutC g o m f' w w' → wpList P ops Q rest (act.put op.dst (goInt m)) w') : wpList P ops Q (op :: rest) act w := by
  refine wpList_plain hgd fun K hK => ?_
  by_cases h0 : m = 0
  · subst h0
    have hrun := run_copy_zero (P := P) w dT sT op.type elem dp sp dLen dCap sLen sCap 6 hu hs hm
    unfold Oper.wp
    simp [execOp, ho, resolve, invoke, builtin, hd, hsv, hrun, Result.andThen]
    exact hK _ _ (h w (PutC.refl _ _ _ _))
  · obtain ⟨rfl, l, hg⟩ := hD (by omega)
    obtain ⟨g', o', rfl, -, l'⟩ := hS.2 (by omega)
    have hl := flatF_len f' m
    have hrun := run_copy_cellsz (P := P) w dT sT op.type elem g o dLen dCap ⟨g', o', none⟩ sLen sCap 6 (flatF f' m) hu hs (by rw [hl, hm]) (fun j v hj => by rw [add_mk]; exact l' j v hj) (fun j hj => l.some' j (by omega)) (fun j hj => l.can j (by omega)) (flatF_one _ _)
    rw [hm] at hrun
    unfold Oper.wp
    simp [execOp, ho, resolve, invoke, builtin, hd, hsv, hrun, Result.andThen]
    exact hK _ _ (h _ (put_sets l))

/-- copy of cells onto cells. -/
theorem wpList_copy_put {P : Program} {w : World} {ops : Array Oper} {rest : List Oper} {op : Oper} {act : Act} {Q : Exit → Act → World → Prop} (hgd : op.guard = none) (d s : Operand) (dT sT : TypeId)
    (ho : op.op = .call { callee := .builtin .copy, args := #[d, s], argTypes := #[dT, sT] }) (elem : TypeId) (hu : P.underlying dT = some (.slice elem)) (hs : (P.info? elem).map (·.size) = some 6)
    (dp sp : Option Addr) (dLen dCap sLen sCap : Nat) (hd : act.eval d = .slice dp dLen dCap) (hsv : act.eval s = .slice sp sLen sCap)
    (g o g' o' m : Nat) (f f' : Nat → CellM) (hm : Nat.min sLen dLen = m) (hD : SlC w dp g o m f) (hS : SlC w sp g' o' m f')
    (h : ∀ w', PutC g o m f' w w' → wpList P ops Q rest (act.put op.dst (goInt m)) w') : wpList P ops Q (op :: rest) act w := by
  exact wpList_copy_putR hgd d s dT sT ho elem hu hs dp sp dLen dCap sLen sCap hd hsv g o m f f' hm hD hS.src h

end Go.Proofs.Ytbjdcbnmpmcdiaa
