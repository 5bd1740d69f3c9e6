/- Maps whose keys are ints, told by a function and their number. It speaks of no program. Own work. -/
import Derived.Test.YthmogbldfecckaaBase
import Derived.Maps.OwnSet
import Derived.Maps.OwnOps
set_option linter.unusedVariables false
set_option linter.unusedSimpArgs false
namespace Go.Proofs.Ythmogbldfecckaa
set_option linter.unusedVariables false
open Go.RowKit Go.Maps Go.WideMaps

/-- An element reads as itself. -/
def rawI (v : Value) : Option (DataW Value × List MemPlace) := some (.held v, [])

/-- Block b is a map of m keys; f says what stands where. -/
def MapI (P : Program) (K : TypeId) (w : World) (b m : Nat) (f : Int → Option Value) : Prop :=
  ∃ D : DataW Value, w.ownsMap P K rawI b m D ∧ Maps.size D = m ∧ (∀ x, Maps.has D (.int .i64 x) = (f x).isSome) ∧ ∀ x v, f x = some v → ∀ z, D.atKey (.int .i64 x) z = .held v

theorem ownsI_keep {S : Nat → Prop} {w w' : World} {P : Program} {K : TypeId} {R : Value → Option (DataW Value × List MemPlace)} {b n : Nat} {D : DataW Value} (h : w.ownsMap P K R b n D) (k : Keep S w w') (hn : ¬ S b) : w'.ownsMap P K R b n D := by
  obtain ⟨es, clock, hb, F, hs, hD⟩ := h
  exact ⟨es, clock, k.heap hb hn, F, hs, hD⟩

/-- One value of a function. -/
def putI (f : Int → Option Value) (x : Int) (v : Value) : Int → Option Value := fun y => if y = x then some v else f y

namespace MapI
variable {P : Program} {K t e : TypeId} {w w' : World} {b m : Nat} {f : Int → Option Value}

theorem keep {S : Nat → Prop} (h : MapI P K w b m f) (k : Keep S w w') (hn : ¬ S b) : MapI P K w' b m f := by
  obtain ⟨D, h1, h2⟩ := h
  exact ⟨D, ownsI_keep h1 k hn, h2⟩

theorem lt (h : MapI P K w b m f) : b < w.heap.size := by
  obtain ⟨D, h1, _⟩ := h
  exact h1.lt

theorem below (h : MapI P K w b m f) (k : Below w.heap.size w w') : MapI P K w' b m f := h.keep (Keep.of_below (fun _ => False) k) (fun x => x)
theorem alloc (h : MapI P K w b m f) (o : Obj) : MapI P K (w.alloc o) b m f := h.keep ((Keep.refl (fun _ => False) w).alloc o) (fun x => x)
theorem drew (h : MapI P K w b m f) : MapI P K w.drew b m f := h.keep ((Keep.refl (fun _ => False) w).drew) (fun x => x)
theorem drewN (h : MapI P K w b m f) (n : Nat) : MapI P K (w.drewN n) b m f := h.keep ((Keep.refl (fun _ => False) w).drewN n) (fun x => x)

theorem made (P : Program) (K : TypeId) (w : World) : MapI P K (w.alloc (.map #[] 0)) w.heap.size 0 (fun _ => none) :=
  ⟨.map [], World.ownsMap_made w P K rawI, rfl, fun x => by simp [Maps.has], fun x v hx => by cases hx⟩

theorem look (h : MapI P K w b m f) (hK : P.underlying K = some (.int .i64)) (ht : P.underlying t = some (.map K e)) {z : Value} (hz : (zeroValue e).run P w = .ok z w) {x : Int} (hx : (Lit.int .i64 x).wf = true) :
    (Instr.lookup t (.map (some b)) (.int .i64 x) false).run P w = .ok ((f x).getD z) w := by
  obtain ⟨D, h1, h2, h3, h4⟩ := h
  obtain ⟨v, ps, hr, hv⟩ := h1.lookup (int_keyed hK) ht hz (zd := .held z) (zp := []) rfl (keyOf_int_mk hK hx)
  cases hf : f x with
  | some y =>
    rw [h4 x y hf] at hv
    injection hv with hv
    injection hv with hv _
    injection hv with hv
    rw [hr, hv]; rfl
  | none =>
    have hno : Maps.has D (.int .i64 x) = false := by rw [h3, hf]; rfl
    rw [Maps.atKey_of_not_has hno] at hv
    injection hv with hv
    injection hv with hv _
    injection hv with hv
    rw [hr, hv]; rfl

theorem len (h : MapI P K w b m f) (ht : P.underlying t = some (.map K e)) (ty : TypeId) : (Builtin.len_ #[t] ty #[.map (some b)]).run P w = .ok (.int .i64 m) w := by
  obtain ⟨D, h1, h2, _⟩ := h
  rw [h1.len ht ty, h2]

theorem cells (h : MapI P K w b m f) (i : Nat) : w.cell? ⟨b, i, none⟩ = none := by
  obtain ⟨D, ⟨es, clock, hb, _⟩, _⟩ := h
  simp [World.cell?, hb]
end MapI

theorem mapI_put {P : Program} {K : TypeId} {w1 : World} {b m : Nat} {f : Int → Option Value} {D : DataW Value} {x : Int} {v : Value} {n : Nat} (h2 : Maps.size D = m) (h3 : ∀ y, Maps.has D (.int .i64 y) = (f y).isSome) (h4 : ∀ y u, f y = some u → ∀ z, D.atKey (.int .i64 y) z = .held u)
    (hD : Maps.Tidy D) (h : w1.ownsMap P K rawI b n (D.put (.int .i64 x) (.held v))) : MapI P K w1 b (if (f x).isSome then m else m + 1) (putI f x v) := by
  have hs : Maps.size (D.put (.int .i64 x) (.held v)) = if (f x).isSome then m else m + 1 := by
    rw [Maps.size_put hD, h3, h2]
  refine ⟨_, ?_, hs, fun y => ?_, fun y u hy z => ?_⟩
  · rw [← hs]
    obtain ⟨es, clock, hb, F, hsz, hD'⟩ := h
    refine ⟨es, clock, hb, F, ?_, hD'⟩
    rw [hD']
    simp [Maps.size, length_sorted]
  · unfold putI
    by_cases hyx : y = x
    · subst hyx
      simp [Maps.has_put_same hD.isMap (k := .int .i64 y) trivial]
    · rw [Maps.has_put_other (by simpa using hyx), h3, if_neg hyx]
  · unfold putI at hy
    by_cases hyx : y = x
    · subst hyx
      rw [if_pos rfl] at hy
      injection hy with hy
      rw [Maps.atKey_put_same hD.isMap (k := .int .i64 y) trivial, hy]
    · rw [if_neg hyx] at hy
      rw [Maps.atKey_put_other (by simpa using hyx)]
      exact h4 y u hy z

/-- m[x] = v at the operation, for the walk. -/
theorem wpList_update_I {P : Program} (w : World) {ops : Array Oper} {rest : List Oper} {o : Oper} {a : Act} {Q : Exit → Act → World → Prop}
    (hg : o.guard = none) (m x v : Operand) (t : TypeId) (hop : o.op = Op.mapUpdate t m x v) (K e : TypeId) (hK : P.underlying K = some (.int .i64)) (ht : P.underlying t = some (.map K e)) (b n : Nat) (f : Int → Option Value)
    (hm : a.eval m = .map (some b)) (h : MapI P K w b n f) (hn : n < maxLen) (s : Int) (hs : (Lit.int .i64 s).wf = true) (hx : a.eval x = .int .i64 s)
    (hK' : ∀ w', MapI P K w' b (if (f s).isSome then n else n + 1) (putI f s (a.eval v)) → w.grownBy w' (some b) → wpList P ops Q rest (a.put o.dst undef) w') :
    wpList P ops Q (o :: rest) a w := by
  obtain ⟨D, h1, h2, h3, h4⟩ := h
  refine wpList_mapUpdate_own w hg m x v t hop K e (int_keyed hK) ht rawI b n D hm h1 hn (.int .i64 s) (a.eval v) (.int .i64 s) hx rfl (keyOf_int_mk hK hs) (.held (a.eval v)) [] rfl (fun w' r1 r2 => hK' w' ?_ r2)
  exact mapI_put h2 h3 h4 (h1.tidy (int_keyed hK)) r1

/-- A key that is new. (An if in the post would part the walk.) -/
theorem wpList_update_new {P : Program} (w : World) {ops : Array Oper} {rest : List Oper} {o : Oper} {a : Act} {Q : Exit → Act → World → Prop}
    (hg : o.guard = none) (m x v : Operand) (t : TypeId) (hop : o.op = Op.mapUpdate t m x v) (K e : TypeId) (hK : P.underlying K = some (.int .i64)) (ht : P.underlying t = some (.map K e)) (b n : Nat) (f : Int → Option Value)
    (hm : a.eval m = .map (some b)) (h : MapI P K w b n f) (hn : n < maxLen) (s : Int) (hs : (Lit.int .i64 s).wf = true) (hx : a.eval x = .int .i64 s) (hnew : f s = none)
    (hK' : ∀ w', MapI P K w' b (n + 1) (putI f s (a.eval v)) → w.grownBy w' (some b) → wpList P ops Q rest (a.put o.dst undef) w') :
    wpList P ops Q (o :: rest) a w := by
  refine wpList_update_I w hg m x v t hop K e hK ht b n f hm h hn s hs hx (fun w' h1 h2 => hK' w' ?_ h2)
  rw [hnew] at h1
  exact h1

/-- A key that was there. -/
theorem wpList_update_old {P : Program} (w : World) {ops : Array Oper} {rest : List Oper} {o : Oper} {a : Act} {Q : Exit → Act → World → Prop}
    (hg : o.guard = none) (m x v : Operand) (t : TypeId) (hop : o.op = Op.mapUpdate t m x v) (K e : TypeId) (hK : P.underlying K = some (.int .i64)) (ht : P.underlying t = some (.map K e)) (b n : Nat) (f : Int → Option Value)
    (hm : a.eval m = .map (some b)) (h : MapI P K w b n f) (hn : n < maxLen) (s : Int) (hs : (Lit.int .i64 s).wf = true) (hx : a.eval x = .int .i64 s) (hold : (f s).isSome = true)
    (hK' : ∀ w', MapI P K w' b n (putI f s (a.eval v)) → w.grownBy w' (some b) → wpList P ops Q rest (a.put o.dst undef) w') :
    wpList P ops Q (o :: rest) a w := by
  refine wpList_update_I w hg m x v t hop K e hK ht b n f hm h hn s hs hx (fun w' h1 h2 => hK' w' ?_ h2)
  rw [if_pos hold] at h1
  exact h1

/-- m[x] = v, as an equation of the operation's run. -/
theorem MapI.put {P : Program} {K t e : TypeId} {w : World} {b m : Nat} {f : Int → Option Value} (h : MapI P K w b m f) (hK : P.underlying K = some (.int .i64)) (ht : P.underlying t = some (.map K e)) (hn : m < maxLen) {x : Int} (hx : (Lit.int .i64 x).wf = true) (v : Value) :
    ∃ w' m', (Instr.mapUpdate t (.map (some b)) (.int .i64 x) v).run P w = .ok () w' ∧ m' ≤ m + 1 ∧ MapI P K w' b m' (putI f x v) ∧ w.grownBy w' (some b) := by
  obtain ⟨D, h1, h2, h3, h4⟩ := h
  obtain ⟨w', hr, r1, r2⟩ := h1.update (int_keyed hK) ht hn (keyOf_int_mk hK hx) (val := v) (d := .held v) (ps := []) rfl
  exact ⟨w', _, hr, by split <;> omega, mapI_put h2 h3 h4 (h1.tidy (int_keyed hK)) r1, r2⟩

end Go.Proofs.Ythmogbldfecckaa
