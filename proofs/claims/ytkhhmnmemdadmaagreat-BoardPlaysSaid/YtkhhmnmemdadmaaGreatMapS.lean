/- Maps whose keys are strings, told by their keys and a function; what an object owns. It speaks of no program. Own work. -/
import Derived.Test.YtkhhmnmemdadmaaGreatGen
import Derived.Maps.OwnSet
import Derived.Maps.OwnOps
import Derived.Sort.KeysCollected
namespace Go.Proofs.YtkhhmnmemdadmaaGreat
set_option linter.unusedVariables false
open Go.RowKit Go.Maps Go.WideMaps

/-- An element reads as itself. -/
def raw (v : Value) : Option (DataW Value × List MemPlace) := some (.held v, [])

/-- Block b is a map: its keys are ks; at each of them stands f. -/
def MapS (P : Program) (K : TypeId) (w : World) (b : Nat) (ks : List (List UInt8)) (f : List UInt8 → Value) : Prop :=
  ∃ D : DataW Value, w.ownsMap P K raw b ks.length D ∧ ks.Nodup ∧ (∀ x, x ∈ ks ↔ Maps.has D (.string x) = true) ∧ ∀ x ∈ ks, ∀ z, D.atKey (.string x) z = .held (f x)

theorem owns_keep {S : Nat → Prop} {w w' : World} {P : Program} {K : TypeId} {R : Value → Option (DataW Value × List MemPlace)} {b n : Nat} {D : DataW Value} (h : w.ownsMap P K R b n D) (k : Keep S w w') (hn : ¬ S b) : w'.ownsMap P K R b n D := by
  obtain ⟨es, clock, hb, F, hs, hD⟩ := h
  exact ⟨es, clock, k.heap hb hn, F, hs, hD⟩

namespace MapS
variable {P : Program} {K t e : TypeId} {w w' : World} {b : Nat} {ks : List (List UInt8)} {f : List UInt8 → Value}

theorem keep {S : Nat → Prop} (h : MapS P K w b ks f) (k : Keep S w w') (hn : ¬ S b) : MapS P K w' b ks f := by
  obtain ⟨D, h1, h2⟩ := h
  exact ⟨D, owns_keep h1 k hn, h2⟩

theorem lt (h : MapS P K w b ks f) : b < w.heap.size := by
  obtain ⟨D, h1, _⟩ := h
  exact h1.lt

theorem congr {f' : List UInt8 → Value} (h : MapS P K w b ks f) (hf : ∀ x ∈ ks, f x = f' x) : MapS P K w b ks f' := by
  obtain ⟨D, h1, h2, h3, h4⟩ := h
  exact ⟨D, h1, h2, h3, fun x hx z => by rw [h4 x hx z, hf x hx]⟩

theorem nodup (h : MapS P K w b ks f) : ks.Nodup := by
  obtain ⟨D, _, h2, _⟩ := h
  exact h2

theorem made (P : Program) (K : TypeId) (w : World) (f : List UInt8 → Value) (g : Nat) (hg : g = w.heap.size) : MapS P K (w.alloc (.map #[] 0)) g [] f := by
  subst hg
  exact ⟨.map [], World.ownsMap_made w P K raw, List.nodup_nil, fun x => by simp [Maps.has], fun x hx => by simp at hx⟩

theorem isMap (h : MapS P K w b ks f) : ∃ es clock, w.heap[b]? = some (.map es clock) := by
  obtain ⟨D, ⟨es, clock, hb, _⟩, _⟩ := h
  exact ⟨es, clock, hb⟩

theorem no_cell (h : MapS P K w b ks f) (i : Nat) : w.cell? ⟨b, i, none⟩ = none := by
  obtain ⟨es, clock, hb⟩ := h.isMap
  simp [World.cell?, hb]

theorem look_in (h : MapS P K w b ks f) (hK : P.underlying K = some .string) (ht : P.underlying t = some (.map K e)) {z : Value} (hz : (zeroValue e).run P w = .ok z w) {s : ByteArray} (hs : s.size ≤ maxLen) (hin : s.data.toList ∈ ks) :
    (Instr.lookup t (.map (some b)) (.string s) false).run P w = .ok (f s.data.toList) w := by
  obtain ⟨D, h1, h2, h3, h4⟩ := h
  obtain ⟨v, ps, hr, hv⟩ := h1.lookup (string_keyed hK) ht hz (zd := .held z) (zp := []) rfl (keyOf_string_mk hK hs)
  rw [h4 _ hin] at hv
  injection hv with hv
  injection hv with hv _
  injection hv with hv
  rw [hr, hv]

theorem look_out (h : MapS P K w b ks f) (hK : P.underlying K = some .string) (ht : P.underlying t = some (.map K e)) {z : Value} (hz : (zeroValue e).run P w = .ok z w) {s : ByteArray} (hs : s.size ≤ maxLen) (hout : s.data.toList ∉ ks) :
    (Instr.lookup t (.map (some b)) (.string s) false).run P w = .ok z w := by
  obtain ⟨D, h1, h2, h3, h4⟩ := h
  obtain ⟨v, ps, hr, hv⟩ := h1.lookup (string_keyed hK) ht hz (zd := .held z) (zp := []) rfl (keyOf_string_mk hK hs)
  have hno : Maps.has D (.string s.data.toList) = false := by
    cases hh : Maps.has D (.string s.data.toList) with
    | false => rfl
    | true => exact absurd ((h3 _).2 hh) hout
  rw [Maps.atKey_of_not_has hno] at hv
  injection hv with hv
  injection hv with hv _
  injection hv with hv
  rw [hr, hv]

theorem ask (h : MapS P K w b ks f) (hK : P.underlying K = some .string) (ht : P.underlying t = some (.map K e)) {z : Value} (hz : (zeroValue e).run P w = .ok z w) {s : ByteArray} (hs : s.size ≤ maxLen) :
    (s.data.toList ∈ ks → (Instr.lookup t (.map (some b)) (.string s) true).run P w = .ok (.tuple #[f s.data.toList, .bool true]) w) ∧ (s.data.toList ∉ ks → (Instr.lookup t (.map (some b)) (.string s) true).run P w = .ok (.tuple #[z, .bool false]) w) := by
  obtain ⟨D, h1, h2, h3, h4⟩ := h
  obtain ⟨v, ps, hr, hv⟩ := h1.look_ok (string_keyed hK) ht hz (zd := .held z) (zp := []) rfl (keyOf_string_mk hK hs)
  refine ⟨fun hin => ?_, fun hout => ?_⟩
  · rw [h4 _ hin] at hv
    injection hv with hv
    injection hv with hv _
    injection hv with hv
    rw [hr, (h3 _).1 hin, hv]
  · have hno : Maps.has D (.string s.data.toList) = false := by
      cases hh : Maps.has D (.string s.data.toList) with
      | false => rfl
      | true => exact absurd ((h3 _).2 hh) hout
    rw [Maps.atKey_of_not_has hno] at hv
    injection hv with hv
    injection hv with hv _
    injection hv with hv
    rw [hr, hno, hv]

theorem perm (h : MapS P K w b ks f) (hK : P.underlying K = some .string) : ∃ D : DataW Value, w.ownsMap P K raw b ks.length D ∧ ks.Perm (strKeys D) ∧ Maps.size D = ks.length := by
  obtain ⟨D, h1, h2, h3, h4⟩ := h
  have hp : ks.Perm (strKeys D) := Collected.perm (left := fun _ => false) ⟨h2, fun x => by simp [h3 x]⟩ h1 (string_keyed hK) hK (fun _ => rfl)
  refine ⟨D, h1, hp, ?_⟩
  rw [hp.length_eq]
  obtain ⟨es, clock, _, _, _, rfl⟩ := h1
  simp [strKeys, Maps.size]

end MapS

/-- A key that is put in. -/
def insKey (s : List UInt8) (ks : List (List UInt8)) : List (List UInt8) := if s ∈ ks then ks else s :: ks
theorem insKey_in {s : List UInt8} {ks : List (List UInt8)} (h : s ∈ ks) : insKey s ks = ks := if_pos h
theorem insKey_out {s : List UInt8} {ks : List (List UInt8)} (h : s ∉ ks) : insKey s ks = s :: ks := if_neg h
theorem mem_insKey {s x : List UInt8} {ks : List (List UInt8)} : x ∈ insKey s ks ↔ x = s ∨ x ∈ ks := by
  unfold insKey
  split
  · exact ⟨.inr, fun h => by rcases h with rfl | h <;> assumption⟩
  · simp
theorem nodup_insKey {s : List UInt8} {ks : List (List UInt8)} (h : ks.Nodup) : (insKey s ks).Nodup := by
  unfold insKey
  split
  · exact h
  · exact List.nodup_cons.2 ⟨by assumption, h⟩

/-- One value of a function. -/
def setAt {α : Type} (f : List UInt8 → α) (s : List UInt8) (v : α) : List UInt8 → α := fun x => if x = s then v else f x
theorem setAt_same {α : Type} (f : List UInt8 → α) (s : List UInt8) (v : α) : setAt f s v s = v := if_pos rfl
theorem setAt_other {α : Type} (f : List UInt8 → α) {s x : List UInt8} (v : α) (h : x ≠ s) : setAt f s v x = f x := if_neg h

/-- m[s] = v: what the store leaves. -/
theorem MapS.put {P : Program} {K : TypeId} {w1 : World} {b : Nat} {ks : List (List UInt8)} {f : List UInt8 → Value} {D : DataW Value} {s : List UInt8} {v : Value} {n : Nat} (h2 : ks.Nodup) (h3 : ∀ x, x ∈ ks ↔ Maps.has D (.string x) = true) (h4 : ∀ x ∈ ks, ∀ z, D.atKey (.string x) z = .held (f x))
    (hD : Maps.IsMap D) (hK : P.underlying K = some .string) (h : w1.ownsMap P K raw b n (D.put (.string s) (.held v))) : MapS P K w1 b (insKey s ks) (setAt f s v) := by
  have k3 : ∀ x, x ∈ insKey s ks ↔ Maps.has (D.put (.string s) (.held v)) (.string x) = true := fun x => by
    rw [mem_insKey]
    by_cases hx : x = s
    · subst hx
      simp [Maps.has_put_same hD (k := .string x) trivial]
    · rw [Maps.has_put_other (by simpa using hx), ← h3 x]
      simp [hx]
  have hp : (insKey s ks).Perm (strKeys (D.put (.string s) (.held v))) := Collected.perm (left := fun _ => false) ⟨nodup_insKey h2, fun x => by simp [k3 x]⟩ h (string_keyed hK) hK (fun _ => rfl)
  refine ⟨_, ?_, nodup_insKey h2, k3, fun x hx z => ?_⟩
  · have hl := hp.length_eq
    obtain ⟨es, clock, hb, F, hs, hD'⟩ := h
    refine ⟨es, clock, hb, F, ?_, hD'⟩
    rw [hD'] at hl
    simp [strKeys, length_sorted] at hl
    omega
  · by_cases hxs : x = s
    · subst hxs
      rw [Maps.atKey_put_same hD (k := .string x) trivial, setAt_same]
    · rw [Maps.atKey_put_other (by simpa using hxs), setAt_other _ _ hxs]
      exact h4 x (by rcases mem_insKey.1 hx with r | r; exact absurd r hxs; exact r) z

/-- At the operation, for the walk. -/
theorem wpList_update_S {P : Program} (w : World) {ops : Array Oper} {rest : List Oper} {o : Oper} {a : Act} {Q : Exit → Act → World → Prop}
    (hg : o.guard = none) (m x v : Operand) (t : TypeId) (hop : o.op = Op.mapUpdate t m x v) (K e : TypeId) (hK : P.underlying K = some .string) (ht : P.underlying t = some (.map K e)) (b : Nat) (ks : List (List UInt8)) (f : List UInt8 → Value)
    (hm : a.eval m = .map (some b)) (h : MapS P K w b ks f) (hn : ks.length < maxLen) (s : ByteArray) (hs : s.size ≤ maxLen) (hx : a.eval x = .string s)
    (hK' : ∀ w', MapS P K w' b (insKey s.data.toList ks) (setAt f s.data.toList (a.eval v)) → w.grownBy w' (some b) → wpList P ops Q rest (a.put o.dst undef) w') :
    wpList P ops Q (o :: rest) a w := by
  obtain ⟨D, h1, h2, h3, h4⟩ := h
  refine wpList_mapUpdate_own w hg m x v t hop K e (string_keyed hK) ht raw b ks.length D hm h1 hn (.string s) (a.eval v) (.string s.data.toList) hx rfl (keyOf_string_mk hK hs) (.held (a.eval v)) [] rfl (fun w' r1 r2 => hK' w' ?_ r2)
  exact MapS.put h2 h3 h4 h1.isMap hK r1

/-- What a call turns of what an object owns; what it owns then is that, or new. -/
def Step (own : Nat → Prop) (w : World) (own' : Nat → Prop) (w' : World) : Prop := Keep own w w' ∧ ∀ k, own' k → own k ∨ w.heap.size ≤ k

theorem Step.refl (own : Nat → Prop) (w : World) : Step own w own w := ⟨Keep.refl _ _, fun _ h => .inl h⟩
theorem Step.trans {o o1 o2 : Nat → Prop} {w w1 w2 : World} (h : Step o w o1 w1) (k : Step o1 w1 o2 w2) : Step o w o2 w2 := by
  refine ⟨h.1.trans k.1 fun i hi hs => ?_, fun j hj => ?_⟩
  · rcases h.2 i hs with h2 | h2
    · exact h2
    · omega
  · rcases k.2 j hj with h2 | h2
    · exact h.2 j h2
    · exact .inr (Nat.le_trans h.1.size h2)
theorem Step.of_keep {own S : Nat → Prop} {w w' : World} (h : Keep S w w') (hs : ∀ i, S i → own i) : Step own w own w' := ⟨h.mono fun i _ x => hs i x, fun _ x => .inl x⟩

end Go.Proofs.YtkhhmnmemdadmaaGreat
