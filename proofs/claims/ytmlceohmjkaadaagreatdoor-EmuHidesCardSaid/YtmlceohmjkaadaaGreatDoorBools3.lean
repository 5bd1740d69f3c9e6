/- A struct of three bools, as a value and as an element; a slice of bools that is read. It speaks of no program. Own work. -/
import Derived.Test.YtmlceohmjkaadaaGreatDoorBase
import Derived.Deep.Strs
import Derived.Deep.Grids
set_option linter.unusedVariables false
set_option linter.unusedSimpArgs false
namespace Go.Proofs.YtmlceohmjkaadaaGreatDoor
set_option linter.unusedVariables false
open Go.RowKit Go.ChangeShapes Go.WideShapes Go.Deep

section
variable {H : Type} {enc : TypeId × Value → H} {P : Program} {w : World}

theorem bools3_read {t e : TypeId} {f0 f1 f2 : Field} (ht : P.underlying t = some (.struct #[f0, f1, f2])) (hC : P.cellsOf t = 3) (he : P.underlying e = some .bool) (hc : P.cellsOf e = 1)
    (h0 : f0.type = e ∧ f0.offset = 0) (h1 : f1.type = e ∧ f1.offset = 1) (h2 : f2.type = e ∧ f2.offset = 2) {n : Nat} {cs : List Value} {y : DataW H × List MemPlace}
    (h : DataW.trod enc P w 0 (fun _ => true) true n t cs = some y) : ∃ a b c : Bool, cs = [.bool a, .bool b, .bool c] := by
  obtain ⟨y0, y1, y2, m, _, hl, g0, g1, g2⟩ := trod_struct3 ht h
  rw [hC] at hl
  match cs, hl with
  | [u0, u1, u2], _ =>
    rw [h0.1, h0.2, hc] at g0
    rw [h1.1, h1.2, hc] at g1
    rw [h2.1, h2.2, hc] at g2
    obtain ⟨a, e0, _⟩ := DataW.trod_bool he g0
    obtain ⟨b, e1, _⟩ := DataW.trod_bool he g1
    obtain ⟨c, e2, _⟩ := DataW.trod_bool he g2
    simp at e0 e1 e2
    exact ⟨a, b, c, by rw [e0, e1, e2]⟩

/-- Three bools that lie at b, off. -/
def Bools3 (w : World) (b off : Nat) (o : Bool × Bool × Bool) : Prop :=
  w.cell? ⟨b, off, none⟩ = some (.bool o.1) ∧ w.cell? ⟨b, off + 1, none⟩ = some (.bool o.2.1) ∧ w.cell? ⟨b, off + 2, none⟩ = some (.bool o.2.2)

theorem bools3_at {t e : TypeId} {f0 f1 f2 : Field} (ht : P.underlying t = some (.struct #[f0, f1, f2])) (hC : P.cellsOf t = 3) (he : P.underlying e = some .bool) (hc : P.cellsOf e = 1)
    (h0 : f0.type = e ∧ f0.offset = 0) (h1 : f1.type = e ∧ f1.offset = 1) (h2 : f2.type = e ∧ f2.offset = 2) (b off n : Nat) (cs : List Value) (y : DataW H × List MemPlace)
    (hw : ∀ i, i < 3 → w.cell? ⟨b, off + i, none⟩ = cs[i]?) (hl : cs.length = 3) (h : DataW.trod enc P w 0 (fun _ => true) true n t cs = some y) : ∃ o, Bools3 w b off o := by
  obtain ⟨u, v, x, rfl⟩ := bools3_read ht hC he hc h0 h1 h2 h
  exact ⟨(u, v, x), hw 0 (by omega), hw 1 (by omega), hw 2 (by omega)⟩

/-- n bools that are read. -/
def Bools (w : World) (A : Option Addr) (n : Nat) (xs : List Bool) : Prop :=
  xs.length = n ∧ (0 < n → ∃ b off, A = some ⟨b, off, none⟩ ∧ b < w.heap.size ∧ ∀ i x, xs[i]? = some x → w.cell? ⟨b, off + i, none⟩ = some (.bool x)) ∧ n ≤ maxLen

theorem bools_read {t e : TypeId} (ht : P.underlying t = some (.slice e)) (he : P.underlying e = some .bool) (hc : P.cellsOf e = 1) {fuel : Nat} {A : Option Addr} {n c : Nat} {y : DataW H × List MemPlace}
    (h : DataW.trod enc P w 0 (fun _ => true) true fuel t [.slice A n c] = some y) : ∃ xs, Bools w A n xs := by
  rcases open_bools ht he hc h with ⟨hcs, _⟩ | ⟨x, len, cap, B, hcs, _, hl, hm, _, hcell⟩
  · injection hcs with h1
    injection h1 with hA hn hc
    subst hA hn
    exact ⟨[], rfl, fun h => absurd h (by omega), by unfold maxLen; omega⟩
  · injection hcs with h1
    injection h1 with hA hn hc
    subst hA hn hc
    refine ⟨List.ofFn fun i : Fin n => B i, by simp, fun h0 => ?_, Nat.le_trans hl hm⟩
    obtain ⟨b, off, spot⟩ := x
    have hc := hcell 0 (by omega)
    have hspot : spot = none := by simpa [Addr.add] using World.cell?_spot hc
    subst hspot
    refine ⟨b, off, rfl, ?_, fun i v hi => ?_⟩
    · have := World.block_lt_of_cell? w _ hc
      simpa [Addr.add] using this
    · rw [List.getElem?_ofFn] at hi
      split at hi
      · injection hi with hi
        rw [← hi]
        have := hcell i (by omega)
        rwa [add_mk] at this
      · cases hi
end

end Go.Proofs.YtmlceohmjkaadaaGreatDoor
