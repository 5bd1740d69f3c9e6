/- Two ints in an array, as an element. It speaks of no program. Own work. -/
import Derived.Test.YtmlceohmjkaadaaGreatDoorBase
import Derived.OpenShut
set_option linter.unusedVariables false
set_option linter.unusedSimpArgs false
namespace Go.Proofs.YtmlceohmjkaadaaGreatDoor
set_option linter.unusedVariables false
open Go.RowKit Go.ChangeShapes Go.WideShapes Go.Deep

section
variable {H : Type} {enc : TypeId × Value → H} {P : Program} {w : World}

/-- Two ints that lie at b, off. -/
def Ints2 (w : World) (b off : Nat) (o : Int × Int) : Prop := w.cell? ⟨b, off, none⟩ = some (.int .i64 o.1) ∧ w.cell? ⟨b, off + 1, none⟩ = some (.int .i64 o.2)

theorem ints2_at {t e : TypeId} (ht : P.underlying t = some (.array 2 e)) (he : P.underlying e = some (.int .i64)) (hc : P.cellsOf e = 1) (b off n : Nat) (cs : List Value) (y : DataW H × List MemPlace)
    (hw : ∀ i, i < 2 → w.cell? ⟨b, off + i, none⟩ = cs[i]?) (hl : cs.length = 2) (h : DataW.trod enc P w 0 (fun _ => true) true n t cs = some y) : ∃ o, Ints2 w b off o := by
  obtain ⟨xs, m, _, _, _, hx, hf⟩ := DataW.trod_array ht h
  rw [hc] at hf
  match cs, hl with
  | [u0, u1], _ =>
    match xs, hx with
    | [y0, y1], _ =>
      have h0 := hf 0 (by omega)
      have h1 := hf 1 (by omega)
      simp at h0 h1
      obtain ⟨a, e0, _⟩ := DataW.trod_int he h0
      obtain ⟨c, e1, _⟩ := DataW.trod_int he h1
      simp at e0 e1
      subst e0 e1
      exact ⟨(a, c), hw 0 (by omega), hw 1 (by omega)⟩
end

end Go.Proofs.YtmlceohmjkaadaaGreatDoor
