/- The operations of law ChartPlays, read: a kind, a list of ints. Own work. -/
import Derived.Test.YthmogbldfecckaaBase
import Derived.Test.YthmogbldfecckaaChecked
import Derived.OpenShut
namespace Go.Proofs.Ythmogbldfecckaa
set_option linter.unusedVariables false
set_option linter.unusedSimpArgs false
open Go.RowKit Go.ChangeShapes Go.WideShapes Go.Deep

structure COp where
  kind : Int
  A : Option Addr
  n : Nat
  c : Nat
  l : List Int

/-- An operation that lies at b, off. -/
structure COpAt (w : World) (b off : Nat) (x : COp) : Prop where
  c0 : w.cell? ⟨b, off, none⟩ = some (.int .i64 x.kind)
  c1 : w.cell? ⟨b, off + 1, none⟩ = some (.slice x.A x.n x.c)
  l : Ints w x.A x.n x.l

section
variable {H : Type} {enc : TypeId × Value → H} {w : World}
theorem cof_ints : Try.prog.cellsOf 39 = 1 := by kernel_rfl
theorem cof_int : Try.prog.cellsOf 3 = 1 := by kernel_rfl

set_option maxRecDepth 100000 in
theorem cop_at (b off n : Nat) (cs : List Value) (y : DataW H × List MemPlace) (hw : ∀ i, i < 2 → w.cell? ⟨b, off + i, none⟩ = cs[i]?) (hl : cs.length = 2)
    (h : DataW.trod enc Try.prog w 0 (fun _ => true) true n 41 cs = some y) : ∃ o, COpAt w b off o := by
  obtain ⟨xs, m, _, rfl, _, hx, hf⟩ := DataW.trod_struct Try.underlying41 h
  match cs, hl with
  | [u0, u1], _ =>
    match xs, hx with
    | [y0, y1], _ =>
      obtain ⟨k, e0, _, w0⟩ := DataW.trod_int Try.underlying3 (show DataW.trod enc Try.prog w 0 (fun _ => true) true m 3 [u0] = some y0 by simpa [cof_int, cof_ints] using hf 0 _ rfl)
      have h1 : DataW.trod enc Try.prog w 0 (fun _ => true) true m 39 [u1] = some y1 := by simpa [cof_int, cof_ints] using hf 1 _ rfl
      obtain ⟨A, len, cap, zs, e1, hz⟩ := ints_read Try.underlying39 Try.underlying3 (by kernel_rfl) h1
      simp at e0
      have d0 := hw 0 (by omega)
      have d1 := hw 1 (by omega)
      exact ⟨⟨k, A, len, cap, zs⟩, by simpa [e0] using d0, by simpa [e1] using d1, hz⟩
end

end Go.Proofs.Ythmogbldfecckaa
