/- A []Op of chapter 7 (Kind, A, K int; S string). Own work. -/
import Derived.Test.YtncpjapfkcgjnaaDoorStructs
namespace Go.Proofs.YtncpjapfkcgjnaaDoor
set_option linter.unusedVariables false
set_option linter.unusedSimpArgs false
open Go.RowKit Go.ChangeShapes Go.WideShapes Go.Deep

/-- An operation, as it stands in memory. -/
structure FOp where
  kind : Int
  a : Int
  k : Int
  s : ByteArray

/-- Its four cells at an address. -/
def FOpAt (w : World) (b off : Nat) (o : FOp) : Prop :=
  w.cell? ⟨b, off, none⟩ = some (.int .i64 o.kind) ∧ w.cell? ⟨b, off + 1, none⟩ = some (.int .i64 o.a) ∧ w.cell? ⟨b, off + 2, none⟩ = some (.int .i64 o.k) ∧ w.cell? ⟨b, off + 3, none⟩ = some (.string o.s) ∧
  (-9223372036854775808 ≤ o.kind ∧ o.kind ≤ 9223372036854775807) ∧ (-9223372036854775808 ≤ o.a ∧ o.a ≤ 9223372036854775807) ∧ (-9223372036854775808 ≤ o.k ∧ o.k ≤ 9223372036854775807) ∧ o.s.size ≤ maxLen

theorem fop_of {H : Type} {enc : TypeId × Value → H} {P : Program} {w : World} {e : TypeId} {f0 f1 f2 f3 : Field} (hs : P.underlying e = some (.struct #[f0, f1, f2, f3])) (hone : oneCellFields P #[f0, f1, f2, f3] = true) (hC : P.cellsOf e = 4)
    (h0 : P.underlying f0.type = some (.int .i64)) (h1 : P.underlying f1.type = some (.int .i64)) (h2 : P.underlying f2.type = some (.int .i64)) (h3 : P.underlying f3.type = some .string)
    (b off n : Nat) (cs : List Value) (y : DataW H × List MemPlace) (hcell : ∀ i, i < 4 → w.cell? ⟨b, off + i, none⟩ = cs[i]?) (hlen : cs.length = 4) (h : DataW.trod enc P w 0 (fun _ => true) true n e cs = some y) : ∃ o, FOpAt w b off o := by
  obtain ⟨xs, m, _, _, _, hxl, hf⟩ := DataW.trod_struct hs h
  match cs, hlen with
  | [c0, c1, c2, c3], _ =>
    obtain ⟨o0, k0⟩ := hone_of hone 0 f0 rfl
    obtain ⟨o1, k1⟩ := hone_of hone 1 f1 rfl
    obtain ⟨o2, k2⟩ := hone_of hone 2 f2 rfl
    obtain ⟨o3, k3⟩ := hone_of hone 3 f3 rfl
    match xs, hxl with
    | [y0, y1, y2, y3], _ =>
      have g0 := hf 0 f0 rfl
      have g1 := hf 1 f1 rfl
      have g2 := hf 2 f2 rfl
      have g3 := hf 3 f3 rfl
      simp [o0, k0] at g0
      simp [o1, k1] at g1
      simp [o2, k2] at g2
      simp [o3, k3] at g3
      obtain ⟨k, hk, _, wk⟩ := DataW.trod_int h0 g0
      obtain ⟨q, hq, _, wq⟩ := DataW.trod_int h1 g1
      obtain ⟨r, hr, _, wr⟩ := DataW.trod_int h2 g2
      obtain ⟨s, hs2, _, ws⟩ := DataW.trod_string h3 g3
      injection hk with hk
      injection hq with hq
      injection hr with hr
      injection hs2 with hs2
      subst hk hq hr hs2
      have d0 := hcell 0 (by omega)
      have d1 := hcell 1 (by omega)
      have d2 := hcell 2 (by omega)
      have d3 := hcell 3 (by omega)
      exact ⟨⟨k, q, r, s⟩, by simpa using d0, by simpa using d1, by simpa using d2, by simpa using d3, wf_bounds wk, wf_bounds wq, wf_bounds wr, ws⟩

end Go.Proofs.YtncpjapfkcgjnaaDoor
