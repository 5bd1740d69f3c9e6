/- A []Op of chapter 2 (Kind, N int; T []string). Own work. -/
import Derived.Test.YthpghomnfailkaaStructs
import Derived.Test.YthpghomnfailkaaRingHas
namespace Go.Proofs.Ythpghomnfailkaa
set_option linter.unusedVariables false
open Go.RowKit Go.ChangeShapes Go.WideShapes Go.Deep

/-- An operation, as it stands in memory. -/
structure OpV where
  kind : Int
  n : Int
  T : List ByteArray

/-- Its three cells at an address. -/
def OpAt (w : World) (b off : Nat) (o : OpV) : Prop :=
  w.cell? ⟨b, off, none⟩ = some (.int .i64 o.kind) ∧ w.cell? ⟨b, off + 1, none⟩ = some (.int .i64 o.n) ∧
  (∃ A c, w.cell? ⟨b, off + 2, none⟩ = some (.slice A o.T.length c) ∧ Strs w A o.T.length o.T) ∧
  (-9223372036854775808 ≤ o.kind ∧ o.kind ≤ 9223372036854775807) ∧ (-9223372036854775808 ≤ o.n ∧ o.n ≤ 9223372036854775807)

theorem op_of {H : Type} {enc : TypeId × Value → H} {P : Program} {w : World} {e : TypeId} {f0 f1 f2 : Field} {ts : TypeId} (hs : P.underlying e = some (.struct #[f0, f1, f2])) (hone : oneCellFields P #[f0, f1, f2] = true) (hC : P.cellsOf e = 3)
    (h0 : P.underlying f0.type = some (.int .i64)) (h1 : P.underlying f1.type = some (.int .i64)) (h2 : P.underlying f2.type = some (.slice ts)) (hts : P.underlying ts = some .string) (hcs : P.cellsOf ts = 1)
    (b off n : Nat) (cs : List Value) (y : DataW H × List MemPlace) (hcell : ∀ i, i < 3 → w.cell? ⟨b, off + i, none⟩ = cs[i]?) (hlen : cs.length = 3) (h : DataW.trod enc P w 0 (fun _ => true) true n e cs = some y) : ∃ o, OpAt w b off o := by
  obtain ⟨xs, m, _, _, _, hxl, hf⟩ := DataW.trod_struct hs h
  match cs, hlen with
  | [c0, c1, c2], _ =>
    obtain ⟨o0, k0⟩ := hone_of hone 0 f0 rfl
    obtain ⟨o1, k1⟩ := hone_of hone 1 f1 rfl
    obtain ⟨o2, k2⟩ := hone_of hone 2 f2 rfl
    match xs, hxl with
    | [y0, y1, y2], _ =>
      have g0 := hf 0 f0 rfl
      have g1 := hf 1 f1 rfl
      have g2 := hf 2 f2 rfl
      simp [o0, k0] at g0
      simp [o1, k1] at g1
      simp [o2, k2] at g2
      obtain ⟨k, hk, _, wk⟩ := DataW.trod_int h0 g0
      obtain ⟨q, hq, _, wq⟩ := DataW.trod_int h1 g1
      obtain ⟨A2, l2, p2, z2, rfl, hz2⟩ := strs_read h2 hts hcs g2
      injection hk with hk
      injection hq with hq
      subst hk hq
      have e2 := hz2.1
      subst e2
      have d0 := hcell 0 (by omega)
      have d1 := hcell 1 (by omega)
      have d2 := hcell 2 (by omega)
      exact ⟨⟨k, q, z2⟩, by simpa using d0, by simpa using d1, ⟨A2, p2, by simpa using d2, hz2⟩, wf_bounds wk, wf_bounds wq⟩

end Go.Proofs.Ythpghomnfailkaa
