/- A []Op of chapter 3 (Kind, N, M int; L []int). Own work. -/
import Derived.Test.YtkhhmnmemdadmaaStructs
import Derived.Test.YtkhhmnmemdadmaaTallyTop
namespace Go.Proofs.Ytkhhmnmemdadmaa
set_option linter.unusedVariables false
open Go.RowKit Go.ChangeShapes Go.WideShapes Go.Deep

/-- An operation, as it stands in memory. -/
structure OpV where
  kind : Int
  n : Int
  m : Int
  L : List Int

/-- Its four cells at an address. -/
def OpAt (w : World) (b off : Nat) (o : OpV) : Prop :=
  w.cell? ⟨b, off, none⟩ = some (.int .i64 o.kind) ∧ w.cell? ⟨b, off + 1, none⟩ = some (.int .i64 o.n) ∧ w.cell? ⟨b, off + 2, none⟩ = some (.int .i64 o.m) ∧
  (∃ A c, w.cell? ⟨b, off + 3, none⟩ = some (.slice A o.L.length c) ∧ Ints w A o.L.length o.L) ∧
  (-9223372036854775808 ≤ o.kind ∧ o.kind ≤ 9223372036854775807) ∧ (-9223372036854775808 ≤ o.n ∧ o.n ≤ 9223372036854775807) ∧ (-9223372036854775808 ≤ o.m ∧ o.m ≤ 9223372036854775807)

theorem op_of {H : Type} {enc : TypeId × Value → H} {P : Program} {w : World} {e : TypeId} {f0 f1 f2 f3 : Field} {ts : TypeId} (hs : P.underlying e = some (.struct #[f0, f1, f2, f3])) (hone : oneCellFields P #[f0, f1, f2, f3] = true) (hC : P.cellsOf e = 4)
    (h0 : P.underlying f0.type = some (.int .i64)) (h1 : P.underlying f1.type = some (.int .i64)) (h2 : P.underlying f2.type = some (.int .i64)) (h3 : P.underlying f3.type = some (.slice ts)) (hts : P.underlying ts = some (.int .i64)) (hcs : P.cellsOf ts = 1)
    (b off n : Nat) (cs : List Value) (y : DataW H × List MemPlace) (hcell : ∀ i, i < 4 → w.cell? ⟨b, off + i, none⟩ = cs[i]?) (hlen : cs.length = 4) (h : DataW.trod enc P w 0 (fun _ => true) true n e cs = some y) : ∃ o, OpAt w b off o := by
  obtain ⟨xs, m, _, _, _, hxl, hf⟩ := DataW.trod_struct hs h
  match cs, hlen with
  | [c0, c1, c2, c3], _ =>
    obtain ⟨o0, k0⟩ := hone_of hone 0 f0 rfl
    obtain ⟨o1, k1⟩ := hone_of hone 1 f1 rfl
    obtain ⟨o2, k2⟩ := hone_of hone 2 f2 rfl
    obtain ⟨o3, k3⟩ := hone_of hone 3 f3 rfl
    match xs, hxl with
    | [y0, y1, y2, y3], _ =>
      have g0 := hf 0 f0 rfl
      have g1 := hf 1 f1 rfl
      have g2 := hf 2 f2 rfl
      have g3 := hf 3 f3 rfl
      simp [o0, k0] at g0
      simp [o1, k1] at g1
      simp [o2, k2] at g2
      simp [o3, k3] at g3
      obtain ⟨k, hk, _, wk⟩ := DataW.trod_int h0 g0
      obtain ⟨q, hq, _, wq⟩ := DataW.trod_int h1 g1
      obtain ⟨r, hr, _, wr⟩ := DataW.trod_int h2 g2
      obtain ⟨A2, l2, p2, z2, rfl, hz2⟩ := ints_read h3 hts hcs g3
      injection hk with hk
      injection hq with hq
      injection hr with hr
      subst hk hq hr
      have e2 := hz2.1
      subst e2
      have d0 := hcell 0 (by omega)
      have d1 := hcell 1 (by omega)
      have d2 := hcell 2 (by omega)
      have d3 := hcell 3 (by omega)
      exact ⟨⟨k, q, r, z2⟩, by simpa using d0, by simpa using d1, by simpa using d2, ⟨A2, p2, by simpa using d3, hz2⟩, wf_bounds wk, wf_bounds wq, wf_bounds wr⟩

end Go.Proofs.Ytkhhmnmemdadmaa
