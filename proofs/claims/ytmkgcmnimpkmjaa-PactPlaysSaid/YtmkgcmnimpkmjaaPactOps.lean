/- The acts of law PactPlays, read. Own work. -/
import Derived.Test.YtmkgcmnimpkmjaaBase
import Derived.Test.YtmkgcmnimpkmjaaChecked
import Derived.OpenShut
namespace Go.Proofs.Ytmkgcmnimpkmjaa
set_option linter.unusedVariables false
set_option linter.unusedSimpArgs false
open Go.RowKit Go.ChangeShapes Go.WideShapes Go.Deep

/-- An act: a token; or the size; or the start. -/
structure OpV where
  k : Int
  c : Int
  o : Int
  s : ByteArray
  size : Bool
  start : Bool
  w : Int
  h : Int

/-- An act that lies at b, off. -/
structure OpAt (w : World) (b off : Nat) (x : OpV) : Prop where
  c0 : w.cell? ⟨b, off, none⟩ = some (.int .i64 x.k)
  c1 : w.cell? ⟨b, off + 1, none⟩ = some (.int .i64 x.c)
  c2 : w.cell? ⟨b, off + 2, none⟩ = some (.int .i64 x.o)
  c3 : w.cell? ⟨b, off + 3, none⟩ = some (.string x.s)
  c4 : w.cell? ⟨b, off + 4, none⟩ = some (.bool x.size)
  c5 : w.cell? ⟨b, off + 5, none⟩ = some (.bool x.start)
  c6 : w.cell? ⟨b, off + 6, none⟩ = some (.int .i64 x.w)
  c7 : w.cell? ⟨b, off + 7, none⟩ = some (.int .i64 x.h)
  lo : -9223372036854775808 ≤ x.o
  hi : x.o ≤ 9223372036854775807

section
variable {H : Type} {enc : TypeId × Value → H} {w : World}

set_option maxRecDepth 100000 in
set_option maxHeartbeats 800000 in
theorem op_at (b off n : Nat) (cs : List Value) (y : DataW H × List MemPlace) (hw : ∀ i, i < 8 → w.cell? ⟨b, off + i, none⟩ = cs[i]?) (hl : cs.length = 8)
    (h : DataW.trod enc Try.prog w 0 (fun _ => true) true n 31 cs = some y) : ∃ o, OpAt w b off o := by
  obtain ⟨xs, m, _, _, _, hx, hf⟩ := DataW.trod_struct Try.underlying31 h
  match cs, hl with
  | [u0, u1, u2, u3, u4, u5, u6, u7], _ =>
    match xs, hx with
    | [y0, y1, y2, y3, y4], _ =>
      have h0 := hf 0 _ rfl
      have h1 := hf 1 _ rfl
      have h2 := hf 2 _ rfl
      have h3 := hf 3 _ rfl
      have h4 := hf 4 _ rfl
      have g0 : DataW.trod enc Try.prog w 0 (fun _ => true) true m 29 [u0, u1, u2, u3] = some y0 := h0
      have g1 : DataW.trod enc Try.prog w 0 (fun _ => true) true m 4 [u4] = some y1 := h1
      have g2 : DataW.trod enc Try.prog w 0 (fun _ => true) true m 4 [u5] = some y2 := h2
      have g3 : DataW.trod enc Try.prog w 0 (fun _ => true) true m 3 [u6] = some y3 := h3
      have g4 : DataW.trod enc Try.prog w 0 (fun _ => true) true m 3 [u7] = some y4 := h4
      clear h0 h1 h2 h3 h4 hf h
      obtain ⟨zs, m2, _, _, _, hz, hg⟩ := DataW.trod_struct Try.underlying29 g0
      match zs, hz with
      | [z0, z1, z2, z3], _ =>
        have k0 : DataW.trod enc Try.prog w 0 (fun _ => true) true m2 3 [u0] = some z0 := hg 0 _ rfl
        have k1 : DataW.trod enc Try.prog w 0 (fun _ => true) true m2 3 [u1] = some z1 := hg 1 _ rfl
        have k2 : DataW.trod enc Try.prog w 0 (fun _ => true) true m2 3 [u2] = some z2 := hg 2 _ rfl
        have k3 : DataW.trod enc Try.prog w 0 (fun _ => true) true m2 9 [u3] = some z3 := hg 3 _ rfl
        obtain ⟨a0, e0, _, _⟩ := DataW.trod_int Try.underlying3 k0
        obtain ⟨a1, e1, _, _⟩ := DataW.trod_int Try.underlying3 k1
        obtain ⟨a2, e2, _, w2⟩ := DataW.trod_int Try.underlying3 k2
        obtain ⟨a3, e3, _, _⟩ := DataW.trod_string Try.underlying9 k3
        obtain ⟨a4, e4, _⟩ := DataW.trod_bool Try.underlying4 g1
        obtain ⟨a5, e5, _⟩ := DataW.trod_bool Try.underlying4 g2
        obtain ⟨a6, e6, _, _⟩ := DataW.trod_int Try.underlying3 g3
        obtain ⟨a7, e7, _, _⟩ := DataW.trod_int Try.underlying3 g4
        simp at e0 e1 e2 e3 e4 e5 e6 e7
        subst e0 e1 e2 e3 e4 e5 e6 e7
        obtain ⟨b0, b1⟩ := wf_bounds w2
        exact ⟨⟨a0, a1, a2, a3, a4, a5, a6, a7⟩, hw 0 (by omega), hw 1 (by omega), hw 2 (by omega), hw 3 (by omega), hw 4 (by omega), hw 5 (by omega), hw 6 (by omega), hw 7 (by omega), b0, b1⟩
end

end Go.Proofs.Ytmkgcmnimpkmjaa
