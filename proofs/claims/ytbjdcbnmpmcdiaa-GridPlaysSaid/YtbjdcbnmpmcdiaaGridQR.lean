/- A slice that is read has no more than its room. Own work. A Screen that is handed in by value. Own work. The operations of law GridPlays, read: four ints, a cell, a list of cells. Own work. -/
import Derived.Test.YtbjdcbnmpmcdiaaCellRead
set_option linter.unusedVariables false
set_option linter.unusedSimpArgs false
namespace Go.Proofs.Ytbjdcbnmpmcdiaa
set_option linter.unusedVariables false
open Go.RowKit
section
open Go.ChangeShapes Go.WideShapes Go.Deep
theorem slice_cap {H : Type} {enc : TypeId × Value → H} {P : Program} {w : World} {t e : TypeId} (ht : P.underlying t = some (.slice e)) {fuel : Nat} {A : Option Addr} {len cap : Nat} {y : DataW H × List MemPlace}
    (h : DataW.trod enc P w 0 (fun _ => true) true fuel t [.slice A len cap] = some y) : len ≤ cap := by
  rcases open_slice ht h with ⟨hcs', _⟩ | ⟨a, len', cap', mm, n, D, Pl, hcs', _, hl, hm, hmm, _, hi⟩
  · injection hcs' with h4
    injection h4 with hA hn hc
    omega
  · injection hcs' with h4
    injection h4 with hA hn hc
    omega
end

end Go.Proofs.Ytbjdcbnmpmcdiaa
namespace Go.Proofs.Ytbjdcbnmpmcdiaa
set_option linter.unusedVariables false
open Go.RowKit
section
open Go.ChangeShapes Go.WideShapes Go.Deep
variable {H : Type} {enc : TypeId × Value → H} {w : World}

theorem cof_cells : Try.prog.cellsOf 43 = 1 := by kernel_rfl

set_option maxRecDepth 100000 in
theorem screen_read {n : Nat} {cs : List Value} {y : DataW H × List MemPlace} (h : DataW.trod enc Try.prog w 0 (fun _ => true) true n 67 cs = some y) :
    ∃ (a b : Int) (A : Option Addr) (m c : Nat) (X Y : Int) (hid : Bool) (xs : List CellM), cs = [.int .i64 a, .int .i64 b, .slice A m c, .int .i64 X, .int .i64 Y, .bool hid] ∧ (Lit.int .i64 a).wf = true ∧ (Lit.int .i64 b).wf = true ∧ CellsL w A m xs := by
  obtain ⟨xs, m, _, rfl, hl, hlen, hf⟩ := DataW.trod_struct Try.underlying67 h
  have hl' : cs.length = 6 := hl
  match cs, hl' with
  | [u0, u1, u2, u3, u4, u5], _ =>
    match xs, hlen with
    | [y0, y1, y2, y3, y4, y5], _ =>
      obtain ⟨a, e0, _, w0⟩ := DataW.trod_int Try.underlying3 (show DataW.trod enc Try.prog w 0 (fun _ => true) true m 3 [u0] = some y0 by simpa [cof_int, cof_bool, cof_cells] using hf 0 _ rfl)
      obtain ⟨b, e1, _, w1⟩ := DataW.trod_int Try.underlying3 (show DataW.trod enc Try.prog w 0 (fun _ => true) true m 3 [u1] = some y1 by simpa [cof_int, cof_bool, cof_cells] using hf 1 _ rfl)
      have h2 : DataW.trod enc Try.prog w 0 (fun _ => true) true m 43 [u2] = some y2 := by simpa [cof_int, cof_bool, cof_cells] using hf 2 _ rfl
      obtain ⟨X, e3, _, _⟩ := DataW.trod_int Try.underlying3 (show DataW.trod enc Try.prog w 0 (fun _ => true) true m 3 [u3] = some y3 by simpa [cof_int, cof_bool, cof_cells] using hf 3 _ rfl)
      obtain ⟨Y, e4, _, _⟩ := DataW.trod_int Try.underlying3 (show DataW.trod enc Try.prog w 0 (fun _ => true) true m 3 [u4] = some y4 by simpa [cof_int, cof_bool, cof_cells] using hf 4 _ rfl)
      obtain ⟨hid, e5, _⟩ := DataW.trod_bool Try.underlying4 (show DataW.trod enc Try.prog w 0 (fun _ => true) true m 4 [u5] = some y5 by simpa [cof_int, cof_bool, cof_cells] using hf 5 _ rfl)
      simp at e0 e1 e3 e4 e5
      obtain ⟨A, k, c, e2⟩ : ∃ A k c, u2 = .slice A k c := by
        rcases open_slice Try.underlying43 h2 with ⟨hcs', _⟩ | ⟨a', len', cap', mm, n', D, Pl, hcs', _⟩
        · injection hcs' with h4
          exact ⟨_, _, _, h4⟩
        · injection hcs' with h4
          exact ⟨_, _, _, h4⟩
      rw [e2] at h2
      obtain ⟨zs, hz⟩ := cells_read h2
      exact ⟨a, b, A, k, c, X, Y, hid, zs, by rw [e0, e1, e2, e3, e4, e5], w0, w1, hz⟩
end

end Go.Proofs.Ytbjdcbnmpmcdiaa
namespace Go.Proofs.Ytbjdcbnmpmcdiaa
set_option linter.unusedVariables false
set_option linter.unusedSimpArgs false
open Go.RowKit Go.ChangeShapes Go.WideShapes Go.Deep

structure GOp where
  kind : Int
  X : Int
  Y : Int
  N : Int
  C : CellM
  A : Option Addr
  n : Nat
  c : Nat
  l : List CellM

/-- Its cells. -/
def GOp.cs (x : GOp) : List Value := [.int .i64 x.kind, .int .i64 x.X, .int .i64 x.Y, .int .i64 x.N, .int .i32 x.C.r, .int .i64 x.C.a.fg, .int .i64 x.C.a.bg, .bool x.C.a.b, .bool x.C.a.u, .bool x.C.a.i, .slice x.A x.n x.c]

/-- An operation that lies at b, off. -/
structure GOpAt (w : World) (b off : Nat) (x : GOp) : Prop where
  at' : ∀ i v, x.cs[i]? = some v → w.cell? ⟨b, off + i, none⟩ = some v
  l : CellsL w x.A x.n x.l

section
variable {H : Type} {enc : TypeId × Value → H} {w : World}
theorem cof_cell : Try.prog.cellsOf 42 = 6 := by kernel_rfl

set_option maxRecDepth 100000 in
theorem gop_at (b off n : Nat) (cs : List Value) (y : DataW H × List MemPlace) (hw : ∀ i, i < 11 → w.cell? ⟨b, off + i, none⟩ = cs[i]?) (hl : cs.length = 11)
    (h : DataW.trod enc Try.prog w 0 (fun _ => true) true n 45 cs = some y) : ∃ o, GOpAt w b off o := by
  obtain ⟨xs, m, _, rfl, _, hx, hf⟩ := DataW.trod_struct Try.underlying45 h
  match cs, hl with
  | [u0, u1, u2, u3, u4, u5, u6, u7, u8, u9, u10], _ =>
    match xs, hx with
    | [y0, y1, y2, y3, y4, y5], _ =>
      obtain ⟨k, e0, _, _⟩ := DataW.trod_int Try.underlying3 (show DataW.trod enc Try.prog w 0 (fun _ => true) true m 3 [u0] = some y0 by simpa [cof_int, cof_cell, cof_cells] using hf 0 _ rfl)
      obtain ⟨X, e1, _, _⟩ := DataW.trod_int Try.underlying3 (show DataW.trod enc Try.prog w 0 (fun _ => true) true m 3 [u1] = some y1 by simpa [cof_int, cof_cell, cof_cells] using hf 1 _ rfl)
      obtain ⟨Y, e2, _, _⟩ := DataW.trod_int Try.underlying3 (show DataW.trod enc Try.prog w 0 (fun _ => true) true m 3 [u2] = some y2 by simpa [cof_int, cof_cell, cof_cells] using hf 2 _ rfl)
      obtain ⟨N, e3, _, _⟩ := DataW.trod_int Try.underlying3 (show DataW.trod enc Try.prog w 0 (fun _ => true) true m 3 [u3] = some y3 by simpa [cof_int, cof_cell, cof_cells] using hf 3 _ rfl)
      obtain ⟨c, e4, _⟩ := cell_read (show DataW.trod enc Try.prog w 0 (fun _ => true) true m 42 [u4, u5, u6, u7, u8, u9] = some y4 by simpa [cof_int, cof_cell, cof_cells] using hf 4 _ rfl)
      have h5 : DataW.trod enc Try.prog w 0 (fun _ => true) true m 43 [u10] = some y5 := by simpa [cof_int, cof_cell, cof_cells] using hf 5 _ rfl
      obtain ⟨A, k2, c2, e5⟩ : ∃ A k c, u10 = .slice A k c := by
        rcases open_slice Try.underlying43 h5 with ⟨hcs', _⟩ | ⟨a', len', cap', mm, n', D, Pl, hcs', _⟩
        · injection hcs' with h4
          exact ⟨_, _, _, h4⟩
        · injection hcs' with h4
          exact ⟨_, _, _, h4⟩
      rw [e5] at h5
      obtain ⟨zs, hz⟩ := cells_read h5
      simp at e0 e1 e2 e3
      simp [cellCs, attrCs] at e4
      obtain ⟨q0, q1, q2, q3, q4, q5⟩ := e4
      refine ⟨⟨k, X, Y, N, c, A, k2, c2, zs⟩, fun i v hi => ?_, hz⟩
      have hlt : i < 11 := by
        rcases Nat.lt_or_ge i 11 with e | e
        · exact e
        · rw [List.getElem?_eq_none (by simpa [GOp.cs] using e)] at hi; cases hi
      rw [hw i hlt, ← hi]
      simp only [GOp.cs, e0, e1, e2, e3, q0, q1, q2, q3, q4, q5, e5]
end

end Go.Proofs.Ytbjdcbnmpmcdiaa
