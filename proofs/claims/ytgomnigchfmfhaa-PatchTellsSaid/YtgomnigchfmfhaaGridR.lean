/- A Screen that is handed in by value. Own work. -/
import Derived.Test.YtgomnigchfmfhaaGridQ
set_option linter.unusedVariables false
set_option linter.unusedSimpArgs false
namespace Go.Proofs.Ytgomnigchfmfhaa
set_option linter.unusedVariables false
open Go.RowKit
section
open Go.ChangeShapes Go.WideShapes Go.Deep
variable {H : Type} {enc : TypeId × Value → H} {w : World}

theorem cof_cells : Try.prog.cellsOf 22 = 1 := by kernel_rfl

set_option maxRecDepth 100000 in
theorem screen_read {n : Nat} {cs : List Value} {y : DataW H × List MemPlace} (h : DataW.trod enc Try.prog w 0 (fun _ => true) true n 24 cs = some y) :
    ∃ (a b : Int) (A : Option Addr) (m c : Nat) (X Y : Int) (hid : Bool) (xs : List CellM), cs = [.int .i64 a, .int .i64 b, .slice A m c, .int .i64 X, .int .i64 Y, .bool hid] ∧ (Lit.int .i64 a).wf = true ∧ (Lit.int .i64 b).wf = true ∧ CellsL w A m xs := by
  obtain ⟨xs, m, _, rfl, hl, hlen, hf⟩ := DataW.trod_struct Try.underlying24 h
  have hl' : cs.length = 6 := hl
  match cs, hl' with
  | [u0, u1, u2, u3, u4, u5], _ =>
    match xs, hlen with
    | [y0, y1, y2, y3, y4, y5], _ =>
      obtain ⟨a, e0, _, w0⟩ := DataW.trod_int Try.underlying3 (show DataW.trod enc Try.prog w 0 (fun _ => true) true m 3 [u0] = some y0 by simpa [cof_int, cof_bool, cof_cells] using hf 0 _ rfl)
      obtain ⟨b, e1, _, w1⟩ := DataW.trod_int Try.underlying3 (show DataW.trod enc Try.prog w 0 (fun _ => true) true m 3 [u1] = some y1 by simpa [cof_int, cof_bool, cof_cells] using hf 1 _ rfl)
      have h2 : DataW.trod enc Try.prog w 0 (fun _ => true) true m 22 [u2] = some y2 := by simpa [cof_int, cof_bool, cof_cells] using hf 2 _ rfl
      obtain ⟨X, e3, _, _⟩ := DataW.trod_int Try.underlying3 (show DataW.trod enc Try.prog w 0 (fun _ => true) true m 3 [u3] = some y3 by simpa [cof_int, cof_bool, cof_cells] using hf 3 _ rfl)
      obtain ⟨Y, e4, _, _⟩ := DataW.trod_int Try.underlying3 (show DataW.trod enc Try.prog w 0 (fun _ => true) true m 3 [u4] = some y4 by simpa [cof_int, cof_bool, cof_cells] using hf 4 _ rfl)
      obtain ⟨hid, e5, _⟩ := DataW.trod_bool Try.underlying4 (show DataW.trod enc Try.prog w 0 (fun _ => true) true m 4 [u5] = some y5 by simpa [cof_int, cof_bool, cof_cells] using hf 5 _ rfl)
      simp at e0 e1 e3 e4 e5
      obtain ⟨A, k, c, e2⟩ : ∃ A k c, u2 = .slice A k c := by
        rcases open_slice Try.underlying22 h2 with ⟨hcs', _⟩ | ⟨a', len', cap', mm, n', D, Pl, hcs', _⟩
        · injection hcs' with h4
          exact ⟨_, _, _, h4⟩
        · injection hcs' with h4
          exact ⟨_, _, _, h4⟩
      rw [e2] at h2
      obtain ⟨zs, hz⟩ := cells_read h2
      exact ⟨a, b, A, k, c, X, Y, hid, zs, by rw [e0, e1, e2, e3, e4, e5], w0, w1, hz⟩
end

end Go.Proofs.Ytgomnigchfmfhaa
