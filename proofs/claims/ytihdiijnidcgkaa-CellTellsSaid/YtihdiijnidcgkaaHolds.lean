/- Objects that stand side by side (XStar): a block's cells. It speaks of no program. Own work. -/
import Derived.Test.YtihdiijnidcgkaaStar
import Derived.Test.YtihdiijnidcgkaaBase
set_option linter.unusedVariables false
set_option linter.unusedSimpArgs false
namespace Go.Proofs.Ytihdiijnidcgkaa
set_option linter.unusedVariables false
open Go.RowKit

def boxH (ob : Nat) (cs : List Value) : Hold := ⟨fun b => b = ob, fun w => Cells w ob cs⟩
theorem boxH_cl (ob : Nat) (cs : List Value) : ClosedBy (boxH ob cs).s (boxH ob cs).p := fun S w w' k hs h => Cells.keep h k (hs ob rfl)
theorem star_box {w0 w : World} {xs : List Hold} (h : Star w0 w xs) (cs : List Value) (t : TypeId) : Star w0 (w.alloc (.cells cs.toArray t)) (xs ++ [boxH w.heap.size cs]) :=
  h.new (boxH w.heap.size cs) ((Keep.refl _ w).alloc _) (fun b e => by rw [show b = w.heap.size from e]; simp) (Cells.box w _ _) (boxH_cl _ _)
end Go.Proofs.Ytihdiijnidcgkaa
