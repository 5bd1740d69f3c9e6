/- Law CellColors: the walk. By program (rgn/XCellColorsWalk.py). Own work. -/
import Derived.Test.YtadlmbheppnjfaaCellColorsA
import Derived.Test.YtadlmbheppnjfaaCellColorsB
namespace Go.Proofs.Ytadlmbheppnjfaa
set_option linter.unusedVariables false
set_option linter.unusedSimpArgs false
open Go.RowKit

theorem walk_CellColors (a : At) (wa : a.wf) (n : Int) (wn : (Lit.int .i64 n).wf = true) (w : World) :
    Calls Try.prog 6 #[a.v, .int .i64 n] w fun e w' => e = .returned (.bool true) ∧ Below w.heap.size w w' := by
  by_cases h : kOf n < 8
  · exact colors_A a wa n wn h w
  · exact colors_B a wa n wn h w

end Go.Proofs.Ytadlmbheppnjfaa
