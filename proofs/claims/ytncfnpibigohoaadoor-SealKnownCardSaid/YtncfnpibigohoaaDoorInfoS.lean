/- The table row of string. Own work. -/
import Derived.Test.YtncfnpibigohoaaDoorProg
import Derived.Test.YtncfnpibigohoaaDoorGen
namespace Go.Proofs.YtncfnpibigohoaaDoor
set_option linter.unusedVariables false
open Go.RowKit

theorem string_info : (Tryd.prog.info? 9).map (fun i => (i.zero, i.size, i.bytes)) = some (some (.string .empty), 1, 16) := by kernel_rfl

end Go.Proofs.YtncfnpibigohoaaDoor
