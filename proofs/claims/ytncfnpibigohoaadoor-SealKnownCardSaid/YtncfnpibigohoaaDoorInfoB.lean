/- The table row of byte. Own work. -/
import Derived.Test.YtncfnpibigohoaaDoorProg
import Derived.Test.YtncfnpibigohoaaDoorGen
namespace Go.Proofs.YtncfnpibigohoaaDoor
set_option linter.unusedVariables false
open Go.RowKit

theorem byte_info : (Tryd.prog.info? 5).map (fun i => (i.zero, i.size, i.bytes)) = some (some (.int .u8 0), 1, 1) := by kernel_rfl

end Go.Proofs.YtncfnpibigohoaaDoor
