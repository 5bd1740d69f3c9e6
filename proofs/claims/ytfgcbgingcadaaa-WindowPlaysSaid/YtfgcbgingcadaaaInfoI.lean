/- The table row of int. Own work. -/
import Derived.Test.YtfgcbgingcadaaaProg
import Derived.Test.YtfgcbgingcadaaaGen
namespace Go.Proofs.Ytfgcbgingcadaaa
set_option linter.unusedVariables false
open Go.RowKit

theorem int_info : (Try.prog.info? 3).map (fun i => (i.zero, i.size, i.bytes)) = some (some (.int .i64 0), 1, 8) := by kernel_rfl

end Go.Proofs.Ytfgcbgingcadaaa
