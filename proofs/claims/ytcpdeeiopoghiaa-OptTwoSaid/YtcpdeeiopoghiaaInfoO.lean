/- The table row of bool. Own work. -/
import Derived.Test.YtcpdeeiopoghiaaProg
import Derived.Test.YtcpdeeiopoghiaaBase
set_option linter.unusedVariables false
set_option linter.unusedSimpArgs false
namespace Go.Proofs.Ytcpdeeiopoghiaa
set_option linter.unusedVariables false
open Go.RowKit

theorem bool_info : (Try.prog.info? 4).map (fun i => (i.zero, i.size, i.bytes)) = some (some (.bool false), 1, 1) := by kernel_rfl

end Go.Proofs.Ytcpdeeiopoghiaa
