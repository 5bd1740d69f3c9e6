/- The table row of byte. Own work. -/
import Derived.Test.YthpghomnfailkaaProg
import Derived.Test.YthpghomnfailkaaGen
namespace Go.Proofs.Ythpghomnfailkaa
set_option linter.unusedVariables false
open Go.RowKit

theorem byte_info : (Try.prog.info? 5).map (fun i => (i.zero, i.size, i.bytes)) = some (some (.int .u8 0), 1, 1) := by kernel_rfl

end Go.Proofs.Ythpghomnfailkaa
