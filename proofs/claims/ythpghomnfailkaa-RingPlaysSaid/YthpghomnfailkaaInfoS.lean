/- The table row of string. Own work. -/
import Derived.Test.YthpghomnfailkaaProg
import Derived.Test.YthpghomnfailkaaGen
namespace Go.Proofs.Ythpghomnfailkaa
set_option linter.unusedVariables false
open Go.RowKit

theorem string_info : (Try.prog.info? 9).map (fun i => (i.zero, i.size, i.bytes)) = some (some (.string .empty), 1, 16) := by kernel_rfl

end Go.Proofs.Ythpghomnfailkaa
