/- The table row of string. Own work. -/
import Derived.Test.YtkhhmnmemdadmaaGreatProg
import Derived.Test.YtkhhmnmemdadmaaGreatGen
namespace Go.Proofs.YtkhhmnmemdadmaaGreat
set_option linter.unusedVariables false
open Go.RowKit

theorem string_info : (Tryz.prog.info? 9).map (fun i => (i.zero, i.size, i.bytes)) = some (some (.string .empty), 1, 16) := by kernel_rfl

end Go.Proofs.YtkhhmnmemdadmaaGreat
