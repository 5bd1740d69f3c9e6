/- pontoonbook's copyTexts, SameTexts. Own work. -/
import Derived.Test.YtnminmaklbhakaaGreatDoorBase
set_option linter.unusedVariables false
set_option linter.unusedSimpArgs false
namespace Go.Proofs.YtnminmaklbhakaaGreatDoor
set_option linter.unusedVariables false
open Go.RowKit

theorem one_Texts (xs : List ByteArray) : ∀ u ∈ xs.map (Value.string), u.oneCell' = true := by
  intro u hu
  obtain ⟨x, _, rfl⟩ := List.mem_map.1 hu
  rfl

end Go.Proofs.YtnminmaklbhakaaGreatDoor

