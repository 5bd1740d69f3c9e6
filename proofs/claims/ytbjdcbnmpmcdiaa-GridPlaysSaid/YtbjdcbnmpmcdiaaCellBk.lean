/- In a seat with the Grid, GridB has what CellBk has elsewhere. Own work. -/
import Derived.Test.YtbjdcbnmpmcdiaaGridB
set_option linter.unusedVariables false
set_option linter.unusedSimpArgs false

