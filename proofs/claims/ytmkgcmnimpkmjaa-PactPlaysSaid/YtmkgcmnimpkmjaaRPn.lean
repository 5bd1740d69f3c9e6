/- The document's Pact: its cells when it is new. Own work. -/
import Derived.Test.YtmkgcmnimpkmjaaPactM
import Derived.Test.YtmkgcmnimpkmjaaChecked
namespace Go.Proofs.Ytmkgcmnimpkmjaa
set_option linter.unusedVariables false
set_option linter.unusedSimpArgs false
open Go.RowKit

/-- A new Pact's cells. -/
def rpList (name : ByteArray) (w h : Int) : List Value := [Value.string name, Value.int .i64 w, Value.int .i64 h] ++ (List.replicate 512 [Value.int .i64 0, Value.bool false]).flatten ++ [Value.int .i64 0, Value.int .i64 0, Value.int .i64 0, Value.bool false, Value.bool false]
def rpCells (name : ByteArray) (w h : Int) : Array Value := (rpList name w h).toArray

set_option maxRecDepth 1000000 in
theorem rp_built (name : ByteArray) (w h : Int) : Try.prog.built 42 [(0, .string name), (1, .int .i64 w), (2, .int .i64 h)] = some (rpCells name w h) := by kernel_rfl

end Go.Proofs.Ytmkgcmnimpkmjaa
