/- A slice that is read has no more than its room. Own work. -/
import Derived.Test.YtgomnigchfmfhaaGrids
set_option linter.unusedVariables false
set_option linter.unusedSimpArgs false
namespace Go.Proofs.Ytgomnigchfmfhaa
set_option linter.unusedVariables false
open Go.RowKit
section
open Go.ChangeShapes Go.WideShapes Go.Deep
theorem slice_cap {H : Type} {enc : TypeId × Value → H} {P : Program} {w : World} {t e : TypeId} (ht : P.underlying t = some (.slice e)) {fuel : Nat} {A : Option Addr} {len cap : Nat} {y : DataW H × List MemPlace}
    (h : DataW.trod enc P w 0 (fun _ => true) true fuel t [.slice A len cap] = some y) : len ≤ cap := by
  rcases open_slice ht h with ⟨hcs', _⟩ | ⟨a, len', cap', mm, n, D, Pl, hcs', _, hl, hm, hmm, _, hi⟩
  · injection hcs' with h4
    injection h4 with hA hn hc
    omega
  · injection hcs' with h4
    injection h4 with hA hn hc
    omega
end

end Go.Proofs.Ytgomnigchfmfhaa
