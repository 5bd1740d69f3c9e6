/- cell: choose, Sgr. Own work. -/
import Derived.Test.YtgomnigchfmfhaaCell
namespace Go.Proofs.Ytgomnigchfmfhaa
set_option linter.unusedVariables false
set_option linter.unusedSimpArgs false
open Go.RowKit

/-- The numbers from the k-th on. -/
theorem src_drop {w : World} {A O : Option Addr} {n c q : Nat} {us : List Value} (h : Src w A n us) (hq : q ≤ n) (hc : n ≤ c) (hO : O = if c = q then A else A.map (·.add q)) : Src w O (n - q) (us.drop q) := by
  refine ⟨by rw [List.length_drop, h.1], fun h0 => ?_⟩
  obtain ⟨b, off, rfl, hb, hcs⟩ := h.2 (by omega)
  rw [if_neg (by omega)] at hO
  refine ⟨b, off + q, by rw [hO]; simp [add_mk], hb, fun i v hi => ?_⟩
  rw [List.getElem?_drop] at hi
  rw [Nat.add_assoc]
  exact hcs _ _ hi

def slLen : Value → Nat
  | .slice _ n _ => n
  | _ => 0

def attrO (a : At) : Obj := .cells #[.int .i64 a.fg, .int .i64 a.bg, .bool a.b, .bool a.u, .bool a.i] 38

end Go.Proofs.Ytgomnigchfmfhaa

