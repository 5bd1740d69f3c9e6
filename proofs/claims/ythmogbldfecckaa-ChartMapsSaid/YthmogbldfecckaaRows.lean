/-
  No cell of these rows narrows 'for every input' (looked for: loops, veiled, ifaces, maps, wideKeys, modest, calm, conditions, laid).
  DERIVED. THE GIVEN ROWS OF THIS SEAT. 3 by the template 'for every input the law returns true; each argument reads behind the call as it read before'; 0 by the template 'total and deterministic' (their statements: YthmogbldfecckaaTotals.lean).
  GIVEN WITH THE SEED: the statements are not yours to turn. If you find one false, say at which input.
  Laid BY PROGRAM, IN A SANDBOX (cutbox-rows.mjs): the forced cells as the released guide's own fill.sh prints them over the translation 720c02e61ee53c0b… (all of the seat's roots in one cut). By AI agents, Wed Nov 11 2026. No macro, syntax, notation, axiom, sorry.
-/
import Derived.Test.YthmogbldfecckaaChecked
import GoSem.Claim
import GoSem.ClaimJoined
import GoSem.ClaimMapViews
import Derived.JoinedTies
import Derived.KernelRfl
namespace Go.Proofs.Ythmogbldfecckaa
/- THE CELL 'sum', in the pinned program and in every row, IS THE sha256 OF THE DUMP (.gsa) THAT YthmogbldfecckaaProg.lean LOADS. Nothing in Lean hashes anything: it is a label: what it is worth is what the hold of that sum in a sandbox is worth. -/
noncomputable def Try.pinned : Pinned := { name := "ythmogbldfecckaa", sum := "720c02e61ee53c0b9bb9cdf70ccb36d0764a440fe16c29c530998247f5390917", checked := Try.checked }
namespace Rows
def none {H : Type} : Left H := { results := [], args := [] }

/-- 'pontoonlaw16.ChartPlays': WHATEVER THE INPUT: true; the input reads as it did. -/
def chartPlaysSpec : ChangeSpec := { name := "chartPlays", fn := fun _ => fun
  | [d1, d2, d3] => { results := [.lit (.bool true)], args := [d1, d2, d3] }
  | _ => none }
def chartPlaysRow : OpenClaim := { program := "ythmogbldfecckaa", sum := "720c02e61ee53c0b9bb9cdf70ccb36d0764a440fe16c29c530998247f5390917", func := "pontoon/pontoonlaw16.ChartPlays", spec := "chartPlays", apart := false }
def ChartPlaysSaid : Prop := chartPlaysRow.holds Try.pinned (OpenSpec.ofChange chartPlaysSpec)

/-- ITS FALSE NEIGHBOUR: 'it returns false'. Refute it at one input. -/
def chartPlaysWrong : ChangeSpec := { name := "chartPlays", fn := fun _ => fun
  | [d1, d2, d3] => { results := [.lit (.bool false)], args := [d1, d2, d3] }
  | _ => none }
def ChartPlaysWrongFalsely : Prop := chartPlaysRow.holds Try.pinned (OpenSpec.ofChange chartPlaysWrong)

/-- 'pontoonlaw16.ChartMaps': WHATEVER THE INPUT: true; the input reads as it did. -/
def chartMapsSpec : ChangeSpec := { name := "chartMaps", fn := fun _ => fun
  | [d1, d2] => { results := [.lit (.bool true)], args := [d1, d2] }
  | _ => none }
def chartMapsRow : OpenClaim := { program := "ythmogbldfecckaa", sum := "720c02e61ee53c0b9bb9cdf70ccb36d0764a440fe16c29c530998247f5390917", func := "pontoon/pontoonlaw16.ChartMaps", spec := "chartMaps", apart := false }
def ChartMapsSaid : Prop := chartMapsRow.holds Try.pinned (OpenSpec.ofChange chartMapsSpec)

/-- ITS FALSE NEIGHBOUR: 'it returns false'. Refute it at one input. -/
def chartMapsWrong : ChangeSpec := { name := "chartMaps", fn := fun _ => fun
  | [d1, d2] => { results := [.lit (.bool false)], args := [d1, d2] }
  | _ => none }
def ChartMapsWrongFalsely : Prop := chartMapsRow.holds Try.pinned (OpenSpec.ofChange chartMapsWrong)

/-- 'pontoonlaw16.ChartTabs': WHATEVER THE INPUT: true; the input reads as it did. -/
def chartTabsSpec : ChangeSpec := { name := "chartTabs", fn := fun _ => fun
  | [d1, d2] => { results := [.lit (.bool true)], args := [d1, d2] }
  | _ => none }
def chartTabsRow : OpenClaim := { program := "ythmogbldfecckaa", sum := "720c02e61ee53c0b9bb9cdf70ccb36d0764a440fe16c29c530998247f5390917", func := "pontoon/pontoonlaw16.ChartTabs", spec := "chartTabs", apart := false }
def ChartTabsSaid : Prop := chartTabsRow.holds Try.pinned (OpenSpec.ofChange chartTabsSpec)

/-- ITS FALSE NEIGHBOUR: 'it returns false'. Refute it at one input. -/
def chartTabsWrong : ChangeSpec := { name := "chartTabs", fn := fun _ => fun
  | [d1, d2] => { results := [.lit (.bool false)], args := [d1, d2] }
  | _ => none }
def ChartTabsWrongFalsely : Prop := chartTabsRow.holds Try.pinned (OpenSpec.ofChange chartTabsWrong)

/- THE SECOND FORM. 'bulk': how many values and letters a reading holds, each counted each time it is reached (what is shared counts as often as it is met; a slice's spare places count too). A statement '..UptoSaid' is the law's where the arguments, and the package variables that the reading takes, are together of bulk at most 1048576: NARROWER than '..Said'. Prove '..Said' where nothing that the law and all that it calls make is longer than what came in: it says more and counts as full. Else prove '..UptoSaid'. A law counts once. -/
mutual
def uptoBulk {H : Type} : DataW H → Nat
  | .lit (.string bytes) => bytes.length + 1
  | .lit _ => 1
  | .nil => 1
  | .ptr d => uptoBulk d + 1
  | .slice elems spare => uptoBulkAll elems + uptoBulkAll spare + 1
  | .agg parts => uptoBulkAll parts + 1
  | .iface _ d => uptoBulk d + 1
  | .map entries => uptoBulkEntries entries + 1
  | .held _ => 1
def uptoBulkAll {H : Type} : List (DataW H) → Nat
  | [] => 0
  | d :: r => uptoBulk d + uptoBulkAll r
def uptoBulkEntries {H : Type} : List (Lit × DataW H) → Nat
  | [] => 0
  | x :: r => uptoBulkEntry x + uptoBulkEntries r
def uptoBulkEntry {H : Type} : Lit × DataW H → Nat
  | (.string bytes, d) => bytes.length + uptoBulk d + 1
  | (_, d) => uptoBulk d + 1
 end
def uptoSmall : (H : Type) → List (DataW H) → Bool := fun _ ds => decide (uptoBulkAll ds ≤ 1048576)
def OpenSpec.upto (s : _root_.Go.ChangeSpec) : _root_.Go.OpenSpec := { _root_.Go.OpenSpec.ofChange s with cond := some uptoSmall }

/-- 'pontoonlaw16.ChartPlays', WHERE WHAT IT READS IS OF BULK AT MOST 1048576: true; the input reads as it did. -/
def chartPlaysUptoRow : OpenClaim := { program := "ythmogbldfecckaa", sum := "720c02e61ee53c0b9bb9cdf70ccb36d0764a440fe16c29c530998247f5390917", func := "pontoon/pontoonlaw16.ChartPlays", spec := "chartPlays", apart := false, narrowed := true }
def ChartPlaysUptoSaid : Prop := chartPlaysUptoRow.holds Try.pinned (OpenSpec.upto chartPlaysSpec)

/-- 'pontoonlaw16.ChartMaps', WHERE WHAT IT READS IS OF BULK AT MOST 1048576: true; the input reads as it did. -/
def chartMapsUptoRow : OpenClaim := { program := "ythmogbldfecckaa", sum := "720c02e61ee53c0b9bb9cdf70ccb36d0764a440fe16c29c530998247f5390917", func := "pontoon/pontoonlaw16.ChartMaps", spec := "chartMaps", apart := false, narrowed := true }
def ChartMapsUptoSaid : Prop := chartMapsUptoRow.holds Try.pinned (OpenSpec.upto chartMapsSpec)

/-- 'pontoonlaw16.ChartTabs', WHERE WHAT IT READS IS OF BULK AT MOST 1048576: true; the input reads as it did. -/
def chartTabsUptoRow : OpenClaim := { program := "ythmogbldfecckaa", sum := "720c02e61ee53c0b9bb9cdf70ccb36d0764a440fe16c29c530998247f5390917", func := "pontoon/pontoonlaw16.ChartTabs", spec := "chartTabs", apart := false, narrowed := true }
def ChartTabsUptoSaid : Prop := chartTabsUptoRow.holds Try.pinned (OpenSpec.upto chartTabsSpec)

end Rows
end Go.Proofs.Ythmogbldfecckaa
