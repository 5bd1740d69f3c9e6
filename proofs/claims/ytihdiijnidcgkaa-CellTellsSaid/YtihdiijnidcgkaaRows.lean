/-
  No cell of these rows narrows 'for every input' (looked for: loops, veiled, ifaces, maps, wideKeys, modest, calm, conditions, laid).
  DERIVED. THE GIVEN ROWS OF THIS SEAT. 4 by the template 'for every input the law returns true; each argument reads behind the call as it read before'; 0 by the template 'total and deterministic' (their statements: YtihdiijnidcgkaaTotals.lean).
  GIVEN WITH THE SEED: the statements are not yours to turn. If you find one false, say at which input.
  Laid BY PROGRAM, IN A SANDBOX (cutbox-rows.mjs): the forced cells as the released guide's own fill.sh prints them over the translation 927d3d8f54290788… (all of the seat's roots in one cut). By AI agents, Wed Nov 11 2026. No macro, syntax, notation, axiom, sorry.
-/
import Derived.Test.YtihdiijnidcgkaaChecked
import GoSem.Claim
import GoSem.ClaimJoined
import GoSem.ClaimMapViews
import Derived.JoinedTies
import Derived.KernelRfl
namespace Go.Proofs.Ytihdiijnidcgkaa
/- THE CELL 'sum', in the pinned program and in every row, IS THE sha256 OF THE DUMP (.gsa) THAT YtihdiijnidcgkaaProg.lean LOADS. Nothing in Lean hashes anything: it is a label: what it is worth is what the hold of that sum in a sandbox is worth. -/
noncomputable def Try.pinned : Pinned := { name := "ytihdiijnidcgkaa", sum := "927d3d8f54290788f737f5e6452f6b3809efb3e1be5e8139896c4d0730d509ba", checked := Try.checked }
namespace Rows
def none {H : Type} : Left H := { results := [], args := [] }

/-- 'pontoonlaw14.CellTells': WHATEVER THE INPUT: true; the input reads as it did. -/
def cellTellsSpec : ChangeSpec := { name := "cellTells", fn := fun _ => fun
  | [d1, d2, d3, d4, d5] => { results := [.lit (.bool true)], args := [d1, d2, d3, d4, d5] }
  | _ => none }
def cellTellsRow : OpenClaim := { program := "ytihdiijnidcgkaa", sum := "927d3d8f54290788f737f5e6452f6b3809efb3e1be5e8139896c4d0730d509ba", func := "pontoon/pontoonlaw14.CellTells", spec := "cellTells", apart := false }
def CellTellsSaid : Prop := cellTellsRow.holds Try.pinned (OpenSpec.ofChange cellTellsSpec)

/-- ITS FALSE NEIGHBOUR: 'it returns false'. Refute it at one input. -/
def cellTellsWrong : ChangeSpec := { name := "cellTells", fn := fun _ => fun
  | [d1, d2, d3, d4, d5] => { results := [.lit (.bool false)], args := [d1, d2, d3, d4, d5] }
  | _ => none }
def CellTellsWrongFalsely : Prop := cellTellsRow.holds Try.pinned (OpenSpec.ofChange cellTellsWrong)

/-- 'pontoonlaw14.CellBack': WHATEVER THE INPUT: true; the input reads as it did. -/
def cellBackSpec : ChangeSpec := { name := "cellBack", fn := fun _ => fun
  | [d1, d2] => { results := [.lit (.bool true)], args := [d1, d2] }
  | _ => none }
def cellBackRow : OpenClaim := { program := "ytihdiijnidcgkaa", sum := "927d3d8f54290788f737f5e6452f6b3809efb3e1be5e8139896c4d0730d509ba", func := "pontoon/pontoonlaw14.CellBack", spec := "cellBack", apart := false }
def CellBackSaid : Prop := cellBackRow.holds Try.pinned (OpenSpec.ofChange cellBackSpec)

/-- ITS FALSE NEIGHBOUR: 'it returns false'. Refute it at one input. -/
def cellBackWrong : ChangeSpec := { name := "cellBack", fn := fun _ => fun
  | [d1, d2] => { results := [.lit (.bool false)], args := [d1, d2] }
  | _ => none }
def CellBackWrongFalsely : Prop := cellBackRow.holds Try.pinned (OpenSpec.ofChange cellBackWrong)

/-- 'pontoonlaw14.CellSgr': WHATEVER THE INPUT: true; the input reads as it did. -/
def cellSgrSpec : ChangeSpec := { name := "cellSgr", fn := fun _ => fun
  | [d1, d2, d3] => { results := [.lit (.bool true)], args := [d1, d2, d3] }
  | _ => none }
def cellSgrRow : OpenClaim := { program := "ytihdiijnidcgkaa", sum := "927d3d8f54290788f737f5e6452f6b3809efb3e1be5e8139896c4d0730d509ba", func := "pontoon/pontoonlaw14.CellSgr", spec := "cellSgr", apart := false }
def CellSgrSaid : Prop := cellSgrRow.holds Try.pinned (OpenSpec.ofChange cellSgrSpec)

/-- ITS FALSE NEIGHBOUR: 'it returns false'. Refute it at one input. -/
def cellSgrWrong : ChangeSpec := { name := "cellSgr", fn := fun _ => fun
  | [d1, d2, d3] => { results := [.lit (.bool false)], args := [d1, d2, d3] }
  | _ => none }
def CellSgrWrongFalsely : Prop := cellSgrRow.holds Try.pinned (OpenSpec.ofChange cellSgrWrong)

/-- 'pontoonlaw14.CellColors': WHATEVER THE INPUT: true; the input reads as it did. -/
def cellColorsSpec : ChangeSpec := { name := "cellColors", fn := fun _ => fun
  | [d1, d2] => { results := [.lit (.bool true)], args := [d1, d2] }
  | _ => none }
def cellColorsRow : OpenClaim := { program := "ytihdiijnidcgkaa", sum := "927d3d8f54290788f737f5e6452f6b3809efb3e1be5e8139896c4d0730d509ba", func := "pontoon/pontoonlaw14.CellColors", spec := "cellColors", apart := false }
def CellColorsSaid : Prop := cellColorsRow.holds Try.pinned (OpenSpec.ofChange cellColorsSpec)

/-- ITS FALSE NEIGHBOUR: 'it returns false'. Refute it at one input. -/
def cellColorsWrong : ChangeSpec := { name := "cellColors", fn := fun _ => fun
  | [d1, d2] => { results := [.lit (.bool false)], args := [d1, d2] }
  | _ => none }
def CellColorsWrongFalsely : Prop := cellColorsRow.holds Try.pinned (OpenSpec.ofChange cellColorsWrong)

/- THE SECOND FORM. 'bulk': how many values and letters a reading holds, each counted each time it is reached (what is shared counts as often as it is met; a slice's spare places count too). A statement '..UptoSaid' is the law's where the arguments, and the package variables that the reading takes, are together of bulk at most 1048576: NARROWER than '..Said'. Prove '..Said' where nothing that the law and all that it calls make is longer than what came in: it says more and counts as full. Else prove '..UptoSaid'. A law counts once. -/
mutual
def uptoBulk {H : Type} : DataW H → Nat
  | .lit (.string bytes) => bytes.length + 1
  | .lit _ => 1
  | .nil => 1
  | .ptr d => uptoBulk d + 1
  | .slice elems spare => uptoBulkAll elems + uptoBulkAll spare + 1
  | .agg parts => uptoBulkAll parts + 1
  | .iface _ d => uptoBulk d + 1
  | .map entries => uptoBulkEntries entries + 1
  | .held _ => 1
def uptoBulkAll {H : Type} : List (DataW H) → Nat
  | [] => 0
  | d :: r => uptoBulk d + uptoBulkAll r
def uptoBulkEntries {H : Type} : List (Lit × DataW H) → Nat
  | [] => 0
  | x :: r => uptoBulkEntry x + uptoBulkEntries r
def uptoBulkEntry {H : Type} : Lit × DataW H → Nat
  | (.string bytes, d) => bytes.length + uptoBulk d + 1
  | (_, d) => uptoBulk d + 1
 end
def uptoSmall : (H : Type) → List (DataW H) → Bool := fun _ ds => decide (uptoBulkAll ds ≤ 1048576)
def OpenSpec.upto (s : _root_.Go.ChangeSpec) : _root_.Go.OpenSpec := { _root_.Go.OpenSpec.ofChange s with cond := some uptoSmall }

/-- 'pontoonlaw14.CellTells', WHERE WHAT IT READS IS OF BULK AT MOST 1048576: true; the input reads as it did. -/
def cellTellsUptoRow : OpenClaim := { program := "ytihdiijnidcgkaa", sum := "927d3d8f54290788f737f5e6452f6b3809efb3e1be5e8139896c4d0730d509ba", func := "pontoon/pontoonlaw14.CellTells", spec := "cellTells", apart := false, narrowed := true }
def CellTellsUptoSaid : Prop := cellTellsUptoRow.holds Try.pinned (OpenSpec.upto cellTellsSpec)

/-- 'pontoonlaw14.CellBack', WHERE WHAT IT READS IS OF BULK AT MOST 1048576: true; the input reads as it did. -/
def cellBackUptoRow : OpenClaim := { program := "ytihdiijnidcgkaa", sum := "927d3d8f54290788f737f5e6452f6b3809efb3e1be5e8139896c4d0730d509ba", func := "pontoon/pontoonlaw14.CellBack", spec := "cellBack", apart := false, narrowed := true }
def CellBackUptoSaid : Prop := cellBackUptoRow.holds Try.pinned (OpenSpec.upto cellBackSpec)

/-- 'pontoonlaw14.CellSgr', WHERE WHAT IT READS IS OF BULK AT MOST 1048576: true; the input reads as it did. -/
def cellSgrUptoRow : OpenClaim := { program := "ytihdiijnidcgkaa", sum := "927d3d8f54290788f737f5e6452f6b3809efb3e1be5e8139896c4d0730d509ba", func := "pontoon/pontoonlaw14.CellSgr", spec := "cellSgr", apart := false, narrowed := true }
def CellSgrUptoSaid : Prop := cellSgrUptoRow.holds Try.pinned (OpenSpec.upto cellSgrSpec)

/-- 'pontoonlaw14.CellColors', WHERE WHAT IT READS IS OF BULK AT MOST 1048576: true; the input reads as it did. -/
def cellColorsUptoRow : OpenClaim := { program := "ytihdiijnidcgkaa", sum := "927d3d8f54290788f737f5e6452f6b3809efb3e1be5e8139896c4d0730d509ba", func := "pontoon/pontoonlaw14.CellColors", spec := "cellColors", apart := false, narrowed := true }
def CellColorsUptoSaid : Prop := cellColorsUptoRow.holds Try.pinned (OpenSpec.upto cellColorsSpec)

end Rows
end Go.Proofs.Ytihdiijnidcgkaa
