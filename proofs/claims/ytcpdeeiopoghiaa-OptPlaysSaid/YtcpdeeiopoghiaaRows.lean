/-
  No cell of these rows narrows 'for every input' (looked for: loops, veiled, ifaces, maps, wideKeys, modest, calm, conditions, laid).
  DERIVED. THE GIVEN ROWS OF THIS SEAT. 4 by the template 'for every input the law returns true; each argument reads behind the call as it read before'; 0 by the template 'total and deterministic' (their statements: YtcpdeeiopoghiaaTotals.lean).
  GIVEN WITH THE SEED: the statements are not yours to turn. If you find one false, say at which input.
  Laid BY PROGRAM, IN A SANDBOX (cutbox-rows.mjs): the forced cells as the released guide's own fill.sh prints them over the translation 0db141c8065f2dc9… (all of the seat's roots in one cut). By AI agents, Wed Nov 11 2026. No macro, syntax, notation, axiom, sorry.
-/
import Derived.Test.YtcpdeeiopoghiaaChecked
import GoSem.Claim
import GoSem.ClaimJoined
import GoSem.ClaimMapViews
import Derived.JoinedTies
import Derived.KernelRfl
namespace Go.Proofs.Ytcpdeeiopoghiaa
/- THE CELL 'sum', in the pinned program and in every row, IS THE sha256 OF THE DUMP (.gsa) THAT YtcpdeeiopoghiaaProg.lean LOADS. Nothing in Lean hashes anything: it is a label: what it is worth is what the hold of that sum in a sandbox is worth. -/
noncomputable def Try.pinned : Pinned := { name := "ytcpdeeiopoghiaa", sum := "0db141c8065f2dc903068a2d283227262a61759d884900b27c5ffc928c421d6f", checked := Try.checked }
namespace Rows
def none {H : Type} : Left H := { results := [], args := [] }

/-- 'pontoonlaw10.OptTells': WHATEVER THE INPUT: true; the input reads as it did. -/
def optTellsSpec : ChangeSpec := { name := "optTells", fn := fun _ => fun
  | [d1, d2, d3] => { results := [.lit (.bool true)], args := [d1, d2, d3] }
  | _ => none }
def optTellsRow : OpenClaim := { program := "ytcpdeeiopoghiaa", sum := "0db141c8065f2dc903068a2d283227262a61759d884900b27c5ffc928c421d6f", func := "pontoon/pontoonlaw10.OptTells", spec := "optTells", apart := false }
def OptTellsSaid : Prop := optTellsRow.holds Try.pinned (OpenSpec.ofChange optTellsSpec)

/-- ITS FALSE NEIGHBOUR: 'it returns false'. Refute it at one input. -/
def optTellsWrong : ChangeSpec := { name := "optTells", fn := fun _ => fun
  | [d1, d2, d3] => { results := [.lit (.bool false)], args := [d1, d2, d3] }
  | _ => none }
def OptTellsWrongFalsely : Prop := optTellsRow.holds Try.pinned (OpenSpec.ofChange optTellsWrong)

/-- 'pontoonlaw10.OptPlays': WHATEVER THE INPUT: true; the input reads as it did. -/
def optPlaysSpec : ChangeSpec := { name := "optPlays", fn := fun _ => fun
  | [d] => { results := [.lit (.bool true)], args := [d] }
  | _ => none }
def optPlaysRow : OpenClaim := { program := "ytcpdeeiopoghiaa", sum := "0db141c8065f2dc903068a2d283227262a61759d884900b27c5ffc928c421d6f", func := "pontoon/pontoonlaw10.OptPlays", spec := "optPlays", apart := false }
def OptPlaysSaid : Prop := optPlaysRow.holds Try.pinned (OpenSpec.ofChange optPlaysSpec)

/-- ITS FALSE NEIGHBOUR: 'it returns false'. Refute it at one input. -/
def optPlaysWrong : ChangeSpec := { name := "optPlays", fn := fun _ => fun
  | [d] => { results := [.lit (.bool false)], args := [d] }
  | _ => none }
def OptPlaysWrongFalsely : Prop := optPlaysRow.holds Try.pinned (OpenSpec.ofChange optPlaysWrong)

/-- 'pontoonlaw10.OptTwo': WHATEVER THE INPUT: true; the input reads as it did. -/
def optTwoSpec : ChangeSpec := { name := "optTwo", fn := fun _ => fun
  | [d1, d2] => { results := [.lit (.bool true)], args := [d1, d2] }
  | _ => none }
def optTwoRow : OpenClaim := { program := "ytcpdeeiopoghiaa", sum := "0db141c8065f2dc903068a2d283227262a61759d884900b27c5ffc928c421d6f", func := "pontoon/pontoonlaw10.OptTwo", spec := "optTwo", apart := false }
def OptTwoSaid : Prop := optTwoRow.holds Try.pinned (OpenSpec.ofChange optTwoSpec)

/-- ITS FALSE NEIGHBOUR: 'it returns false'. Refute it at one input. -/
def optTwoWrong : ChangeSpec := { name := "optTwo", fn := fun _ => fun
  | [d1, d2] => { results := [.lit (.bool false)], args := [d1, d2] }
  | _ => none }
def OptTwoWrongFalsely : Prop := optTwoRow.holds Try.pinned (OpenSpec.ofChange optTwoWrong)

/-- 'pontoonlaw10.OptStays': WHATEVER THE INPUT: true; the input reads as it did. -/
def optStaysSpec : ChangeSpec := { name := "optStays", fn := fun _ => fun
  | [d1, d2, d3] => { results := [.lit (.bool true)], args := [d1, d2, d3] }
  | _ => none }
def optStaysRow : OpenClaim := { program := "ytcpdeeiopoghiaa", sum := "0db141c8065f2dc903068a2d283227262a61759d884900b27c5ffc928c421d6f", func := "pontoon/pontoonlaw10.OptStays", spec := "optStays", apart := false }
def OptStaysSaid : Prop := optStaysRow.holds Try.pinned (OpenSpec.ofChange optStaysSpec)

/-- ITS FALSE NEIGHBOUR: 'it returns false'. Refute it at one input. -/
def optStaysWrong : ChangeSpec := { name := "optStays", fn := fun _ => fun
  | [d1, d2, d3] => { results := [.lit (.bool false)], args := [d1, d2, d3] }
  | _ => none }
def OptStaysWrongFalsely : Prop := optStaysRow.holds Try.pinned (OpenSpec.ofChange optStaysWrong)

/- THE SECOND FORM. 'bulk': how many values and letters a reading holds, each counted each time it is reached (what is shared counts as often as it is met; a slice's spare places count too). A statement '..UptoSaid' is the law's where the arguments, and the package variables that the reading takes, are together of bulk at most 1048576: NARROWER than '..Said'. Prove '..Said' where nothing that the law and all that it calls make is longer than what came in: it says more and counts as full. Else prove '..UptoSaid'. A law counts once. -/
mutual
def uptoBulk {H : Type} : DataW H → Nat
  | .lit (.string bytes) => bytes.length + 1
  | .lit _ => 1
  | .nil => 1
  | .ptr d => uptoBulk d + 1
  | .slice elems spare => uptoBulkAll elems + uptoBulkAll spare + 1
  | .agg parts => uptoBulkAll parts + 1
  | .iface _ d => uptoBulk d + 1
  | .map entries => uptoBulkEntries entries + 1
  | .held _ => 1
def uptoBulkAll {H : Type} : List (DataW H) → Nat
  | [] => 0
  | d :: r => uptoBulk d + uptoBulkAll r
def uptoBulkEntries {H : Type} : List (Lit × DataW H) → Nat
  | [] => 0
  | x :: r => uptoBulkEntry x + uptoBulkEntries r
def uptoBulkEntry {H : Type} : Lit × DataW H → Nat
  | (.string bytes, d) => bytes.length + uptoBulk d + 1
  | (_, d) => uptoBulk d + 1
 end
def uptoSmall : (H : Type) → List (DataW H) → Bool := fun _ ds => decide (uptoBulkAll ds ≤ 1048576)
def OpenSpec.upto (s : _root_.Go.ChangeSpec) : _root_.Go.OpenSpec := { _root_.Go.OpenSpec.ofChange s with cond := some uptoSmall }

/-- 'pontoonlaw10.OptTells', WHERE WHAT IT READS IS OF BULK AT MOST 1048576: true; the input reads as it did. -/
def optTellsUptoRow : OpenClaim := { program := "ytcpdeeiopoghiaa", sum := "0db141c8065f2dc903068a2d283227262a61759d884900b27c5ffc928c421d6f", func := "pontoon/pontoonlaw10.OptTells", spec := "optTells", apart := false, narrowed := true }
def OptTellsUptoSaid : Prop := optTellsUptoRow.holds Try.pinned (OpenSpec.upto optTellsSpec)

/-- 'pontoonlaw10.OptPlays', WHERE WHAT IT READS IS OF BULK AT MOST 1048576: true; the input reads as it did. -/
def optPlaysUptoRow : OpenClaim := { program := "ytcpdeeiopoghiaa", sum := "0db141c8065f2dc903068a2d283227262a61759d884900b27c5ffc928c421d6f", func := "pontoon/pontoonlaw10.OptPlays", spec := "optPlays", apart := false, narrowed := true }
def OptPlaysUptoSaid : Prop := optPlaysUptoRow.holds Try.pinned (OpenSpec.upto optPlaysSpec)

/-- 'pontoonlaw10.OptTwo', WHERE WHAT IT READS IS OF BULK AT MOST 1048576: true; the input reads as it did. -/
def optTwoUptoRow : OpenClaim := { program := "ytcpdeeiopoghiaa", sum := "0db141c8065f2dc903068a2d283227262a61759d884900b27c5ffc928c421d6f", func := "pontoon/pontoonlaw10.OptTwo", spec := "optTwo", apart := false, narrowed := true }
def OptTwoUptoSaid : Prop := optTwoUptoRow.holds Try.pinned (OpenSpec.upto optTwoSpec)

/-- 'pontoonlaw10.OptStays', WHERE WHAT IT READS IS OF BULK AT MOST 1048576: true; the input reads as it did. -/
def optStaysUptoRow : OpenClaim := { program := "ytcpdeeiopoghiaa", sum := "0db141c8065f2dc903068a2d283227262a61759d884900b27c5ffc928c421d6f", func := "pontoon/pontoonlaw10.OptStays", spec := "optStays", apart := false, narrowed := true }
def OptStaysUptoSaid : Prop := optStaysUptoRow.holds Try.pinned (OpenSpec.upto optStaysSpec)

end Rows
end Go.Proofs.Ytcpdeeiopoghiaa
