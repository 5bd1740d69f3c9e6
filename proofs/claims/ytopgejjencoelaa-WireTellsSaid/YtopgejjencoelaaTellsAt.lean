/- Law WireTells: what stays. Own work. -/
import Derived.Test.YtopgejjencoelaaWireAlive
import Derived.Test.YtopgejjencoelaaRefWS
import Derived.Test.YtopgejjencoelaaRefP
import Derived.Test.YtopgejjencoelaaShort
import Derived.Test.YtopgejjencoelaaJoin
import Derived.Test.YtopgejjencoelaaTexts
namespace Go.Proofs.Ytopgejjencoelaa
set_option linter.unusedVariables false
set_option linter.unusedSimpArgs false
open Go.RowKit

/-- The texts that were handed in, and those that were lent. -/
structure TellsAt (w0 : World) (A : Option Addr) (n g c : Nat) (xs : List ByteArray) (w : World) : Prop where
  b : Below w0.heap.size w0 w
  l : Lent w 9 g c (xs.map Value.string) (.string ⟨#[109, 97, 114, 107]⟩)
  s : Src w A n (xs.map Value.string)
theorem TellsAt.next {w0 w w' : World} {A : Option Addr} {n g c : Nat} {xs : List ByteArray} (h : TellsAt w0 A n g c xs w) (k : Below w.heap.size w w') : TellsAt w0 A n g c xs w' :=
  ⟨h.b.trans (k.mono h.b.size), h.l.keep (S := fun _ => False) (Keep.of_below _ k) (fun x => x), h.s.below k⟩
theorem TellsAt.cap {w0 w : World} {A : Option Addr} {n g c : Nat} {xs : List ByteArray} (h : TellsAt w0 A n g c xs w) : n ≤ c := by
  have h1 := h.l.cap.1
  have h2 := h.s.1
  omega
theorem TellsAt.lent {w0 w : World} {A : Option Addr} {n g c : Nat} {xs : List ByteArray} (h : TellsAt w0 A n g c xs w) : Src w (some ⟨g, 0, none⟩) n (xs.map Value.string) := by
  have h1 := h.l.src
  rwa [h.s.1] at h1

end Go.Proofs.Ytopgejjencoelaa
