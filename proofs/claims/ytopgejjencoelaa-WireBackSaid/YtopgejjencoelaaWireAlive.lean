/- The law's alive. Own work. -/
import Derived.Test.YtopgejjencoelaaWirePlain
import Derived.Test.YtopgejjencoelaaWireSub
namespace Go.Proofs.Ytopgejjencoelaa
set_option linter.unusedVariables false
set_option linter.unusedSimpArgs false
open Go.RowKit

theorem alive_sent : sentL false (joinL [⟨#[97, 13]⟩, ⟨#[98, 13, 10]⟩]) = [97, 13, 0, 98, 13, 10] := by decide +kernel
theorem alive_plain : plainOf false (⟨#[97, 13, 0]⟩ : ByteArray).data.toList = [97, 13] := by decide +kernel

set_option maxRecDepth 100000 in
set_option maxHeartbeats 1600000 in
theorem alive_any (w : World) : Calls Try.prog 7 #[] w fun e w' => e = .returned (.bool true) ∧ Below w.heap.size w w' := by
  have h1 := wire_data false (some ⟨w.heap.size, 0, none⟩) 2 2 [⟨#[97, 13]⟩, ⟨#[98, 13, 10]⟩] _ (src_new w [.string ⟨#[97, 13]⟩, .string ⟨#[98, 13, 10]⟩] 9 w.heap.size rfl 2 rfl) (Nat.le_refl _) (by decide) (by omega)
  rw [alive_sent] at h1
  have h2 := fun W => wire_plain false ⟨#[97, 13, 0]⟩ W (by decide)
  simp only [alive_plain] at h2
  have H1 := Lib.hid h1
  have H2 := Lib.hid h2
  clear h1 h2
  go_enter Try.func7, Try.ntmps7
  go_wp2_with fail
  refine H1.out.mono ?_
  rintro r w1 ⟨rfl, b1⟩
  have B1 := Lib.hid (((Below.refl w.heap.size w).alloc (Nat.le_refl _) (.cells #[.string ⟨#[97, 13]⟩, .string ⟨#[98, 13, 10]⟩] 9)).trans (b1.mono (by simp)))
  clear b1
  go_wp2_with fail
  refine (H2.out w1).mono ?_
  rintro r w2 ⟨rfl, b2⟩
  have B2 := Lib.hid (B1.out.trans (b2.mono B1.out.size))
  clear b2
  go_wp2_with fail
  go_ret
  exact ⟨rfl, B2.out⟩

end Go.Proofs.Ytopgejjencoelaa
