/- pontoonbook's copyCells, of a Book. Own work. -/
import Derived.Test.YtbjdcbnmpmcdiaaBkSCells
import Derived.Test.YtbjdcbnmpmcdiaaGridB
set_option linter.unusedVariables false
set_option linter.unusedSimpArgs false
namespace Go.Proofs.Ytbjdcbnmpmcdiaa
set_option linter.unusedVariables false
open Go.RowKit

def rOf (c : CellM) : CellR := ⟨c.r, c.a.fg, c.a.bg, c.a.b, c.a.u, c.a.i⟩
def mOf (r : CellR) : CellM := ⟨r.rune, ⟨r.fg, r.bg, r.bold, r.under, r.inv⟩⟩
theorem enc_m (r : CellR) : CellREnc r = cellCs (mOf r) := rfl
theorem enc_r (c : CellM) : CellREnc (rOf c) = cellCs c := rfl
theorem flat_m (rs : List CellR) : rs.flatMap CellREnc = flatL (rs.map mOf) := by
  unfold flatL
  rw [List.flatMap_map]
  rfl
theorem flat_r (xs : List CellM) : flatL xs = (xs.map rOf).flatMap CellREnc := by
  unfold flatL
  rw [List.flatMap_map]
  rfl
theorem sm_cells (rd : Nat → Prop) (w : World) (xs : List CellM) : SmCells rd w (flatL xs) (flatL xs) := ⟨xs.map rOf, flat_r xs, flat_r xs⟩

theorem copy'_Cells (rd : Nat → Prop) (A : Option Addr) (n c : Nat) (us : List Value) (w : World) (h : Src w A (n * 6) us) (hs : SmCells rd w us us) (hr : ∀ i, rd i → i < w.heap.size) (hn : n ≤ 1099511627776) :
    Calls Try.prog 49 #[.slice A n c] w fun e w' => ∃ (v : Value) (vs : List Value) (rd2 : Nat → Prop), e = .returned v ∧ w'.ownsRow w.heap.size 42 6 v n vs ∧ Below w.heap.size w w' ∧ SmCells (fun i => rd i ∨ rd2 i) w' us vs ∧ ∀ i, rd2 i → w.heap.size ≤ i ∧ i < w'.heap.size := by
  obtain ⟨xs, rfl, -⟩ := hs
  rw [flat_m] at h
  refine (copy_Cells A n c _ w h hn).mono ?_
  rintro e w' ⟨v, rfl, h1, h2⟩
  rw [← flat_m] at h1
  exact ⟨v, _, fun _ => False, rfl, h1, h2, ⟨xs, rfl, rfl⟩, fun _ x => x.elim⟩

end Go.Proofs.Ytbjdcbnmpmcdiaa
