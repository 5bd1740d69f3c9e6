/- grid: the document's Fill. By program (rgn/XRGridFill.py). Own work. -/
import Derived.Test.YtgomnigchfmfhaaRGrid
import Derived.Deep.Cut
namespace Go.Proofs.Ytgomnigchfmfhaa
set_option linter.unusedVariables false
set_option linter.unusedSimpArgs false
open Go.RowKit

def fillG (W : Nat) (s t : Int) (c : CellM) (F : Nat → Nat → CellM) (i j : Nat) : CellM := if s ≤ ((i * W + j : Nat) : Int) ∧ ((i * W + j : Nat) : Int) < t then c else F i j

theorem place_lt {W H i j : Nat} (hi : i < H) (hj : j < W) : i * W + j < W * H := by
  have := Nat.mul_le_mul_right W (Nat.succ_le_of_lt hi)
  rw [Nat.succ_mul, Nat.mul_comm H W] at this
  omega
theorem place_eq {W i j y x : Nat} (hj : j < W) (hx : x < W) (h : i * W + j = y * W + x) : i = y ∧ j = x := by
  have h1 : (i * W + j) / W = i := by rw [Nat.mul_comm, Nat.mul_add_div (by omega), Nat.div_eq_of_lt hj, Nat.add_zero]
  have h2 : (y * W + x) / W = y := by rw [Nat.mul_comm, Nat.mul_add_div (by omega), Nat.div_eq_of_lt hx, Nat.add_zero]
  have : i = y := by rw [← h1, ← h2, h]
  subst this
  exact ⟨rfl, by omega⟩

end Go.Proofs.Ytgomnigchfmfhaa

