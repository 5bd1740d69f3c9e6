/- Rests of the program's division, twice. Own work. -/
import Derived.Test.YtnminmaklbhakaaGreatDoorEmuZs
set_option linter.unusedVariables false
set_option linter.unusedSimpArgs false
namespace Go.Proofs.YtnminmaklbhakaaGreatDoor
set_option linter.unusedVariables false

/-- (a % n + n) % n of the program's rest. -/
theorem rest_twice (a : Int) (n : Nat) (h : 0 < n) : ∃ tm : Int, a.tmod (n : Int) = tm ∧ -(n : Int) < tm ∧ tm < n ∧ ∃ r : Nat, (tm + (n : Int)) % (n : Int) = (r : Int) ∧ r < n := by
  refine ⟨_, rfl, ?_, Int.tmod_lt_of_pos a (by omega), ((a.tmod n + n) % n).toNat, ?_, ?_⟩
  · have h1 := Int.natAbs_tmod a (n : Int)
    have h2 := Nat.mod_lt a.natAbs (show 0 < ((n : Int)).natAbs by omega)
    rw [← h1] at h2
    omega
  · have := Int.emod_nonneg (a.tmod n + n) (show (n : Int) ≠ 0 by omega)
    omega
  · have h1 := Int.emod_nonneg (a.tmod n + n) (show (n : Int) ≠ 0 by omega)
    have h2 := Int.emod_lt_of_pos (a.tmod n + n) (show 0 < (n : Int) by omega)
    omega

end Go.Proofs.YtnminmaklbhakaaGreatDoor
