/- The program's words, and those of the lists. Speaks of no program. Own work. -/
import Derived.Test.YtncfnpibigohoaaDoorSha
import Derived.Test.YtncfnpibigohoaaDoorGen
import Derived.IntWalk
namespace Go.Proofs.YtncfnpibigohoaaDoor
set_option linter.unusedVariables false
open Go.RowKit

namespace Wd
theorem lt (x : Wd) : x.nat < 4294967296 := BitVec.isLt x
theorem n_bd (x : Wd) : 0 ≤ x.n ∧ x.n ≤ 4294967295 := by have := x.lt; unfold n; omega
theorem ext {x y : Wd} (h : x.nat = y.nat) : x = y := BitVec.eq_of_toNat_eq h
theorem of_nat {k : Nat} (h : k < 4294967296) : (of k).nat = k := by
  show (BitVec.ofNat 32 k).toNat = k
  rw [BitVec.toNat_ofNat]; omega
theorem of_n {k : Nat} (h : k < 4294967296) : (of k).n = (k : Int) := by unfold n; rw [of_nat h]
theorem nat_xor (x y : Wd) : (xor x y).nat = x.nat ^^^ y.nat := BitVec.toNat_xor ..
theorem nat_and (x y : Wd) : (and x y).nat = x.nat &&& y.nat := BitVec.toNat_and ..
theorem nat_or (x y : Wd) : (or x y).nat = x.nat ||| y.nat := BitVec.toNat_or ..
theorem nat_not (x : Wd) : (not x).nat = 4294967295 - x.nat := BitVec.toNat_not ..
theorem nat_add (x y : Wd) : (add x y).nat = (x.nat + y.nat) % 4294967296 := BitVec.toNat_add ..
theorem nat_shr (x : Wd) (k : Nat) : (shr x k).nat = x.nat / 2 ^ k := by
  show (BitVec.ushiftRight x k).toNat = _
  exact (BitVec.toNat_ushiftRight ..).trans (Nat.shiftRight_eq_div_pow ..)
theorem nat_shl (x : Wd) (k : Nat) : (shl x k).nat = x.nat * 2 ^ k % 4294967296 := by
  show (BitVec.shiftLeft x k).toNat = _
  exact (BitVec.toNat_shiftLeft ..).trans (by rw [Nat.shiftLeft_eq]; rfl)

theorem xor_is (x y : Wd) : bits .xor .u32 x.n y.n = (xor x y).n := by
  unfold n; rw [u32_xor_nat _ _ x.lt y.lt, nat_xor]
theorem and_is (x y : Wd) : bits .and .u32 x.n y.n = (and x y).n := by
  unfold n; rw [u32_and_nat _ _ x.lt y.lt, nat_and]
theorem or_is (x y : Wd) : bits .or .u32 x.n y.n = (or x y).n := by
  unfold n; rw [u32_or_nat _ _ x.lt y.lt, nat_or]
theorem not_nat (a : Nat) (h : a < 4294967296) : 4294967295 ^^^ a = 4294967295 - a := by
  have h1 := BitVec.toNat_not (x := BitVec.ofNat 32 a)
  have h2 : (~~~ (BitVec.ofNat 32 a)) = (BitVec.allOnes 32 ^^^ BitVec.ofNat 32 a) := by rw [BitVec.allOnes_xor]
  rw [h2, BitVec.toNat_xor, BitVec.toNat_allOnes, BitVec.toNat_ofNat, Nat.mod_eq_of_lt (show a < 2 ^ 32 from h)] at h1
  exact h1
theorem not_is (x : Wd) : bits .xor .u32 4294967295 x.n = (not x).n := by
  unfold n
  rw [show (4294967295 : Int) = ((4294967295 : Nat) : Int) from rfl, u32_xor_nat _ _ (by omega) x.lt, not_nat _ x.lt, nat_not]
theorem add_is (x y : Wd) : IntKind.u32.wrap (x.n + y.n) = (add x y).n := by
  unfold n; rw [IntKind.wrap_u32', nat_add]; omega
theorem add_is' (x y : Wd) : (x.n + y.n) % 4294967296 = (add x y).n := by
  unfold n; rw [nat_add]; omega
theorem shr_is (x : Wd) (k : Nat) : x.n / 2 ^ k = (shr x k).n := by
  unfold n; rw [nat_shr]; simp
theorem shl_is (x : Wd) (k : Nat) : x.n * 2 ^ k % 4294967296 = (shl x k).n := by
  unfold n; rw [nat_shl]; simp
theorem or_comm (x y : Wd) : or x y = or y x := ext (by rw [nat_or, nat_or, Nat.or_comm])
theorem add_assoc (x y z : Wd) : add (add x y) z = add x (add y z) := ext (by simp only [nat_add]; omega)
theorem add_comm (x y : Wd) : add x y = add y x := ext (by simp only [nat_add]; omega)
theorem add_right_comm (x y z : Wd) : add (add x y) z = add (add x z) y := ext (by simp only [nat_add]; omega)
theorem wf (x : Wd) : (Lit.int .u32 x.n).wf = true := by
  have := x.n_bd
  simp [Lit.wf, IntKind.min, IntKind.max, IntKind.signed, IntKind.bits]; omega
end Wd

theorem mask31 (k : Nat) (h1 : 1 ≤ k) (h2 : k ≤ 31) : bits .and .u64 (IntKind.u64.wrap (-(k : Int))) 31 = ((32 - k : Nat) : Int) := by
  have e : IntKind.u64.wrap (-(k : Int)) = ((18446744073709551616 - k : Nat) : Int) := by
    simp [IntKind.wrap, IntKind.bits, IntKind.signed]; omega
  rw [e, show (31 : Int) = ((31 : Nat) : Int) from rfl, u64_and_nat _ _ (by omega) (by omega), nat_mask5]
  omega

theorem ret32 {a b : Wd} (h : a = b) : Ending.returned (.int .u32 a.n) = .returned (.int .u32 b.n) := by rw [h]
end Go.Proofs.YtncfnpibigohoaaDoor
