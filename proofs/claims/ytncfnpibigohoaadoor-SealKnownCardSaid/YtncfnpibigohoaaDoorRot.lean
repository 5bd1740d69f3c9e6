/- Words that are turned: the contracts. Own work. -/
import Derived.Test.YtncfnpibigohoaaDoorWord
import Derived.Test.YtncfnpibigohoaaDoorChecked
import Derived.Deep.QuietTactic
import Derived.BigQuiet
namespace Go.Proofs.YtncfnpibigohoaaDoor
set_option linter.unusedVariables false
open Go.RowKit

/-- In a quiet region: a callee whose contract says w = w'. -/
theorem quiet_is {P : Program} {f : FuncId} {args : Array Value} {w : World} {n : Nat} {v : Value}
    (h : Calls P f args (w.drewN n) fun e w' => e = .returned v ∧ w.drewN n = w') : Calls P f args (w.drewN n) fun e w'' => e = .returned v ∧ ∃ m, w'' = w.drewN m :=
  h.mono fun _ _ ⟨he, hm⟩ => ⟨he, n, hm.symm⟩

set_option maxHeartbeats 400000 in
theorem rot_ref (x : Wd) (k : Nat) (w : World) (h1 : 1 ≤ k) (h2 : k ≤ 31) :
    Calls Tryd.prog 31 #[.int .u32 x.n, .int .i64 k] w fun r w' => r = .returned (.int .u32 (x.rot k).n) ∧ ∃ k, w' = w.drewN k := by
  have e1 := Wd.shr_is x k
  have e2 := Wd.shl_is x (32 - k)
  have e3 := Wd.or_is (x.shr k) (x.shl (32 - k))
  go_enter Tryd.func31, Tryd.ntmps31
  go_wp2_with fail
  go_quiet (fail)
  go_wp2_with fail
  go_ret
  exact ⟨rfl, _, rfl⟩

set_option maxHeartbeats 400000 in
theorem rot_seal (x : Wd) (k : Nat) (w : World) (h1 : 1 ≤ k) (h2 : k ≤ 31) :
    Calls Tryd.prog 46 #[.int .u32 x.n, .int .i64 (-(k : Int))] w fun r w' => r = .returned (.int .u32 (x.rot k).n) ∧ w = w' := by
  have e0 := mask31 k h1 h2
  have e1 : x.n / 2 ^ (32 - (32 - k)) = (x.shr k).n := by rw [show 32 - (32 - k) = k from by omega]; exact Wd.shr_is x k
  have e2 := Wd.shl_is x (32 - k)
  have e3 := Wd.or_is (x.shl (32 - k)) (x.shr k)
  rw [Wd.or_comm] at e3
  go_enter Tryd.func46, Tryd.ntmps46
  go_wp2_with fail
  go_ret
  exact ⟨rfl, rfl⟩

set_option maxHeartbeats 400000 in
theorem turn_seal (x : Wd) (i j k : Nat) (w : World) (hi : 1 ≤ i) (hi' : i ≤ 31) (hj : 1 ≤ j) (hj' : j ≤ 31) (hk : 1 ≤ k) (hk' : k ≤ 31) :
    Calls Tryd.prog 41 #[.int .u32 x.n, .int .i64 i, .int .i64 j, .int .i64 k] w fun r w' => r = .returned (.int .u32 (x.big i j k).n) ∧ w = w' := by
  have e1 := Wd.xor_is (x.rot i) (x.rot j)
  have e2 := Wd.xor_is ((x.rot i).xor (x.rot j)) (x.rot k)
  go_enter Tryd.func41, Tryd.ntmps41
  go_wp2_with fail
  refine (rot_seal x i w hi hi').mono ?_
  rintro r w1 ⟨rfl, rfl⟩
  go_wp2_with fail
  refine (rot_seal x j w hj hj').mono ?_
  rintro r w1 ⟨rfl, rfl⟩
  go_wp2_with fail
  refine (rot_seal x k w hk hk').mono ?_
  rintro r w1 ⟨rfl, rfl⟩
  go_wp2_with fail
  go_ret
  exact ⟨rfl, rfl⟩

set_option maxHeartbeats 400000 in
theorem shift_seal (x : Wd) (i j k : Nat) (w : World) (hi : 1 ≤ i) (hi' : i ≤ 31) (hj : 1 ≤ j) (hj' : j ≤ 31) (hk : 1 ≤ k) (hk' : k ≤ 31) :
    Calls Tryd.prog 45 #[.int .u32 x.n, .int .i64 i, .int .i64 j, .int .i64 k] w fun r w' => r = .returned (.int .u32 (x.small i j k).n) ∧ ∃ k, w' = w.drewN k := by
  have e0 := Wd.shr_is x k
  have e1 := Wd.xor_is (x.rot i) (x.rot j)
  have e2 := Wd.xor_is ((x.rot i).xor (x.rot j)) (x.shr k)
  have a1 : IntKind.i64.wrap (-(i : Int)) = -(i : Int) := IntWalk.i64_in _ (by omega)
  have a2 : IntKind.i64.wrap (-(j : Int)) = -(j : Int) := IntWalk.i64_in _ (by omega)
  go_enter Tryd.func45, Tryd.ntmps45
  go_wp2_with fail
  go_quiet ((go_at_call 46; exact quiet_is (rot_seal _ _ _ (by omega) (by omega))))
  go_wp2_with fail
  go_ret
  exact ⟨rfl, _, rfl⟩
end Go.Proofs.YtncfnpibigohoaaDoor
