/- ending, end, hash. Own work. -/
import Derived.Test.YtncfnpibigohoaaDoorTurned
import Derived.Test.YtncfnpibigohoaaDoorShelf
namespace Go.Proofs.YtncfnpibigohoaaDoor
set_option linter.unusedVariables false
open Go.RowKit

theorem repeat_zero (z : Nat) : Lib.repeatL [(0 : UInt8)] z = List.replicate z 0 := by
  induction z with
  | zero => rfl
  | succ z ih => rw [List.replicate_succ, ← ih]; rfl

set_option maxRecDepth 100000 in
set_option maxHeartbeats 1600000 in
theorem ending_any (size : Nat) (w : World) (hs : size ≤ 1000000) :
    Calls Tryd.prog 34 #[.int .i64 size] w fun r w' => r = .returned (.string ⟨(endOf size).toArray⟩) ∧ Below w.heap.size w w' := by
  obtain ⟨z, hz⟩ : ∃ z : Nat, z = (119 - size % 64) % 64 := ⟨_, rfl⟩
  have e1 : (119 - (size : Int) % 64) % 64 = (z : Int) := by omega
  obtain ⟨m, hm⟩ : ∃ m : Nat, m = 8 * size := ⟨_, rfl⟩
  have e2 : (size : Int) * 8 = (m : Int) := by omega
  have hz2 : z ≤ 63 := by omega
  have hm2 : m ≤ 8000000 := by omega
  have HZ := Lib.hid hz
  have HM := Lib.hid hm
  clear hz hm
  go_enter Tryd.func34, Tryd.ntmps34
  go_wp2_with fail
  refine (Tryd.strings_Repeat ⟨#[0]⟩ z w (by omega) (by show 1 * z ≤ _; omega)).mono ?_
  rintro r w1 ⟨rfl, hb⟩
  obtain ⟨R, hR⟩ : ∃ R : ByteArray, R = ⟨(Lib.repeatL (⟨#[0]⟩ : ByteArray).data.toList z).toArray⟩ := ⟨_, rfl⟩
  have hRl : R = ⟨(List.replicate z (0 : UInt8)).toArray⟩ := by rw [hR, ← repeat_zero]
  have hRs : R.size = z := by rw [hRl, size_mk, List.length_replicate]
  have hRz : 1 + R.size ≤ 9223372036854775807 := by omega
  rw [← hR]
  have HR := Lib.hid hRl
  have HB := Lib.hid hb
  have HRS := Lib.hid hRs
  clear hR hRl hb hRs
  go_wp2_with fail
  refine (lay_any w1.heap.size (.slice none 0 0) [] m 8 w1 (World.ownsRow_nil _ _ _ _) (Nat.le_refl _) (by omega) (by omega) (by omega) (by simp)).mono ?_
  rintro r w2 ⟨v, rfl, ho, hb⟩
  obtain ⟨A1, c1, rfl, _⟩ := own_form ho
  have hl8 : (([] : List UInt8) ++ be m 8).length = 8 := by rw [List.nil_append, be_len]
  have hcv := run_own_string (P := Tryd.prog) (t := 34) (u := 9) ho Tryd.underlying34 Tryd.underlying5 Tryd.underlying9
  rw [List.nil_append] at hcv hl8
  obtain ⟨Q, hQ⟩ : ∃ Q : ByteArray, Q = ⟨(be m 8).toArray⟩ := ⟨_, rfl⟩
  have hQs : Q.size = 8 := by rw [hQ, size_mk, be_len]
  rw [← hQ] at hcv
  rw [List.nil_append]
  have hz1 : (⟨#[128]⟩ ++ R : ByteArray).size + Q.size ≤ 9223372036854775807 := by
    rw [ByteArray.size_append, hQs]
    have := HRS.out
    show 1 + R.size + 8 ≤ _
    omega
  have HB2 := Lib.hid hb
  have HQ := Lib.hid hQ
  have HE : Hid ((⟨#[128]⟩ ++ R) ++ Q = (⟨(endOf size).toArray⟩ : ByteArray)) := by
    show _ = _
    rw [HR.out, hQ, HM.out, HZ.out]
    apply ByteArray.ext
    simp [endOf]
  clear ho hb hQ hQs hl8
  go_wp2_with fail
  go_ret
  exact ⟨by rw [← HE.out]; rfl, HB.out.trans (HB2.out.mono HB.out.size)⟩
end Go.Proofs.YtncfnpibigohoaaDoor
