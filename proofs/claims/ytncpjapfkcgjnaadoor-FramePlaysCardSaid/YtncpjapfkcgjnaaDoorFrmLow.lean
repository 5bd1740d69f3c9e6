/- lowestFirst, isWay, fault. Own work. -/
import Derived.Test.YtncpjapfkcgjnaaDoorFrm
import Derived.Test.YtncpjapfkcgjnaaDoorCodec
import Derived.Test.YtncpjapfkcgjnaaDoorBase
import Derived.IntWalk
namespace Go.Proofs.YtncpjapfkcgjnaaDoor
set_option linter.unusedVariables false
set_option linter.unusedSimpArgs false
open Go.RowKit

theorem lowB_take (n k : Nat) : (lowB n (k + 1)).map (fun b => Value.int .i64 (b.toNat : Int)) = (lowB n k).map (fun b => Value.int .i64 (b.toNat : Int)) ++ [.int .i64 ((n / 256 ^ k % 256 : Nat) : Int)] := by
  rw [lowB_snoc, List.map_append, List.map_cons, List.map_nil, toNat_ofNat (Nat.mod_lt _ (by omega))]

theorem i64_and_nat (a b : Nat) (ha : a < 9223372036854775808) (hb : b < 9223372036854775808) : bits .and .i64 (a : Int) (b : Int) = ((a &&& b : Nat) : Int) := by
  have hx : a &&& b < 2 ^ 63 := Nat.and_lt_two_pow _ (by omega)
  show IntKind.i64.wrap ((BitVec.ofInt 64 (a : Int) &&& BitVec.ofInt 64 (b : Int)).toNat : Int) = _
  rw [BitVec.toNat_and, ofInt_u64 a (by omega), ofInt_u64 b (by omega), IntKind.wrap_i64]
  omega

theorem low_step (n k : Nat) (hn : n < 9223372036854775808) : bits .and .i64 ((n : Int) / 2 ^ (k * 8)) 255 = ((n / 256 ^ k % 256 : Nat) : Int) := by
  have e : ((n : Int) / 2 ^ (k * 8)) = ((n / 256 ^ k : Nat) : Int) := by
    rw [show (256 : Nat) = 2 ^ 8 from rfl, ← Nat.pow_mul, Nat.mul_comm 8 k]; simp
  have hl : n / 256 ^ k < 9223372036854775808 := Nat.lt_of_le_of_lt (Nat.div_le_self _ _) hn
  rw [e, show (255 : Int) = ((255 : Nat) : Int) from rfl, i64_and_nat _ _ hl (by omega), show (255 : Nat) = 2 ^ 8 - 1 from rfl, Nat.and_two_pow_sub_one_eq_mod]

set_option maxRecDepth 100000 in
set_option maxHeartbeats 800000 in
theorem low_any (n : Nat) (w : World) (hn : n < 9223372036854775808) :
    Calls Tryd.prog 22 #[.int .i64 (n : Int)] w fun r w' => ∃ A c, r = .returned (.slice A 8 c) ∧ Buf w' A 8 c ((lowB n 8).map (fun b => Value.int .i64 (b.toNat : Int))) ∧ (∀ k, blk A = some k → w.heap.size ≤ k) ∧ Below w.heap.size w w' := by
  obtain ⟨i0, hi, hz0, hz1, hz2⟩ := info_parts int_info
  go_enter Tryd.func22, Tryd.ntmps22
  go_wp2_with fail
  go_loopw [3, 4, 5] (fun l _ i wr => ∃ (k : Nat) (A : Option Addr) (c : Nat), i = .int .i64 k ∧ k ≤ 8 ∧ l = .slice A k c ∧ Hid (Buf wr A k c ((lowB n k).map (fun b => Value.int .i64 (b.toNat : Int)))) ∧ Hid (∀ j, blk A = some j → w.heap.size ≤ j) ∧ Hid (Below w.heap.size w wr)) (fun _ _ i _ => 8 - (intOf i).toNat)
  case atStart => exact ⟨0, none, 0, rfl, by omega, rfl, Buf.nil _, fun j hj => by simp [blk] at hj, Below.refl _ _⟩
  case round =>
    obtain ⟨k, A, c, rfl, hk, rfl, HB, HA, HW⟩ := hrel
    by_cases hlt : k < 8
    · go_wp2_with (at_builtin; refine wpList_append_buf _ rfl (.tmp 8) (.tmp 14) 41 rfl 3 i0 (.int .i64 0) 8 Tryd.underlying41 hi hz0 hz1 hz2 rfl rfl (HB.out.keep ((Keep.refl (fun _ => False) _).alloc _) (fun _ _ x => x)) _ rfl (src_one _ _ _ (by simp)) (by intro u hu; simp at hu; subst hu; rfl) (by unfold maxLen; omega) (by omega) ?_)
      intro A' c' w2 hb hk2 hf
      rw [low_step n k hn, ← lowB_take] at hb
      have HB2 := Lib.hid hb
      have HA2 : Hid (∀ j, blk A' = some j → w.heap.size ≤ j) := Lib.hid (fun j hj => by
        rcases hf j hj with h | h
        · exact HA.out j h
        · have := HW.out.size; (try simp at h); omega)
      have HW2 : Hid (Below w.heap.size w w2) := Lib.hid ((HW.out.alloc HW.out.size _).trans (hk2.below (by have := HW.out.size; simp; omega) (fun j hj hs => by have := HA.out j hs; omega)))
      clear hb hk2 hf
      go_wp2_with fail
      go_roundw
      case rel => exact ⟨k + 1, A', c', by go_num, by omega, rfl, HB2, HA2, HW2⟩
      case measure => simp [intOf]; omega
    · obtain rfl : k = 8 := by omega
      go_wp2_with fail
      go_ret
      exact ⟨A, c, rfl, HB.out, HA.out, HW.out⟩

set_option maxHeartbeats 400000 in
theorem isway_yes (way : Int) (w : World) (h : way = 1 ∨ way = 2) : Calls Tryd.prog 34 #[.int .i64 way] w fun r w' => r = .returned (.bool true) ∧ w = w' := by
  rcases h with rfl | rfl
  all_goals
    go_enter Tryd.func34, Tryd.ntmps34
    go_wp2_with fail
    go_ret
    exact ⟨rfl, rfl⟩

set_option maxHeartbeats 400000 in
theorem isway_no (way : Int) (w : World) (h : ¬ (way = 1 ∨ way = 2)) : Calls Tryd.prog 34 #[.int .i64 way] w fun r w' => r = .returned (.bool false) ∧ w = w' := by
  have h1 : (way == 1) = false := by simp; omega
  have h2 : (way == 2) = false := by simp; omega
  clear h
  go_enter Tryd.func34, Tryd.ntmps34
  go_wp2_with fail
  go_ret
  exact ⟨rfl, rfl⟩

set_option maxHeartbeats 800000 in
theorem fault_any (way seq : Int) (body : ByteArray) (w : World) (hs : -9223372036854775808 ≤ seq ∧ seq ≤ 9223372036854775807) (hb : body.size ≤ maxLen) :
    Calls Tryd.prog 20 #[.agg #[.int .i64 way, .int .i64 seq, .string body]] w fun r w' => r = .returned (.int .i64 (faultI way seq body.size)) ∧ Below w.heap.size w w' := by
  unfold maxLen at hb
  obtain ⟨hs1, hs2⟩ := hs
  by_cases hw : way = 1 ∨ way = 2
  · by_cases h1 : seq < 1
    · have E := Lib.hid (fault_arg (n := body.size) (.inr (.inl h1)) : faultI way seq body.size = 1)
      go_enter Tryd.func20, Tryd.ntmps20
      go_wp2_with fail
      refine (isway_yes way _ hw).mono ?_
      rintro r w1 ⟨rfl, rfl⟩
      go_wp2_with fail
      go_ret
      exact ⟨by rw [E.out]; rfl, (Below.refl _ _).alloc (Nat.le_refl _) _⟩
    · by_cases h2 : 4611686018427387904 < seq
      · have E := Lib.hid (fault_arg (n := body.size) (.inr (.inr h2)) : faultI way seq body.size = 1)
        have d1 : decide (seq < 1) = false := by simpa using h1
        go_enter Tryd.func20, Tryd.ntmps20
        go_wp2_with fail
        refine (isway_yes way _ hw).mono ?_
        rintro r w1 ⟨rfl, rfl⟩
        go_wp2_with fail
        go_ret
        exact ⟨by rw [E.out]; rfl, (Below.refl _ _).alloc (Nat.le_refl _) _⟩
      · have d1 : decide (seq < 1) = false := by simpa using h1
        have d2 : decide (4611686018427387904 < seq) = false := by simpa using h2
        by_cases h3 : 20000 < body.size
        · have E := Lib.hid (fault_long (way := way) (seq := seq) (by omega) h3)
          go_enter Tryd.func20, Tryd.ntmps20
          go_wp2_with fail
          refine (isway_yes way _ hw).mono ?_
          rintro r w1 ⟨rfl, rfl⟩
          go_wp2_with fail
          go_ret
          exact ⟨by rw [E.out]; rfl, (Below.refl _ _).alloc (Nat.le_refl _) _⟩
        · have E := Lib.hid (fault_ok.2 ⟨hw, by omega, by omega, by omega⟩ : faultI way seq body.size = 0)
          go_enter Tryd.func20, Tryd.ntmps20
          go_wp2_with fail
          refine (isway_yes way _ hw).mono ?_
          rintro r w1 ⟨rfl, rfl⟩
          go_wp2_with fail
          go_ret
          exact ⟨by rw [E.out]; rfl, (Below.refl _ _).alloc (Nat.le_refl _) _⟩
  · have E := Lib.hid (fault_arg (n := body.size) (.inl hw) : faultI way seq body.size = 1)
    go_enter Tryd.func20, Tryd.ntmps20
    go_wp2_with fail
    refine (isway_no way _ hw).mono ?_
    rintro r w1 ⟨rfl, rfl⟩
    go_wp2_with fail
    go_ret
    exact ⟨by rw [E.out]; rfl, (Below.refl _ _).alloc (Nat.le_refl _) _⟩

end Go.Proofs.YtncpjapfkcgjnaaDoor
