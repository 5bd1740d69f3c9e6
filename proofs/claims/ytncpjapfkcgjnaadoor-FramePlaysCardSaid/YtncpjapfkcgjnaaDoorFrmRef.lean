/- Low, LayFrame of the document's own answer. Own work. -/
import Derived.Test.YtncpjapfkcgjnaaDoorFrmRead
import Derived.Test.YtncpjapfkcgjnaaDoorSealR
namespace Go.Proofs.YtncpjapfkcgjnaaDoor
set_option linter.unusedVariables false
set_option linter.unusedSimpArgs false
open Go.RowKit

theorem u8_of_low (v : Nat) : IntKind.u8.wrap (v : Int) = ((UInt8.ofNat (v % 256)).toNat : Int) := by
  rw [toNat_ofNat (Nat.mod_lt _ (by omega)), IntKind.wrap_u8']; omega

theorem byteCells_low (v k : Nat) : Lib.byteCells (lowB v (k + 1)) = Lib.byteCells (lowB v k) ++ [.int .u8 (((v / 256 ^ k : Nat) : Int) % 256)] := by
  rw [lowB_snoc, Lib.byteCells_append, byteCells_one, ← u8_of_low, IntKind.wrap_u8']

set_option maxRecDepth 100000 in
set_option maxHeartbeats 800000 in
theorem reflow_any (v n : Nat) (w : World) (hv : v < 18446744073709551616) (hn : n ≤ 100) :
    Calls Tryd.prog 25 #[.int .u64 (v : Int), .int .i64 (n : Int)] w fun r w' => r = .returned (.string ⟨(lowB v n).toArray⟩) ∧ Below w.heap.size w w' := by
  obtain ⟨i0, hi, hz0, hz1, hz2⟩ := info_parts byte_info
  go_enter Tryd.func25, Tryd.ntmps25
  go_wp2_with fail
  go_loopw [0, 5, 6] (fun x l i wr => ∃ (k : Nat) (A : Option Addr) (c : Nat), i = .int .i64 k ∧ k ≤ n ∧ x = .int .u64 ((v / 256 ^ k : Nat) : Int) ∧ l = .slice A k c ∧ Hid (Buf wr A k c (Lib.byteCells (lowB v k))) ∧ Hid (∀ j, blk A = some j → w.heap.size ≤ j) ∧ Hid (Below w.heap.size w wr)) (fun _ _ i _ => n - (intOf i).toNat)
  case atStart => exact ⟨0, none, 0, rfl, by omega, by simp, rfl, Buf.nil _, fun j hj => by simp [blk] at hj, Below.refl _ _⟩
  case round =>
    obtain ⟨k, A, c, rfl, hk, rfl, rfl, HB, HA, HW⟩ := hrel
    by_cases hlt : k < n
    · have hle : v / 256 ^ k ≤ v := Nat.div_le_self _ _
      obtain ⟨y, hy⟩ : ∃ y, y = v / 256 ^ k := ⟨_, rfl⟩
      have HS : Hid (Lib.byteCells (lowB v (k + 1)) = Lib.byteCells (lowB v k) ++ [.int .u8 ((y : Int) % 256)]) := Lib.hid (by rw [hy]; exact byteCells_low v k)
      have HY : Hid (y / 256 = v / 256 ^ (k + 1)) := Lib.hid (by rw [hy, Nat.div_div_eq_div_mul, Nat.pow_succ])
      rw [← hy] at hle ⊢
      clear hy
      go_wp2_with (at_builtin; refine wpList_append_buf _ rfl (.tmp 12) (.tmp 15) 59 rfl 5 i0 (.int .u8 0) 1 Tryd.underlying59 hi hz0 hz1 hz2 rfl rfl (HB.out.keep ((Keep.refl (fun _ => False) _).alloc _) (fun _ _ x => x)) _ rfl (src_one _ _ _ (by simp)) (by intro u hu; simp at hu; subst hu; rfl) (by unfold maxLen; omega) (by omega) ?_)
      intro A' c' w2 hb hk2 hf
      rw [← HS.out] at hb
      have HB2 := Lib.hid hb
      have HA2 : Hid (∀ j, blk A' = some j → w.heap.size ≤ j) := Lib.hid (fun j hj => by
        rcases hf j hj with h | h
        · exact HA.out j h
        · have := HW.out.size; (try simp at h); omega)
      have HW2 : Hid (Below w.heap.size w w2) := Lib.hid ((HW.out.alloc HW.out.size _).trans (hk2.below (by have := HW.out.size; simp; omega) (fun j hj hs => by have := HA.out j hs; omega)))
      clear hb hk2 hf
      go_wp2_with fail
      go_roundw
      case rel => exact ⟨k + 1, A', c', by go_num, by omega, by rw [← HY.out]; simp, rfl, HB2, HA2, HW2⟩
      case measure => simp [intOf]; omega
    · obtain rfl : k = n := by omega
      have hrun := run_buf_string (P := Tryd.prog) 59 9 5 HB.out Tryd.underlying59 Tryd.underlying5 Tryd.underlying9 k (Nat.le_refl _)
      rw [List.take_of_length_le (by rw [lowB_len]; omega)] at hrun
      go_wp2_with fail
      go_ret
      exact ⟨rfl, HW.out⟩

theorem reflow_is (v : Int) (n : Nat) (D : ByteArray) (w : World) (h0 : 0 ≤ v) (h1 : v < 18446744073709551616) (hn : n ≤ 100) (hD : D = ⟨(lowB v.toNat n).toArray⟩) :
    Calls Tryd.prog 25 #[.int .u64 v, .int .i64 (n : Int)] w fun r w' => r = .returned (.string D) ∧ Below w.heap.size w w' := by
  obtain ⟨m, rfl⟩ := Int.eq_ofNat_of_zero_le h0
  subst hD
  exact reflow_any m n w (by omega) hn

theorem reflow_1 (v : Int) (D : ByteArray) (w : World) (h0 : 0 ≤ v) (h1 : v < 18446744073709551616) (hD : D = ⟨(lowB v.toNat 1).toArray⟩) :
    Calls Tryd.prog 25 #[.int .u64 v, .int .i64 1] w fun r w' => r = .returned (.string D) ∧ Below w.heap.size w w' := reflow_is v 1 D w h0 h1 (by omega) hD
theorem reflow_8 (v : Int) (D : ByteArray) (w : World) (h0 : 0 ≤ v) (h1 : v < 18446744073709551616) (hD : D = ⟨(lowB v.toNat 8).toArray⟩) :
    Calls Tryd.prog 25 #[.int .u64 v, .int .i64 8] w fun r w' => r = .returned (.string D) ∧ Below w.heap.size w w' := reflow_is v 8 D w h0 h1 (by omega) hD

theorem u64_wrap_in {x : Int} (h0 : 0 ≤ x) (h1 : x < 18446744073709551616) : IntKind.u64.wrap x = x := by
  simp [IntKind.wrap, IntKind.bits, IntKind.signed]; omega

set_option maxRecDepth 100000 in
set_option maxHeartbeats 1600000 in
theorem reflay_ok (key : ByteArray) (way seq : Int) (body : ByteArray) (w : World) (hk : key.size ≤ 90000) (hf : faultI way seq body.size = 0) :
    Calls Tryd.prog 9 #[.string key, .agg #[.int .i64 way, .int .i64 seq, .string body]] w fun r w' => r = .returned (.tuple #[.string ⟨(sealedL key.data.toList (headL way seq ++ body.data.toList)).toArray⟩, .int .i64 0]) ∧ Below w.heap.size w w' := by
  obtain ⟨hw, h1, h2, h3⟩ := fault_ok.1 hf
  have d1 : decide (way < 1) = false := by simp; omega
  have d2 : decide (2 < way) = false := by simp; omega
  have d3 : decide (seq < 1) = false := by simp; omega
  have d4 : decide (4611686018427387904 < seq) = false := by simp; omega
  have u1 : IntKind.u64.wrap way = way := u64_wrap_in (by omega) (by omega)
  have u2 : IntKind.u64.wrap seq = seq := u64_wrap_in (by omega) (by omega)
  obtain ⟨D1, hD1⟩ : ∃ D : ByteArray, D = ⟨(lowB way.toNat 1).toArray⟩ := ⟨_, rfl⟩
  obtain ⟨D8, hD8⟩ : ∃ D : ByteArray, D = ⟨(lowB seq.toNat 8).toArray⟩ := ⟨_, rfl⟩
  have s1 : D1.size = 1 := by rw [hD1, size_mk, lowB_len]
  have s8 : D8.size = 8 := by rw [hD8, size_mk, lowB_len]
  have hall : (D1 ++ D8 ++ body).data.toList = headL way seq ++ body.data.toList := by
    have e1 : lowB way.toNat 1 = [UInt8.ofNat way.toNat] := by
      rcases hw with rfl | rfl <;> rfl
    rw [hD1, hD8, mk_add, mk_add', e1]
    simp [headL]
  obtain ⟨E1, hE1⟩ : ∃ E : ByteArray, E = D1 ++ D8 := ⟨_, rfl⟩
  obtain ⟨E2, hE2⟩ : ∃ E : ByteArray, E = E1 ++ body := ⟨_, rfl⟩
  have q1 : ∀ W : World, (Op.stringOp .add D1 D8).run Tryd.prog W = .ok (.string E1) W := fun W => by rw [hE1]; exact run_string_add_sum W D1 D8 (by omega)
  have q2 : ∀ W : World, (Op.stringOp .add E1 body).run Tryd.prog W = .ok (.string E2) W := fun W => by rw [hE2]; exact run_string_add_sum W E1 body (by rw [hE1]; simp; omega)
  have z3 : E2.size ≤ 90000 := by rw [hE2, hE1]; simp; omega
  rw [← hE1, ← hE2] at hall
  clear hE1 hE2
  have HD1 := Lib.hid hD1
  have HD8 := Lib.hid hD8
  have HA := Lib.hid hall
  have HZ3 := Lib.hid z3
  have hnn : 0 ≤ way := by omega
  have hnp : way ≤ 2 := by omega
  clear hf hw hD1 hD8 hall s1 s8 z3
  go_enter Tryd.func9, Tryd.ntmps9
  go_wp2_with fail
  obtain ⟨c0, c1, c2, _, _, _⟩ := three_new w (.int .i64 way) (.int .i64 seq) (.string body) 30
  have HB0 := Lib.hid ((Below.refl w.heap.size w).alloc (Nat.le_refl _) (.cells #[.int .i64 way, .int .i64 seq, .string body] 30))
  obtain ⟨w1, hw1⟩ : ∃ w1, w1 = w.alloc (.cells #[.int .i64 way, .int .i64 seq, .string body] 30) := ⟨_, rfl⟩
  rw [← hw1] at c0 c1 c2 HB0 ⊢
  clear hw1
  have t1 : w1.cell? ⟨w.heap.size, 0, none⟩ = some (.int .i64 way) ∧ w1.cell? ⟨w.heap.size, 1, none⟩ = some (.int .i64 seq) ∧ w1.cell? ⟨w.heap.size, 2, none⟩ = some (.string body) := ⟨c0, c1, c2⟩
  have HR0 := Lib.hid (Below.refl w1.heap.size w1)
  have HS := Lib.hid (fun W => refseal_any key E2 W hk HZ3.out)
  go_region_held3 (fun w' => w'.cell? ⟨w.heap.size, 0, none⟩ = some (.int .i64 way) ∧ w'.cell? ⟨w.heap.size, 1, none⟩ = some (.int .i64 seq) ∧ w'.cell? ⟨w.heap.size, 2, none⟩ = some (.string body)) (first | exact t4 | exact t3 | exact t2 | exact t1 | go_keep) (first
    | (go_at_call 25; ((with_reducible refine (reflow_1 way D1 _ hnn (by omega) HD1.out).mono ?_); rintro r w2 ⟨rfl, b2⟩; have B2 := Lib.hid (below_step HR0.out.drew b2); have t2 := keeps_three B2.out t1; clear b2))
    | (go_at_call 25; ((with_reducible refine (reflow_8 seq D8 _ (by omega) (by omega) HD8.out).mono ?_); rintro r w3 ⟨rfl, b3⟩; have B3 := Lib.hid (below_step B2.out b3); have t3 := keeps_three B3.out t1; clear b3))
    | (go_at_call 7; ((with_reducible refine (HS.out _).mono ?_); rintro r w4 ⟨rfl, b4⟩; have B4 := Lib.hid (below_step B3.out b4); have t4 := keeps_three B4.out t1; clear b4))
    | fail)
  all_goals
    have HB4 := Lib.hid (below_step HB0.out B4.out)
    clear t1 t2 t3 t4 c0 c1 c2 B2 B3 B4
    go_wp2_with fail
    go_ret2
    exact ⟨by rw [HA.out]; rfl, HB4.out⟩

theorem reflay_any (key : ByteArray) (way seq : Int) (body : ByteArray) (w : World) (hk : key.size ≤ 90000) (hw : -9223372036854775808 ≤ way ∧ way ≤ 9223372036854775807) (hs : -9223372036854775808 ≤ seq ∧ seq ≤ 9223372036854775807) (hb : body.size ≤ maxLen) :
    Calls Tryd.prog 9 #[.string key, .agg #[.int .i64 way, .int .i64 seq, .string body]] w fun r w' => r = .returned (.tuple #[.string ⟨(layL key.data.toList way seq body.data.toList).1.toArray⟩, .int .i64 (layL key.data.toList way seq body.data.toList).2]) ∧ Below w.heap.size w w' := by
  unfold maxLen at hb
  have hl : body.data.toList.length = body.size := (Lib.size_eq body).symm
  by_cases hf : faultI way seq body.size = 0
  · have e : layL key.data.toList way seq body.data.toList = (sealedL key.data.toList (headL way seq ++ body.data.toList), 0) := by unfold layL; rw [hl, if_pos hf]
    rw [e]
    exact reflay_ok key way seq body w hk hf
  · have e : layL key.data.toList way seq body.data.toList = ([], faultI way seq body.size) := by unfold layL; rw [hl, if_neg hf]
    rw [e]
    obtain ⟨hw1, hw2⟩ := hw
    obtain ⟨hs1, hs2⟩ := hs
    have B0 := Lib.hid ((Below.refl w.heap.size w).alloc (Nat.le_refl _) (.cells #[.int .i64 way, .int .i64 seq, .string body] 30))
    clear e hl
    by_cases h1 : way < 1
    · have E := Lib.hid (fault_arg (way := way) (seq := seq) (n := body.size) (.inl (by omega)))
      clear hf
      go_enter Tryd.func9, Tryd.ntmps9
      go_wp2_with fail
      go_ret2
      exact ⟨by rw [E.out]; rfl, B0.out⟩
    have d1 : decide (way < 1) = false := by simpa using h1
    by_cases h2 : 2 < way
    · have E := Lib.hid (fault_arg (way := way) (seq := seq) (n := body.size) (.inl (by omega)))
      clear hf
      go_enter Tryd.func9, Tryd.ntmps9
      go_wp2_with fail
      go_ret2
      exact ⟨by rw [E.out]; rfl, B0.out⟩
    have d2 : decide (2 < way) = false := by simpa using h2
    by_cases h3 : seq < 1
    · have E := Lib.hid (fault_arg (way := way) (seq := seq) (n := body.size) (.inr (.inl h3)))
      clear hf
      go_enter Tryd.func9, Tryd.ntmps9
      go_wp2_with fail
      go_ret2
      exact ⟨by rw [E.out]; rfl, B0.out⟩
    have d3 : decide (seq < 1) = false := by simpa using h3
    by_cases h4 : 4611686018427387904 < seq
    · have E := Lib.hid (fault_arg (way := way) (seq := seq) (n := body.size) (.inr (.inr h4)))
      clear hf
      go_enter Tryd.func9, Tryd.ntmps9
      go_wp2_with fail
      go_ret2
      exact ⟨by rw [E.out]; rfl, B0.out⟩
    have d4 : decide (4611686018427387904 < seq) = false := by simpa using h4
    have h5 : 20000 < body.size := by
      rcases Nat.lt_or_ge 20000 body.size with h | h
      · exact h
      · exact absurd (fault_ok.2 ⟨by omega, by omega, by omega, h⟩) hf
    have E := Lib.hid (fault_long (way := way) (seq := seq) (n := body.size) (by omega) h5)
    clear hf
    go_enter Tryd.func9, Tryd.ntmps9
    go_wp2_with fail
    go_ret2
    exact ⟨by rw [E.out]; rfl, B0.out⟩

end Go.Proofs.YtncpjapfkcgjnaaDoor
