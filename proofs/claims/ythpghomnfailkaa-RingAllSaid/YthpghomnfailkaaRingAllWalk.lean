/- Law RingAll: the walk. Own work. -/
import Derived.Test.YthpghomnfailkaaRingAlive
import Derived.Deep.QuietTactic
import Derived.BigQuiet
namespace Go.Proofs.Ythpghomnfailkaa
set_option linter.unusedVariables false
open Go.RowKit

theorem peek_all (R : List UInt8) (h : R.length ≤ 1000) : peekL R 1000 = R := by
  unfold peekL
  exact List.take_of_length_le (by simpa using h)

theorem all_yes (room : Nat) (R : List UInt8) (x : ByteArray) (h : x.size ≤ room - R.length) : fitsL (room - R.length) [x] = true ∧ allL room R [x] = R ++ x.data.toList := by
  have e : fitsL (room - R.length) [x] = true := by unfold fitsL; rw [sum_one]; exact decide_eq_true h
  refine ⟨e, ?_⟩
  unfold allL
  rw [if_pos e]
  simp [joinL]

theorem all_no (room : Nat) (R : List UInt8) (x : ByteArray) (h : ¬ x.size ≤ room - R.length) : fitsL (room - R.length) [x] = false ∧ allL room R [x] = R := by
  have e : fitsL (room - R.length) [x] = false := by unfold fitsL; rw [sum_one]; exact decide_eq_false h
  refine ⟨e, ?_⟩
  unfold allL
  rw [e]
  rfl

set_option maxRecDepth 100000 in
set_option maxHeartbeats 3200000 in
theorem all_good (room : Nat) (A : Option Addr) (n cap : Nat) (ss : List ByteArray) (w : World) (hss : Strs w A n ss) (h1 : room ≤ 300) (h2 : n ≤ 40) :
    Calls Try.prog 5 #[.int .i64 room, .slice A n cap] w fun e w' => e = .returned (.bool true) ∧ Below w.heap.size w w' := by
  have hcl : clamp (room : Int) = room := by unfold clamp; omega
  have HCL := Lib.hid hcl
  have HS := Lib.hid hss
  clear hcl hss
  have hd1 : decide ((room : Int) < 0) = false := by simp
  have hd2 : decide (300 < (room : Int)) = false := by simp; omega
  have hd3 : decide (40 < (n : Int)) = false := by simp; omega
  go_enter Try.func5, Try.ntmps5
  go_wp2_with fail
  refine (alive_any _).mono ?_
  rintro r w1 ⟨rfl, hb⟩
  have HB := Lib.hid hb
  clear hb
  go_wp2_with fail
  refine (new_any room w1).mono ?_
  rintro r w2 ⟨rfl, q1, q2⟩
  have k1 := RingIs.new room HB.out q1 q2
  rw [HCL.out] at k1
  have H1 := Lib.hid k1
  clear q1 q2 k1 HB
  obtain ⟨p, hp⟩ : ∃ p, p = w1.heap.size := ⟨_, rfl⟩
  rw [← hp] at H1 ⊢
  clear hp
  go_wp2_with fail
  go_loopw [6] (fun i wr => ∃ (k : Nat) (R : List UInt8), i = .int .i64 k ∧ k ≤ n ∧ Hid (RingIs w p room R wr)) (fun i _ => n - (intOf i).toNat)
  case atStart => exact ⟨0, [], rfl, by omega, H1⟩
  case round =>
    obtain ⟨k, R, rfl, hk, HR⟩ := hrel
    have hbd := HR.out.bounds.1
    by_cases hlt : k < n
    · obtain ⟨x, hx⟩ : ∃ x, ss[k]? = some x := ⟨ss[k]'(by rw [HS.out.1]; exact hlt), List.getElem?_eq_getElem _⟩
      obtain ⟨b, off, rfl, hbl, hc⟩ := HS.out.2.1 (by omega)
      have hcw := hc k x hx
      have hcx : wr.cell? ⟨b, off + k, none⟩ = some (.string x) := (HR.out.below.cell (p := ⟨b, off + k, none⟩) hbl).trans hcw
      have HW := Lib.hid hcw
      have hxm := HS.out.2.2.1 x (List.mem_of_getElem? hx)
      unfold maxLen at hxm
      clear hx hc hcw
      by_cases hbig : 400 < x.size
      · go_wp2_with fail
        go_ret
        exact ⟨rfl, HR.out.below⟩
      · obtain ⟨rb, hrb⟩ : ∃ rb : ByteArray, rb = ⟨R.toArray⟩ := ⟨_, rfl⟩
        have hrs : rb.size = R.length := by rw [hrb, size_mk]
        have hrz : rb.size ≤ 300 := by omega
        have e1 : ∀ W, RingIs w p room R W → Calls Try.prog 14 #[.pointer (some ⟨p, 0, none⟩), .int .i64 1000] W fun r w' => r = .returned (.string rb) ∧ ∃ k, w' = W.drewN k := fun W hW => by
          have := isPeek hW 1000 (by omega)
          rwa [peek_all R (by omega), ← hrb] at this
        have E1 := Lib.hid e1
        have HRS := Lib.hid hrs
        have HRB := Lib.hid hrb
        clear e1 hrb hrs
        go_wp2_with fail
        refine (E1.out _ HR.out).mono ?_
        rintro r w3 ⟨rfl, q3, rfl⟩
        go_wp2_with fail
        refine (isRoom (HR.out.drewN q3)).mono ?_
        rintro r w4 ⟨rfl, q4, rfl⟩
        have HR4 : Hid (RingIs w p room R (wr.drewN (q3 + q4))) := HR.out.drewN _
        by_cases hfit : x.size ≤ room - R.length
        · have hdl : decide ((x.size : Int) ≤ ((room - R.length : Nat) : Int)) = true := by simp; omega
          obtain ⟨f1, f2⟩ := all_yes room R x hfit
          have e2 : ∀ W, RingIs w p room R W → Calls Try.prog 12 #[.pointer (some ⟨p, 0, none⟩), .slice (some ⟨W.heap.size, 0, none⟩) 1 1] (W.alloc (.cells #[.string x] 9)) fun r w' => r = .returned (.bool true) ∧ RingIs w p room (R ++ x.data.toList) w' := fun W hW => by
            have := isAll hW (alone (.cells #[.string x] 9)) (n := 1) (cap := 1) [x] (fresh (t := 9) _) rfl (by intro y hy; rw [List.mem_singleton.1 hy]; unfold maxLen; omega) (by unfold maxLen; omega)
            rw [f1, f2] at this
            exact this.mono fun r w' ⟨x1, x2, _⟩ => ⟨x1, x2⟩
          have E2 := Lib.hid e2
          have e3 : ∀ W, RingIs w p room (R ++ x.data.toList) W → Calls Try.prog 14 #[.pointer (some ⟨p, 0, none⟩), .int .i64 1000] W fun r w' => r = .returned (.string (rb ++ x)) ∧ ∃ k, w' = W.drewN k := fun W hW => by
            have := isPeek hW 1000 (by omega)
            have hb := hW.bounds.1
            rwa [peek_all _ (by omega), ← mk_add', ← HRB.out] at this
          have E3 := Lib.hid e3
          have hz : rb.size + x.size ≤ 9223372036854775807 := by omega
          clear e2 e3 f1 f2
          go_wp2_with fail
          refine (E2.out _ HR4.out).mono ?_
          rintro r w5 ⟨rfl, x1⟩
          have H5 := Lib.hid x1
          have hc5 := (x1.below.cell (p := ⟨b, off + k, none⟩) hbl).trans HW.out
          clear x1 hcx E2
          have hki : ((k : Int) < (n : Int)) := by omega
          have hk0 : (0 : Int) ≤ (k : Int) := by omega
          go_wp2_with fail
          go_quiet ((go_at_call 14; exact Calls.quiet_of (E3.out _ (H5.out.drewN _))))
          have H6 : Hid (RingIs w p room (R ++ x.data.toList) (w5.drewN nq)) := H5.out.drewN nq
          clear H5
          by_cases h3 : k % 3 = 2
          · have ht1 : (((k : Int) % 3) == 2) = true := by rw [beq_iff_eq]; omega
            go_wp2_with fail
            refine (isTake H6.out (Below.refl _ _) _ (by omega)).mono ?_
            rintro r w6 ⟨rfl, x1, _⟩
            have H7 := Lib.hid x1
            clear x1 H6
            go_wp2_with fail
            go_roundw
            case rel => exact ⟨k + 1, _, by go_num, by omega, H7⟩
            case measure => simp [intOf]; omega
          · have ht1 : (((k : Int) % 3) == 2) = false := by rw [beq_eq_false_iff_ne]; omega
            go_wp2_with fail
            go_roundw
            case rel => exact ⟨k + 1, _, by go_num, by omega, H6⟩
            case measure => simp [intOf]; omega
        · have hdl : decide ((x.size : Int) ≤ ((room - R.length : Nat) : Int)) = false := by simp; omega
          obtain ⟨f1, f2⟩ := all_no room R x hfit
          have e2 : ∀ W, RingIs w p room R W → Calls Try.prog 12 #[.pointer (some ⟨p, 0, none⟩), .slice (some ⟨W.heap.size, 0, none⟩) 1 1] (W.alloc (.cells #[.string x] 9)) fun r w' => r = .returned (.bool false) ∧ RingIs w p room R w' := fun W hW => by
            have := isAll hW (alone (.cells #[.string x] 9)) (n := 1) (cap := 1) [x] (fresh (t := 9) _) rfl (by intro y hy; rw [List.mem_singleton.1 hy]; unfold maxLen; omega) (by unfold maxLen; omega)
            rw [f1, f2] at this
            exact this.mono fun r w' ⟨x1, x2, _⟩ => ⟨x1, x2⟩
          have E2 := Lib.hid e2
          have e3 : ∀ W, RingIs w p room R W → Calls Try.prog 14 #[.pointer (some ⟨p, 0, none⟩), .int .i64 1000] W fun r w' => r = .returned (.string rb) ∧ ∃ k, w' = W.drewN k := fun W hW => by
            have := isPeek hW 1000 (by omega)
            have hb := hW.bounds.1
            rwa [peek_all _ (by omega), ← HRB.out] at this
          have E3 := Lib.hid e3
          have hz : rb.size + x.size ≤ 9223372036854775807 := by omega
          clear e2 e3 f1 f2
          go_wp2_with fail
          refine (E2.out _ HR4.out).mono ?_
          rintro r w5 ⟨rfl, x1⟩
          have H5 := Lib.hid x1
          have hc5 := (x1.below.cell (p := ⟨b, off + k, none⟩) hbl).trans HW.out
          clear x1 hcx E2
          have hki : ((k : Int) < (n : Int)) := by omega
          have hk0 : (0 : Int) ≤ (k : Int) := by omega
          go_wp2_with fail
          go_quiet ((go_at_call 14; exact Calls.quiet_of (E3.out _ (H5.out.drewN _))))
          have H6 : Hid (RingIs w p room R (w5.drewN nq)) := H5.out.drewN nq
          clear H5
          by_cases h3 : k % 3 = 2
          · have ht1 : (((k : Int) % 3) == 2) = true := by rw [beq_iff_eq]; omega
            go_wp2_with fail
            refine (isTake H6.out (Below.refl _ _) _ (by omega)).mono ?_
            rintro r w6 ⟨rfl, x1, _⟩
            have H7 := Lib.hid x1
            clear x1 H6
            go_wp2_with fail
            go_roundw
            case rel => exact ⟨k + 1, _, by go_num, by omega, H7⟩
            case measure => simp [intOf]; omega
          · have ht1 : (((k : Int) % 3) == 2) = false := by rw [beq_eq_false_iff_ne]; omega
            go_wp2_with fail
            go_roundw
            case rel => exact ⟨k + 1, _, by go_num, by omega, H6⟩
            case measure => simp [intOf]; omega
    · go_wp2_with fail
      go_ret
      exact ⟨rfl, HR.out.below⟩

set_option maxRecDepth 100000 in
set_option maxHeartbeats 1600000 in
theorem walk_RingAll (a : Int) (ha : (Lit.int .i64 a).wf = true) (A : Option Addr) (n cap : Nat) (ss : List ByteArray) (w : World) (hss : Strs w A n ss) :
    Calls Try.prog 5 #[.int .i64 a, .slice A n cap] w fun e w' => e = .returned (.bool true) ∧ Below w.heap.size w w' := by
  have ba := wf_bounds ha
  have hm := hss.2.2.2
  unfold maxLen at hm
  clear ha
  by_cases h1 : a < 0
  · clear hss
    go_enter Try.func5, Try.ntmps5
    go_wp2_with fail
    refine (alive_any _).mono ?_
    rintro r w1 ⟨rfl, hb⟩
    go_wp2_with fail
    go_ret
    exact ⟨rfl, hb⟩
  by_cases h2 : 300 < a
  · clear hss
    go_enter Try.func5, Try.ntmps5
    go_wp2_with fail
    refine (alive_any _).mono ?_
    rintro r w1 ⟨rfl, hb⟩
    go_wp2_with fail
    go_ret
    exact ⟨rfl, hb⟩
  by_cases h3 : 40 < (n : Int)
  · clear hss
    go_enter Try.func5, Try.ntmps5
    go_wp2_with fail
    refine (alive_any _).mono ?_
    rintro r w1 ⟨rfl, hb⟩
    go_wp2_with fail
    go_ret
    exact ⟨rfl, hb⟩
  obtain ⟨k, rfl⟩ := Int.eq_ofNat_of_zero_le (show 0 ≤ a from by omega)
  exact all_good k A n cap ss w hss (by omega) (by omega)

end Go.Proofs.Ythpghomnfailkaa
