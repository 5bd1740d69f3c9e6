/- Law RingFlows: the walk. Own work. -/
import Derived.Test.YthpghomnfailkaaRingAlive
namespace Go.Proofs.Ythpghomnfailkaa
set_option linter.unusedVariables false
open Go.RowKit

theorem joinL_one (x : ByteArray) : joinL [x] = x.data.toList := by simp [joinL]

theorem ext_list {a b : ByteArray} (h : a.data.toList = b.data.toList) : a = b := ByteArray.ext (Array.ext' h)

theorem flow_step (room : Nat) (R : List UInt8) (lb : ByteArray) (m : Nat) (hm : m ≤ lb.size) (hr : R.length ≤ room) : ∃ nn, nn ≤ m ∧ (putL room R [lb.extract 0 m]).length - R.length = nn ∧ putL room R [lb.extract 0 m] = R ++ lb.data.toList.take nn ∧ (0 < m → R.length < room → 0 < nn) := by
  have hs := Lib.size_eq lb
  have e : (lb.extract 0 m).data.toList = lb.data.toList.take m := by simp
  refine ⟨min (room - R.length) m, by omega, ?_, ?_, by omega⟩
  · rw [putL_len, sum_one]
    have : (lb.extract 0 m).size = m := by simp; omega
    omega
  · unfold putL
    rw [joinL_one, e, List.take_take]

set_option maxRecDepth 100000 in
set_option maxHeartbeats 3200000 in
theorem flows_good (room : Nat) (s : ByteArray) (a b : Int) (w : World) (h1 : 1 ≤ room) (h2 : room ≤ 200) (h3 : s.size ≤ 1500) (h4 : 1 ≤ a) (h5 : 1 ≤ b) (h6 : a ≤ 9223372036854775807) (h7 : b ≤ 9223372036854775807) :
    Calls Try.prog 4 #[.int .i64 room, .string s, .int .i64 a, .int .i64 b] w fun e w' => e = .returned (.bool true) ∧ Below w.heap.size w w' := by
  have hcl : clamp (room : Int) = room := by unfold clamp; omega
  have HCL := Lib.hid hcl
  clear hcl
  have hd1 : decide ((room : Int) < 1) = false := by simp; omega
  have hd2 : decide (200 < (room : Int)) = false := by simp; omega
  have hd3 : decide (1500 < (s.size : Int)) = false := by simp; omega
  have hd4 : decide (a < 1) = false := by simp; omega
  have hd5 : decide (b < 1) = false := by simp; omega
  go_enter Try.func4, Try.ntmps4
  go_wp2_with fail
  refine (alive_any _).mono ?_
  rintro r w1 ⟨rfl, hb⟩
  have HB := Lib.hid hb
  clear hb
  go_wp2_with fail
  refine (new_any room w1).mono ?_
  rintro r w2 ⟨rfl, q1, q2⟩
  have k1 := RingIs.new room HB.out q1 q2
  rw [HCL.out] at k1
  have H1 := Lib.hid k1
  clear q1 q2 k1 HB
  obtain ⟨p, hp⟩ : ∃ p, p = w1.heap.size := ⟨_, rfl⟩
  rw [← hp] at H1 ⊢
  clear hp
  go_wp2_with fail
  go_loopw [10, 11, 12] (fun l g i wr => ∃ (k : Nat) (lb gb : ByteArray) (R : List UInt8), i = .int .i64 k ∧ l = .string lb ∧ g = .string gb ∧ k ≤ gb.size ∧ lb.size + R.length + gb.size ≤ s.size ∧ s.size ≤ lb.size + R.length + gb.size ∧ Hid (gb.data.toList ++ R ++ lb.data.toList = s.data.toList) ∧ Hid (RingIs w p room R wr)) (fun _ _ i _ => 4000 - (intOf i).toNat)
  case atStart => exact ⟨0, s, ⟨#[]⟩, [], rfl, rfl, rfl, by omega, by show s.size + 0 + 0 ≤ s.size; omega, by show s.size ≤ s.size + 0 + 0; omega, by show _ = _; simp, H1⟩
  case round =>
    obtain ⟨k, lb, gb, R, rfl, rfl, rfl, hk, hz1, hz2, HE, HR⟩ := hrel
    have hbd := HR.out.bounds.1
    have hk4 : decide ((k : Int) < 4000) = true := by simp; omega
    by_cases hlt : gb.size < s.size
    · obtain ⟨m, hm⟩ : ∃ m : Nat, min a (lb.size : Int) = (m : Int) := ⟨(min a (lb.size : Int)).toNat, by omega⟩
      have hm1 : m ≤ lb.size := by omega
      have hm2 : (m : Int) ≤ (lb.size : Int) := by omega
      have hm3 : 0 < lb.size → 0 < m := by omega
      obtain ⟨nn, hn1, hn2, hn3, hn4⟩ := flow_step room R lb m hm1 hbd
      have hn5 : (nn : Int) ≤ (lb.size : Int) := by omega
      have hn6 : (nn : Int) ≤ (m : Int) := by omega
      have hxs : (lb.extract 0 m).size ≤ maxLen := by
        have : (lb.extract 0 m).size = m := by simp; omega
        rw [this]; unfold maxLen; omega
      have HN3 := Lib.hid hn3
      have e1 : ∀ W, Hid (RingIs w p room R W) → Calls Try.prog 11 #[.pointer (some ⟨p, 0, none⟩), .slice (some ⟨W.heap.size, 0, none⟩) 1 1] (W.alloc (.cells #[.string (lb.extract 0 m)] 9)) fun r w' => r = .returned (.int .i64 nn) ∧ RingIs w p room (R ++ lb.data.toList.take nn) w' := fun W hW => by
        rw [← hn3, ← hn2]
        exact (isPut hW.out (alone _) (n := 1) [lb.extract 0 m] (fresh (t := 9) _) rfl (by intro x hx; rw [List.mem_singleton.1 hx]; exact hxs) (by unfold maxLen; omega)).mono fun r w' ⟨x1, x2, _⟩ => ⟨x1, x2⟩
      have E1 := Lib.hid e1
      have HXS := Lib.hid hxs
      clear hn2 hn3 e1 hxs
      go_wp2_with fail
      refine (E1.out _ HR).mono ?_
      rintro r w3 ⟨rfl, x1⟩
      have H3 := Lib.hid x1
      clear x1 HR
      go_wp2_with fail
      refine (isTake H3.out (Below.refl _ _) b h7).mono ?_
      rintro r w4 ⟨rfl, x1, _⟩
      have H4 := Lib.hid x1
      clear x1 E1
      obtain ⟨pk, hpk⟩ : ∃ pk : ByteArray, pk = ⟨(peekL (R ++ lb.data.toList.take nn) b).toArray⟩ := ⟨_, rfl⟩
      have hps : pk.size ≤ 100000 := by
        have q1 := H3.out.bounds
        have q2 := peek_len (R ++ lb.data.toList.take nn) b
        rw [hpk, size_mk]; omega
      have hzz : gb.size + pk.size ≤ 9223372036854775807 := by omega
      rw [← hpk]
      have HPK := Lib.hid hpk
      clear hpk H3
      go_wp2_with fail
      go_roundw
      case rel =>
        have hpk := HPK.out
        subst hpk
        have hl := HE.out
        have hpl : (peekL (R ++ lb.data.toList.take nn) b).length = min b.toNat (R.length + nn) := by
          have := Lib.size_eq lb
          unfold peekL; rw [List.length_take, List.length_append, List.length_take]; omega
        have hdl : ((R ++ lb.data.toList.take nn).drop b.toNat).length = R.length + nn - b.toNat := by
          have := Lib.size_eq lb
          rw [List.length_drop, List.length_append, List.length_take]; omega
        have hsz : (lb.extract nn lb.size).size = lb.size - nn := by simp
        have hgs : (gb ++ (⟨(peekL (R ++ lb.data.toList.take nn) b).toArray⟩ : ByteArray)).size = gb.size + min b.toNat (R.length + nn) := by rw [ByteArray.size_append, size_mk (peekL _ _), hpl]
        refine ⟨k + 1, lb.extract nn lb.size, gb ++ ⟨(peekL (R ++ lb.data.toList.take nn) b).toArray⟩, (R ++ lb.data.toList.take nn).drop b.toNat, by go_num, rfl, rfl, ?_, ?_, ?_, ?_, H4⟩
        · rw [hgs]
          by_cases q : R.length < room
          · by_cases q2 : 0 < lb.size
            · have := hn4 (hm3 q2) q; omega
            · omega
          · omega
        · rw [hgs, hdl, hsz]; omega
        · rw [hgs, hdl, hsz]; omega
        · show _ = _
          rw [← hl]
          have e1 : (lb.extract nn lb.size).data.toList = lb.data.toList.drop nn := by
            have h1 := extract_mk lb.data.toList nn lb.size
            rw [mk_data, List.take_of_length_le (by rw [← Lib.size_eq]; omega)] at h1
            rw [h1]
          have e2 : (gb ++ (⟨(peekL (R ++ lb.data.toList.take nn) b).toArray⟩ : ByteArray)).data.toList = gb.data.toList ++ peekL (R ++ lb.data.toList.take nn) b := by simp
          rw [e1, e2]
          unfold peekL
          rw [List.append_assoc, List.append_assoc, ← List.append_assoc (List.take _ _), List.take_append_drop, List.append_assoc, List.take_append_drop, List.append_assoc]
      case measure => simp [intOf]; omega
    · have hl := HE.out
      have hR0 : R.length = 0 := by omega
      have hL0 : lb.size = 0 := by omega
      have hRn := List.eq_nil_of_length_eq_zero hR0
      have hLn : lb.data.toList = [] := List.eq_nil_of_length_eq_zero (by rw [← Lib.size_eq]; exact hL0)
      subst hRn
      rw [hLn, List.append_nil, List.append_nil] at hl
      obtain rfl : gb = s := ext_list hl
      clear hl hR0 hL0 hLn HE hz1 hz2 hk hd3 h3
      have hK := isLen HR.out
      have HK := Lib.hid hK
      clear hK
      go_wp2_with fail
      refine HK.out.mono ?_
      rintro r w3 ⟨rfl, rfl⟩
      go_wp2_with fail
      go_ret
      exact ⟨rfl, HR.out.below⟩

set_option maxRecDepth 100000 in
set_option maxHeartbeats 1600000 in
theorem walk_RingFlows (n : Int) (hn : (Lit.int .i64 n).wf = true) (s : ByteArray) (hs : s.size ≤ maxLen) (a : Int) (ha : (Lit.int .i64 a).wf = true) (b : Int) (hb : (Lit.int .i64 b).wf = true) (w : World) :
    Calls Try.prog 4 #[.int .i64 n, .string s, .int .i64 a, .int .i64 b] w fun e w' => e = .returned (.bool true) ∧ Below w.heap.size w w' := by
  have bn := wf_bounds hn
  have ba := wf_bounds ha
  have bb := wf_bounds hb
  unfold maxLen at hs
  clear hn ha hb
  by_cases h1 : n < 1
  · go_enter Try.func4, Try.ntmps4
    go_wp2_with fail
    refine (alive_any _).mono ?_
    rintro r w1 ⟨rfl, hb⟩
    go_wp2_with fail
    go_ret
    exact ⟨rfl, hb⟩
  by_cases h2 : 200 < n
  · go_enter Try.func4, Try.ntmps4
    go_wp2_with fail
    refine (alive_any _).mono ?_
    rintro r w1 ⟨rfl, hb⟩
    go_wp2_with fail
    go_ret
    exact ⟨rfl, hb⟩
  by_cases h3 : 1500 < (s.size : Int)
  · go_enter Try.func4, Try.ntmps4
    go_wp2_with fail
    refine (alive_any _).mono ?_
    rintro r w1 ⟨rfl, hb⟩
    go_wp2_with fail
    go_ret
    exact ⟨rfl, hb⟩
  by_cases h4 : a < 1
  · go_enter Try.func4, Try.ntmps4
    go_wp2_with fail
    refine (alive_any _).mono ?_
    rintro r w1 ⟨rfl, hb⟩
    go_wp2_with fail
    go_ret
    exact ⟨rfl, hb⟩
  by_cases h5 : b < 1
  · go_enter Try.func4, Try.ntmps4
    go_wp2_with fail
    refine (alive_any _).mono ?_
    rintro r w1 ⟨rfl, hb⟩
    go_wp2_with fail
    go_ret
    exact ⟨rfl, hb⟩
  obtain ⟨k, rfl⟩ := Int.eq_ofNat_of_zero_le (show 0 ≤ n from by omega)
  exact flows_good k s a b w (by omega) (by omega) (by omega) (by omega) (by omega) ba.2 bb.2

end Go.Proofs.Ythpghomnfailkaa
