/- Law OptStays: the walk. Own work. -/
import Derived.Test.YtcpdeeiopoghiaaOptAlive
import Derived.Test.YtcpdeeiopoghiaaBox
namespace Go.Proofs.Ytcpdeeiopoghiaa
set_option linter.unusedVariables false
set_option linter.unusedSimpArgs false
open Go.RowKit

set_option maxRecDepth 100000 in
set_option maxHeartbeats 4000000 in
theorem stays_good (on ag : Bool) (n : Nat) (hn : n ≤ 100) (w : World) (st : Int) (hst : st = if on then 1 else 0) :
    Calls Try.prog 6 #[.bool on, .bool ag, .int .i64 (n : Int)] w fun e w' => e = .returned (.bool true) ∧ Below w.heap.size w w' := by
  have h1 : ∀ W, Calls Try.prog 8 #[.agg #[.int .i64 st, .bool false], .bool on, .bool ag] W fun e w' => e = .returned (.tuple #[.agg #[.int .i64 st, .bool false], .int .i64 0]) ∧ Below W.heap.size W w' := fun W => by
    subst hst
    cases on
    · exact side_heard 0 false false ag W rfl
    · exact side_heard 1 false true ag W rfl
  have H1 := Lib.hid h1
  have H2 := Lib.hid fun W => side_ask 1 false false W rfl
  have H3 := Lib.hid fun W => side_heard 1 false false ag W rfl
  have H4 := Lib.hid fun W => side_heard 2 false false ag W rfl
  simp only [heardL, heardOffL, askL, if_true, if_false, Int.reduceEq, Bool.false_eq_true] at H2 H3 H4
  have HST := Lib.hid hst
  clear h1 hst
  have d1 : decide ((n : Int) < 0) = false := by simp
  have d2 : decide (100 < (n : Int)) = false := by simp; omega
  go_enter Try.func6, Try.ntmps6
  go_wp2_with fail
  refine (alive_any _).mono ?_
  rintro e w1 ⟨rfl, hb⟩
  have HB1 := Lib.hid hb
  clear hb
  have HX0 : Hid (Box (w1.alloc (.cells #[.int .i64 st, .bool false] 26)) w1.heap.size st false) := Lib.hid (Box.new w1 st false 26 _ rfl)
  have HW0 : Hid (Below w.heap.size w (w1.alloc (.cells #[.int .i64 st, .bool false] 26))) := Lib.hid (HB1.out.alloc HB1.out.size _)
  obtain rfl := HST.out
  clear HST
  cases on
  all_goals
    simp only [if_true, if_false, Bool.false_eq_true] at HX0 HW0 H1
    go_wp2_with fail
    go_loopw [8] (fun i wr => ∃ k : Nat, i = .int .i64 k ∧ k ≤ n ∧ Hid (Box wr w1.heap.size _ false) ∧ Hid (Below w.heap.size w wr)) (fun i _ => n - (intOf i).toNat)
    case atStart => exact ⟨0, rfl, by omega, HX0, HW0⟩
    case round =>
      obtain ⟨k, rfl, hk, HX, HB⟩ := hrel
      obtain ⟨l0, c0, c1, f0, f1⟩ := HX.out
      by_cases hlt : k < n
      · have hd : decide ((k : Int) < (n : Int)) = true := by simp; omega
        go_wp2_with fail
        refine (H1.out _).mono ?_
        rintro e w2 ⟨rfl, hb⟩
        have HX2 := Lib.hid (HX.out.call hb)
        have HB2 := Lib.hid (HB.out.trans (hb.mono HB.out.size))
        clear hb l0 c0 c1 f0 f1 HX HB
        obtain ⟨l0, c0, c1, f0, f1⟩ := HX2.out
        go_wp2_with fail
        go_roundw
        case rel => exact ⟨k + 1, by go_num, by omega, Lib.hid (HX2.out.alloc _), Lib.hid (HB2.out.alloc HB2.out.size _)⟩
        case measure => simp [intOf]; omega
      · have hd : decide ((k : Int) < (n : Int)) = false := by simp; omega
        go_wp2_with fail
        refine (H2.out _).mono ?_
        rintro e w3 ⟨rfl, hb⟩
        obtain ⟨a, ha⟩ : ∃ a, a = wr.heap.size := ⟨_, rfl⟩
        have HA := Lib.hid (((Box.new wr 1 false 26 a ha).alloc (.cells #[.int .i64 1, .bool false] 26)).call hb)
        have HC := Lib.hid ((Box.new (wr.alloc (.cells #[.int .i64 1, .bool false] 26)) 1 false 26 (a + 1) (by simp [ha])).call hb)
        have HB3 : Hid (Below w.heap.size w w3) := Lib.hid (((HB.out.alloc HB.out.size _).alloc (by have := HB.out.size; simp; omega) _).trans (hb.mono (by have := HB.out.size; simp; omega)))
        have hwa : w.heap.size ≤ a := by rw [ha]; exact HB.out.size
        rw [← ha]
        clear hb l0 c0 c1 f0 f1 HX HB ha
        obtain ⟨l0, c0, c1, f0, f1⟩ := HA.out
        obtain ⟨m0, d0, d1, g0, g1⟩ := HC.out
        go_wp2_with fail
        go_loopw [14, 15] (fun kv tv wr => ((kv = .int .i64 (-1) ∧ tv = .int .i64 0 ∧ Hid (Box wr a 2 false) ∧ Hid (Box wr (a + 1) 1 false)) ∨ (kv = .int .i64 0 ∧ tv = .int .i64 1 ∧ Hid (Box wr a 0 false) ∧ Hid (Box wr (a + 1) 0 false))) ∧ Hid (Below w.heap.size w wr)) (fun _ tv _ => 1 - (intOf tv).toNat)
        case atStart =>
          exact ⟨.inl ⟨rfl, rfl, Lib.hid ((HA.out.put 2 false).alloc _), Lib.hid (((HC.out.far (q := ⟨a, 0, none⟩) (by simp) _).far (q := ⟨a, 1, none⟩) (by simp) _).alloc _)⟩, Lib.hid (((HB3.out.setCell (p := ⟨a, 0, none⟩) (by simpa using hwa) _).setCell (p := ⟨a, 1, none⟩) (by simpa using hwa) _).alloc (by have := HB3.out.size; simpa using this) _)⟩
        case round =>
          obtain ⟨h1 | h1, HB⟩ := hrel
          · obtain ⟨rfl, rfl, HA1, HC1⟩ := h1
            clear l0 c0 c1 f0 f1 m0 d0 d1 g0 g1 HA HC
            obtain ⟨l0, c0, c1, f0, f1⟩ := HA1.out
            obtain ⟨m0, d0, d1, g0, g1⟩ := HC1.out
            go_wp2_with fail
            refine (H3.out _).mono ?_
            rintro e w5 ⟨rfl, hb⟩
            have HA2 := Lib.hid (HA1.out.call hb)
            have HC2 := Lib.hid (HC1.out.call hb)
            have HB2 := Lib.hid (HB.out.trans (hb.mono HB.out.size))
            clear hb l0 c0 c1 f0 f1 m0 d0 d1 g0 g1 HA1 HC1 HB
            obtain ⟨l0, c0, c1, f0, f1⟩ := HA2.out
            obtain ⟨m0, d0, d1, g0, g1⟩ := HC2.out
            go_wp2_with fail
            refine (H4.out _).mono ?_
            rintro e w6 ⟨rfl, hb⟩
            obtain ⟨y, hy⟩ : ∃ y, y = w5.heap.size + 1 := ⟨_, rfl⟩
            have hya : a < y ∧ a + 1 < y := by have := HA2.out.lt; have := HC2.out.lt; omega
            have HA6 := Lib.hid (((((HA2.out.far (q := ⟨a + 1, 0, none⟩) (by simp) _).far (q := ⟨a + 1, 1, none⟩) (by simp) _).alloc _).alloc _).call hb)
            have HC6 := Lib.hid ((((HC2.out.put 0 false).alloc _).alloc _).call hb)
            have HY6 := Lib.hid ((Box.new _ 0 false 26 y (by simp [hy])).call hb)
            have HB6 : Hid (Below w.heap.size w w6) := Lib.hid (((((HB2.out.setCell (p := ⟨a + 1, 0, none⟩) (by simp; omega) _).setCell (p := ⟨a + 1, 1, none⟩) (by simp; omega) _).alloc (by have := HB2.out.size; simpa using this) _).alloc (by have := HB2.out.size; simp; omega) _).trans (hb.mono (by have := HB2.out.size; simp; omega)))
            rw [← hy]
            clear hb l0 c0 c1 f0 f1 m0 d0 d1 g0 g1 HA2 HC2 HB2 hy
            obtain ⟨l0, c0, c1, f0, f1⟩ := HA6.out
            obtain ⟨m0, d0, d1, g0, g1⟩ := HC6.out
            obtain ⟨n0, e0, e1, i0, i1⟩ := HY6.out
            go_wp2_with fail
            go_roundw
            case rel =>
              refine ⟨.inr ⟨rfl, by go_num, Lib.hid ?_, Lib.hid ?_⟩, Lib.hid ?_⟩
              · exact (((HA6.out.far (q := ⟨y, 0, none⟩) (by simp; omega) _).far (q := ⟨y, 1, none⟩) (by simp; omega) _).put 0 false)
              · exact ((((HC6.out.far (q := ⟨y, 0, none⟩) (by simp; omega) _).far (q := ⟨y, 1, none⟩) (by simp; omega) _).far (q := ⟨a, 0, none⟩) (by simp) _).far (q := ⟨a, 1, none⟩) (by simp) _)
              · exact (((HB6.out.setCell (p := ⟨y, 0, none⟩) (by simp; omega) _).setCell (p := ⟨y, 1, none⟩) (by simp; omega) _).setCell (p := ⟨a, 0, none⟩) (by simpa using hwa) _).setCell (p := ⟨a, 1, none⟩) (by simpa using hwa) _
            case measure => simp [intOf]
          · obtain ⟨rfl, rfl, HA1, HC1⟩ := h1
            clear l0 c0 c1 f0 f1 m0 d0 d1 g0 g1 HA HC
            obtain ⟨l0, c0, c1, f0, f1⟩ := HA1.out
            obtain ⟨m0, d0, d1, g0, g1⟩ := HC1.out
            go_wp2_with fail
            go_ret
            exact ⟨rfl, HB.out⟩

set_option maxHeartbeats 800000 in
theorem stays_out (on ag : Bool) (n : Int) (h : n < 0 ∨ 100 < n) (w : World) :
    Calls Try.prog 6 #[.bool on, .bool ag, .int .i64 n] w fun e w' => e = .returned (.bool true) ∧ Below w.heap.size w w' := by
  rcases h with h | h
  · have d1 : decide (n < 0) = true := by simp; omega
    clear h
    go_enter Try.func6, Try.ntmps6
    go_wp2_with fail
    refine (alive_any _).mono ?_
    rintro e w1 ⟨rfl, hb⟩
    go_wp2_with fail
    go_ret
    exact ⟨rfl, hb⟩
  · have d1 : decide (n < 0) = false := by simp; omega
    have d2 : decide (100 < n) = true := by simp; omega
    clear h
    go_enter Try.func6, Try.ntmps6
    go_wp2_with fail
    refine (alive_any _).mono ?_
    rintro e w1 ⟨rfl, hb⟩
    go_wp2_with fail
    go_ret
    exact ⟨rfl, hb⟩

theorem walk_OptStays (on ag : Bool) (n : Int) (hw : (Lit.int .i64 n).wf = true) (w : World) :
    Calls Try.prog 6 #[.bool on, .bool ag, .int .i64 n] w fun e w' => e = .returned (.bool true) ∧ Below w.heap.size w w' := by
  by_cases h : n < 0 ∨ 100 < n
  · exact stays_out on ag n h w
  · obtain ⟨k, rfl⟩ : ∃ k : Nat, n = (k : Int) := ⟨n.toNat, by omega⟩
    exact stays_good on ag k (by omega) w _ rfl

end Go.Proofs.Ytcpdeeiopoghiaa
