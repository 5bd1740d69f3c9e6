/- Law OptPlays: the walk. Own work. -/
import Derived.Test.YtcpdeeiopoghiaaOptAlive
import Derived.Test.YtcpdeeiopoghiaaBox
import Derived.Deep.RegionLaw
import Derived.Deep.CutRange
namespace Go.Proofs.Ytcpdeeiopoghiaa
set_option linter.unusedVariables false
set_option linter.unusedSimpArgs false
open Go.RowKit

/-- What a step makes of a side: heard, or wanted. -/
def AskRel (s : Int) (o on : Bool) (s' : Int) (o' : Bool) (n : Int) : Prop :=
  (s = 0 ∧ o = false ∧ on = true ∧ s' = 3 ∧ o' = false ∧ n = 1) ∨ (s = 0 ∧ o = false ∧ on = false ∧ s' = 0 ∧ o' = false ∧ n = 0) ∨
  (s = 1 ∧ o = false ∧ on = true ∧ s' = 1 ∧ o' = false ∧ n = 0) ∨ (s = 1 ∧ o = false ∧ on = false ∧ s' = 2 ∧ o' = false ∧ n = -1) ∨
  (s = 2 ∧ s' = 2 ∧ n = 0) ∨ (s = 3 ∧ s' = 3 ∧ n = 0)

theorem ask_rel (s : Int) (o on : Bool) (h : validB s o = true) : ∃ s' o' n, AskRel s o on s' o' n ∧ validB s' o' = true ∧
    ∀ W, Calls Try.prog 10 #[.agg #[.int .i64 s, .bool o], .bool on] W fun e w' => e = .returned (.tuple #[.agg #[.int .i64 s', .bool o'], .int .i64 n]) ∧ Below W.heap.size W w' := by
  refine ⟨_, _, _, ?_, ?_, fun W => side_ask s o on W h⟩
  · rcases valid_cases h with ⟨rfl, rfl⟩ | ⟨rfl, rfl⟩ | rfl | rfl <;> cases on <;> simp [AskRel, askL]
  · rcases valid_cases h with ⟨rfl, rfl⟩ | ⟨rfl, rfl⟩ | rfl | rfl <;> cases on <;> simp [validB, askL]

def HeardRel (s : Int) (o on : Bool) (s' : Int) (o' : Bool) (n : Int) : Prop :=
  (s = 0 ∧ o = false ∧ on = true ∧ s' = 1 ∧ o' = false ∧ n = 1) ∨ (s = 0 ∧ o = false ∧ on = true ∧ s' = 0 ∧ o' = false ∧ n = -1) ∨ (s = 0 ∧ o = false ∧ on = false ∧ s' = 0 ∧ o' = false ∧ n = 0) ∨
  (s = 1 ∧ o = false ∧ on = true ∧ s' = 1 ∧ o' = false ∧ n = 0) ∨ (s = 1 ∧ o = false ∧ on = false ∧ s' = 0 ∧ o' = false ∧ n = -1) ∨
  (s = 2 ∧ o = false ∧ s' = 0 ∧ o' = false ∧ n = 0) ∨ (s = 2 ∧ o = true ∧ on = true ∧ s' = 1 ∧ o' = false ∧ n = 0) ∨ (s = 2 ∧ o = true ∧ on = false ∧ s' = 3 ∧ o' = false ∧ n = 1) ∨
  (s = 3 ∧ on = false ∧ s' = 0 ∧ o' = false ∧ n = 0) ∨ (s = 3 ∧ o = false ∧ on = true ∧ s' = 1 ∧ o' = false ∧ n = 0) ∨ (s = 3 ∧ o = true ∧ on = true ∧ s' = 2 ∧ o' = false ∧ n = -1)

theorem heard_rel (s : Int) (o on ag : Bool) (h : validB s o = true) : ∃ s' o' n, HeardRel s o on s' o' n ∧ validB s' o' = true ∧
    ∀ W, Calls Try.prog 8 #[.agg #[.int .i64 s, .bool o], .bool on, .bool ag] W fun e w' => e = .returned (.tuple #[.agg #[.int .i64 s', .bool o'], .int .i64 n]) ∧ Below W.heap.size W w' := by
  refine ⟨_, _, _, ?_, ?_, fun W => side_heard s o on ag W h⟩
  · rcases valid_cases h with ⟨rfl, rfl⟩ | ⟨rfl, rfl⟩ | rfl | rfl <;> cases on <;> cases ag <;> (try cases o) <;> simp [HeardRel, heardL, heardOnL, heardOffL]
  · rcases valid_cases h with ⟨rfl, rfl⟩ | ⟨rfl, rfl⟩ | rfl | rfl <;> cases on <;> cases ag <;> (try cases o) <;> simp [validB, heardL, heardOnL, heardOffL]

set_option maxRecDepth 100000 in
set_option maxHeartbeats 16000000 in
theorem plays_good (A : Option Addr) (n cap : Nat) (ops : List (Bool × Bool × Bool)) (w : World) (hops : Structs (Bools3 w) 3 w A n ops) (h2 : n ≤ 100) :
    Calls Try.prog 4 #[.slice A n cap] w fun e w' => e = .returned (.bool true) ∧ Below w.heap.size w w' := by
  have HO := Lib.hid hops
  have hd1 : decide (100 < (n : Int)) = false := by simp; omega
  clear hops
  go_enter Try.func4, Try.ntmps4
  go_wp2_with fail
  refine (alive_any _).mono ?_
  rintro r w1 ⟨rfl, hb⟩
  have HB1 := Lib.hid hb
  clear hb
  have HX0 : Hid (Box (w1.alloc (.cells #[.int .i64 0, .bool false] 26)) w1.heap.size 0 false) := Lib.hid (Box.new w1 0 false 26 _ rfl)
  have HW0 : Hid (Below w.heap.size w (w1.alloc (.cells #[.int .i64 0, .bool false] 26))) := Lib.hid (HB1.out.alloc HB1.out.size _)
  have HP : Hid (w.heap.size ≤ w1.heap.size) := Lib.hid HB1.out.size
  go_wp2_with fail
  go_loopw [4, 5, 6] (fun hv av i wr => ∃ (k h a : Nat) (s : Int) (o : Bool), i = .int .i64 k ∧ k ≤ n ∧ hv = .int .i64 h ∧ av = .int .i64 a ∧ h ≤ k ∧ a ≤ h ∧ Hid (validB s o = true) ∧ Hid (Box wr w1.heap.size s o) ∧ Hid (Below w.heap.size w wr)) (fun _ _ i _ => n - (intOf i).toNat)
  case atStart => exact ⟨0, 0, 0, 0, false, rfl, by omega, rfl, rfl, by omega, by omega, Lib.hid rfl, HX0, HW0⟩
  case round =>
    obtain ⟨k, h, a, s, o, rfl, hk, rfl, rfl, hh, ha, HV, HX, HB⟩ := hrel
    obtain ⟨l0, c0, c1, f0, f1⟩ := HX.out
    by_cases hlt : k < n
    · have hd : decide ((k : Int) < (n : Int)) = true := by simp; omega
      obtain ⟨b, off, ⟨ask, on, ag⟩, rfl, hbl, _, ho0, ho1, ho2⟩ := HO.out.at hlt
      have HE : Hid (∀ W, Below w.heap.size w W → W.cell? ⟨b, off + k * 3, none⟩ = some (.bool ask) ∧ W.cell? ⟨b, off + k * 3 + 1, none⟩ = some (.bool on) ∧ W.cell? ⟨b, off + k * 3 + 2, none⟩ = some (.bool ag)) := Lib.hid (fun W q => ⟨(q.cell (p := ⟨b, off + k * 3, none⟩) hbl).trans ho0, (q.cell (p := ⟨b, off + k * 3 + 1, none⟩) hbl).trans ho1, (q.cell (p := ⟨b, off + k * 3 + 2, none⟩) hbl).trans ho2⟩)
      clear ho0 ho1 ho2
      obtain ⟨e0, e1, e2⟩ := HE.out _ HB.out
      have hbw : b < wr.heap.size := Nat.lt_of_lt_of_le hbl HB.out.size
      cases ask
      · obtain ⟨s', o', m, hr, hv, hc⟩ := heard_rel s o on ag HV.out
        have HC := Lib.hid hc
        have HR := Lib.hid hr
        have HV2 := Lib.hid hv
        have HVC : Hid (∀ W, Calls Try.prog 12 #[.agg #[.int .i64 s', .bool o']] W fun e w' => e = .returned (.bool true) ∧ Below W.heap.size W w') := Lib.hid (fun W => hv ▸ side_valid s' o' W)
        clear hc hr hv
        have hh1 : IntKind.i64.wrap ((h : Int) + 1) = ((h + 1 : Nat) : Int) := by rw [IntWalk.i64_in _ (by omega)]; simp
        have ha1 : IntKind.i64.wrap ((a : Int) + 1) = ((a + 1 : Nat) : Int) := by rw [IntWalk.i64_in _ (by omega)]; simp
        go_upto_region 14 with fail
        go_cut [8] from 18 to 137 (fun nv wx => nv = .int .i64 m ∧ Hid (Box wx w1.heap.size s' o') ∧ Hid (Box wx wr.heap.size s o) ∧ Hid (Below w.heap.size w wx))
        case first =>
          go_region_law (first | (go_simp; go_at_call 8; refine (HC.out _).mono ?_; rintro e w5 ⟨rfl, hb⟩; have hX5 := Lib.hid (((HX.out.alloc (.cells #[.int .i64 s, .bool o] 26)).drew).call hb); have hQ5 := Lib.hid (((Box.new wr s o 26 _ rfl).drew).call hb); have hB5 : Hid (Below w.heap.size w w5) := Lib.hid (((HB.out.alloc HB.out.size (.cells #[.int .i64 s, .bool o] 26)).drew).trans (hb.mono (by have := HB.out.size; simp; omega))); obtain ⟨m0, d0, d1, g0, g1⟩ := hX5.out) | fail)
          all_goals
            go_wp2_with fail
            go_meet
            exact ⟨rfl, Lib.hid (hX5.out.put s' o'), Lib.hid ((hQ5.out.far (q := ⟨w1.heap.size, 0, none⟩) (by have := HX.out.lt; simp; omega) _).far (q := ⟨w1.heap.size, 1, none⟩) (by have := HX.out.lt; simp; omega) _), Lib.hid ((hB5.out.setCell (p := ⟨w1.heap.size, 0, none⟩) HP.out _).setCell (p := ⟨w1.heap.size, 1, none⟩) HP.out _)⟩
        case rest =>
          obtain ⟨rfl, HX6, HQ6, HB6⟩ := hcut
          obtain ⟨m0, d0, d1, g0, g1⟩ := HX6.out
          obtain ⟨n0, q0, q1, i0, i1⟩ := HQ6.out
          obtain ⟨e0', e1', e2'⟩ := HE.out _ HB6.out
          clear e0 e1 e2 c0 c1 l0 f0 f1 HX HB HQ6 hbw
          have hbw : b < wc.heap.size := Nat.lt_of_lt_of_le hbl HB6.out.size
          have hr := HR.out
          clear HR HC
          rcases hr with ⟨rfl, rfl, rfl, rfl, rfl, rfl⟩ | ⟨rfl, rfl, rfl, rfl, rfl, rfl⟩ | ⟨rfl, rfl, rfl, rfl, rfl, rfl⟩ | ⟨rfl, rfl, rfl, rfl, rfl, rfl⟩ | ⟨rfl, rfl, rfl, rfl, rfl, rfl⟩ | ⟨rfl, rfl, rfl, rfl, rfl⟩ | ⟨rfl, rfl, rfl, rfl, rfl, rfl⟩ | ⟨rfl, rfl, rfl, rfl, rfl, rfl⟩ | ⟨rfl, rfl, rfl, rfl, rfl⟩ | ⟨rfl, rfl, rfl, rfl, rfl, rfl⟩ | ⟨rfl, rfl, rfl, rfl, rfl, rfl⟩ <;> (try cases on)
          all_goals
            as_aux_lemma =>
              go_wp2_with fail
              refine (HVC.out _).mono ?_
              rintro e w7 ⟨rfl, hb⟩
              have HX7 := Lib.hid (HX6.out.call hb)
              have HB7 := Lib.hid (HB6.out.trans (hb.mono HB6.out.size))
              go_wp2_with fail
              go_roundw
              case rel => first | exact ⟨k + 1, h + 1, a, _, _, by go_num, by omega, by go_num, rfl, by omega, by omega, HV2, HX7, HB7⟩ | exact ⟨k + 1, h + 1, a + 1, _, _, by go_num, by omega, by go_num, by go_num, by omega, by omega, HV2, HX7, HB7⟩ | fail
              case measure => simp [intOf]; omega
      · obtain ⟨s', o', m, hr, hv, hc⟩ := ask_rel s o on HV.out
        have HC := Lib.hid hc
        have HR := Lib.hid hr
        have HV2 := Lib.hid hv
        have HVC : Hid (∀ W, Calls Try.prog 12 #[.agg #[.int .i64 s', .bool o']] W fun e w' => e = .returned (.bool true) ∧ Below W.heap.size W w') := Lib.hid (fun W => hv ▸ side_valid s' o' W)
        clear hc hr hv
        go_upto_region 11 with fail
        go_cut [8] from 18 to 137 (fun nv wx => nv = .int .i64 m ∧ Hid (Box wx w1.heap.size s' o') ∧ Hid (Box wx wr.heap.size s o) ∧ Hid (Below w.heap.size w wx))
        case first =>
          go_region_law (first | (go_simp; go_at_call 10; refine (HC.out _).mono ?_; rintro e w5 ⟨rfl, hb⟩; have hX5 := Lib.hid (((HX.out.alloc (.cells #[.int .i64 s, .bool o] 26)).drew).call hb); have hQ5 := Lib.hid (((Box.new wr s o 26 _ rfl).drew).call hb); have hB5 : Hid (Below w.heap.size w w5) := Lib.hid (((HB.out.alloc HB.out.size (.cells #[.int .i64 s, .bool o] 26)).drew).trans (hb.mono (by have := HB.out.size; simp; omega))); obtain ⟨m0, d0, d1, g0, g1⟩ := hX5.out) | fail)
          all_goals
            go_wp2_with fail
            go_meet
            exact ⟨rfl, Lib.hid (hX5.out.put s' o'), Lib.hid ((hQ5.out.far (q := ⟨w1.heap.size, 0, none⟩) (by have := HX.out.lt; simp; omega) _).far (q := ⟨w1.heap.size, 1, none⟩) (by have := HX.out.lt; simp; omega) _), Lib.hid ((hB5.out.setCell (p := ⟨w1.heap.size, 0, none⟩) HP.out _).setCell (p := ⟨w1.heap.size, 1, none⟩) HP.out _)⟩
        case rest =>
          obtain ⟨rfl, HX6, HQ6, HB6⟩ := hcut
          obtain ⟨m0, d0, d1, g0, g1⟩ := HX6.out
          obtain ⟨n0, q0, q1, i0, i1⟩ := HQ6.out
          obtain ⟨e0', e1', e2'⟩ := HE.out _ HB6.out
          clear e0 e1 e2 c0 c1 l0 f0 f1 HX HB HQ6 hbw
          have hbw : b < wc.heap.size := Nat.lt_of_lt_of_le hbl HB6.out.size
          have hr := HR.out
          clear HR HC
          rcases hr with ⟨rfl, rfl, rfl, rfl, rfl, rfl⟩ | ⟨rfl, rfl, rfl, rfl, rfl, rfl⟩ | ⟨rfl, rfl, rfl, rfl, rfl, rfl⟩ | ⟨rfl, rfl, rfl, rfl, rfl, rfl⟩ | ⟨rfl, rfl, rfl⟩ | ⟨rfl, rfl, rfl⟩
          all_goals
            as_aux_lemma =>
              go_wp2_with fail
              refine (HVC.out _).mono ?_
              rintro e w7 ⟨rfl, hb⟩
              have HX7 := Lib.hid (HX6.out.call hb)
              have HB7 := Lib.hid (HB6.out.trans (hb.mono HB6.out.size))
              go_wp2_with fail
              go_roundw
              case rel => exact ⟨k + 1, h, a, _, _, by go_num, by omega, rfl, rfl, by omega, by omega, HV2, HX7, HB7⟩
              case measure => simp [intOf]; omega
    · have hd : decide ((k : Int) < (n : Int)) = false := by simp; omega
      go_wp2_with fail
      have hle : decide ((a : Int) ≤ (h : Int)) = true := by simp; omega
      go_ret
      refine ⟨?_, HB.out⟩
      simp [ha]

set_option maxHeartbeats 800000 in
theorem plays_long (A : Option Addr) (n cap : Nat) (w : World) (h2 : 100 < n) :
    Calls Try.prog 4 #[.slice A n cap] w fun e w' => e = .returned (.bool true) ∧ Below w.heap.size w w' := by
  have hd1 : decide (100 < (n : Int)) = true := by simp; omega
  go_enter Try.func4, Try.ntmps4
  go_wp2_with fail
  refine (alive_any _).mono ?_
  rintro r w1 ⟨rfl, hb⟩
  go_wp2_with fail
  go_ret
  exact ⟨rfl, hb⟩

theorem walk_OptPlays (A : Option Addr) (n cap : Nat) (ops : List (Bool × Bool × Bool)) (w : World) (hops : Structs (Bools3 w) 3 w A n ops) :
    Calls Try.prog 4 #[.slice A n cap] w fun e w' => e = .returned (.bool true) ∧ Below w.heap.size w w' := by
  by_cases h : n ≤ 100
  · exact plays_good A n cap ops w hops h
  · exact plays_long A n cap w (by omega)

end Go.Proofs.Ytcpdeeiopoghiaa
