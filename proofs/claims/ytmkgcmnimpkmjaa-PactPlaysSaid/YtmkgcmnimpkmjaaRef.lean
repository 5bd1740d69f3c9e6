/- The document's Side: Valid, Heard, Ask. Own work. -/
import Derived.Test.YtmkgcmnimpkmjaaHeard
import Derived.Deep.RegionWith
namespace Go.Proofs.Ytmkgcmnimpkmjaa
set_option linter.unusedVariables false
set_option linter.unusedSimpArgs false
open Go.RowKit

theorem valid_bounds {s : Int} {o : Bool} : validB s o = (decide (0 ≤ s) && decide (s ≤ 3) && (!o || decide (2 ≤ s))) := by
  unfold validB
  cases o <;> simp <;> rw [Bool.eq_iff_iff] <;> simp <;> omega

set_option maxHeartbeats 800000 in
theorem rside_valid (s : Int) (o : Bool) (w : World) :
    Calls Try.prog 51 #[.agg #[.int .i64 s, .bool o]] w fun e w' => e = .returned (.bool (validB s o)) ∧ Below w.heap.size w w' := by
  have E := Lib.hid (valid_bounds (s := s) (o := o))
  rcases Bool.eq_false_or_eq_true (decide (0 ≤ s)) with d0 | d0 <;> rcases Bool.eq_false_or_eq_true (decide (s ≤ 3)) with d1 | d1 <;> rcases Bool.eq_false_or_eq_true (decide (2 ≤ s)) with d2 | d2 <;> cases o
  all_goals
    go_enter Try.func51, Try.ntmps51
    go_wp2_with fail
    go_ret
    refine ⟨?_, (Below.refl _ _).alloc (Nat.le_refl _) _⟩
    rw [E.out, d0, d1, d2]
    rfl

set_option maxHeartbeats 800000 in
theorem rside_heard_bad (s : Int) (o on agree : Bool) (w : World) (h : validB s o = false) :
    Calls Try.prog 38 #[.agg #[.int .i64 s, .bool o], .bool on, .bool agree] w fun e w' => e = .returned (.tuple #[.agg #[.int .i64 s, .bool o], .int .i64 0]) ∧ Below w.heap.size w w' := by
  have HF := Lib.hid h
  clear h
  go_enter Try.func38, Try.ntmps38
  go_wp2_with fail
  refine (rside_valid s o _).mono ?_
  rintro e w1 ⟨rfl, hb⟩
  rw [HF.out]
  obtain ⟨hB, hz, ⟨c0, c1, c2, c3⟩, f0, f1, f2, f3⟩ := boxes hb
  have HB := Lib.hid hB
  clear hb hB
  go_wp2_with fail
  refine bodyPost_ret (v := .tuple #[.agg #[.int .i64 s, .bool o], .int .i64 0]) (by simp [results, Try.results38, go_sem, hz, c2, c3]) rfl ⟨rfl, ?_⟩
  repeat (first | exact HB.out | (refine Below.setCell ?_ (by simp) _) | (refine Below.alloc ?_ (by simp) _))

set_option maxHeartbeats 800000 in
theorem rside_ask_bad (s : Int) (o on : Bool) (w : World) (h : validB s o = false) :
    Calls Try.prog 33 #[.agg #[.int .i64 s, .bool o], .bool on] w fun e w' => e = .returned (.tuple #[.agg #[.int .i64 s, .bool o], .int .i64 0]) ∧ Below w.heap.size w w' := by
  have HF := Lib.hid h
  clear h
  go_enter Try.func33, Try.ntmps33
  go_wp2_with fail
  refine (rside_valid s o _).mono ?_
  rintro e w1 ⟨rfl, hb⟩
  rw [HF.out]
  obtain ⟨hB, hz, ⟨c0, c1, c2, c3⟩, f0, f1, f2, f3⟩ := boxes hb
  have HB := Lib.hid hB
  clear hb hB
  go_wp2_with fail
  refine bodyPost_ret (v := .tuple #[.agg #[.int .i64 s, .bool o], .int .i64 0]) (by simp [results, Try.results33, go_sem, hz, c2, c3]) rfl ⟨rfl, ?_⟩
  repeat (first | exact HB.out | (refine Below.setCell ?_ (by simp) _) | (refine Below.alloc ?_ (by simp) _))

set_option maxHeartbeats 1600000 in
theorem rside_ask (s : Int) (o on : Bool) (w : World) (h : validB s o = true) :
    Calls Try.prog 33 #[.agg #[.int .i64 s, .bool o], .bool on] w fun e w' => e = .returned (.tuple #[.agg #[.int .i64 (askL s o on).1, .bool (askL s o on).2.1], .int .i64 (askL s o on).2.2]) ∧ Below w.heap.size w w' := by
  rcases valid_cases h with ⟨rfl, rfl⟩ | ⟨rfl, rfl⟩ | rfl | rfl <;> cases on <;> try cases o
  all_goals
    have HF := Lib.hid h
    clear h
    simp only [askL, if_true, if_false, Int.reduceEq, Bool.false_eq_true, Bool.not_true, Bool.not_false]
    go_enter Try.func33, Try.ntmps33
    go_wp2_with fail
    refine (rside_valid _ _ _).mono ?_
    rintro e w1 ⟨rfl, hb⟩
    rw [HF.out]
    obtain ⟨hB, hz, ⟨c0, c1, c2, c3⟩, f0, f1, f2, f3⟩ := boxes hb
    have HB := Lib.hid hB
    clear hb hB
    go_wp2_with fail
    refine bodyPost_ret (v := .tuple #[.agg #[.int .i64 _, .bool _], .int .i64 _]) (by simp [results, Try.results33, go_sem, hz, c0, c1, c2, c3]) rfl ⟨rfl, ?_⟩
    repeat (first | exact HB.out | (refine Below.setCell ?_ (by simp) _) | (refine Below.alloc ?_ (by simp) _))

end Go.Proofs.Ytmkgcmnimpkmjaa
