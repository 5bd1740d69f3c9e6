/- opt.Side: Heard, Ask, On. Own work. -/
import Derived.Test.YtmkgcmnimpkmjaaSide
namespace Go.Proofs.Ytmkgcmnimpkmjaa
set_option linter.unusedVariables false
set_option linter.unusedSimpArgs false
open Go.RowKit

/-- Two blocks of two cells that were just laid, behind a call. -/
theorem boxes {w w1 : World} {u0 u1 u2 u3 : Value} {t1 t2 : TypeId} (hb : Below ((w.alloc (.cells #[u0, u1] t1)).alloc (.cells #[u2, u3] t2)).heap.size ((w.alloc (.cells #[u0, u1] t1)).alloc (.cells #[u2, u3] t2)) w1) :
    Below w.heap.size w w1 ∧ w.heap.size + 1 < w1.heap.size ∧
    (w1.cell? ⟨w.heap.size, 0, none⟩ = some u0 ∧ w1.cell? ⟨w.heap.size, 1, none⟩ = some u1 ∧ w1.cell? ⟨w.heap.size + 1, 0, none⟩ = some u2 ∧ w1.cell? ⟨w.heap.size + 1, 1, none⟩ = some u3) ∧
    w1.frozen? ⟨w.heap.size, 0, none⟩ = false ∧ w1.frozen? ⟨w.heap.size, 1, none⟩ = false ∧ w1.frozen? ⟨w.heap.size + 1, 0, none⟩ = false ∧ w1.frozen? ⟨w.heap.size + 1, 1, none⟩ = false :=
  ⟨(((Below.refl w.heap.size w).alloc (Nat.le_refl _) _).alloc (by simp) _).trans (hb.mono (by simp; omega)), by have := hb.size; simp at this; omega,
    ⟨(hb.cell (p := ⟨w.heap.size, 0, none⟩) (by simp <;> omega)).trans (by simp [go_sem, Array.size_push]), (hb.cell (p := ⟨w.heap.size, 1, none⟩) (by simp <;> omega)).trans (by simp [go_sem, Array.size_push]),
      (hb.cell (p := ⟨w.heap.size + 1, 0, none⟩) (by simp <;> omega)).trans (by simp [go_sem, Array.size_push]), (hb.cell (p := ⟨w.heap.size + 1, 1, none⟩) (by simp <;> omega)).trans (by simp [go_sem, Array.size_push])⟩,
    (hb.frozen (p := ⟨w.heap.size, 0, none⟩) (by simp <;> omega)).trans (by simp [go_sem, Array.size_push]), (hb.frozen (p := ⟨w.heap.size, 1, none⟩) (by simp <;> omega)).trans (by simp [go_sem, Array.size_push]),
    (hb.frozen (p := ⟨w.heap.size + 1, 0, none⟩) (by simp <;> omega)).trans (by simp [go_sem, Array.size_push]), (hb.frozen (p := ⟨w.heap.size + 1, 1, none⟩) (by simp <;> omega)).trans (by simp [go_sem, Array.size_push])⟩

set_option maxHeartbeats 800000 in
theorem side_on (s : Int) (o : Bool) (w : World) (b : Bool) (hb : (s == 1) = b) :
    Calls Try.prog 44 #[.agg #[.int .i64 s, .bool o]] w fun e w' => e = .returned (.bool b) ∧ Below w.heap.size w w' := by
  go_enter Try.func44, Try.ntmps44
  go_wp2_with fail
  go_ret
  exact ⟨rfl, (Below.refl _ _).alloc (Nat.le_refl _) _⟩

set_option maxHeartbeats 800000 in
theorem side_heard_bad (s : Int) (o on agree : Bool) (w : World) (h : validB s o = false) :
    Calls Try.prog 65 #[.agg #[.int .i64 s, .bool o], .bool on, .bool agree] w fun e w' => e = .returned (.tuple #[.agg #[.int .i64 s, .bool o], .int .i64 0]) ∧ Below w.heap.size w w' := by
  have HF := Lib.hid h
  clear h
  go_enter Try.func65, Try.ntmps65
  go_wp2_with fail
  refine (side_valid s o _).mono ?_
  rintro e w1 ⟨rfl, hb⟩
  rw [HF.out]
  obtain ⟨hB, hz, ⟨c0, c1, c2, c3⟩, f0, f1, f2, f3⟩ := boxes hb
  have HB := Lib.hid hB
  clear hb hB
  go_wp2_with fail
  refine bodyPost_ret (v := .tuple #[.agg #[.int .i64 s, .bool o], .int .i64 0]) (by simp [results, Try.results65, go_sem, hz, c2, c3]) rfl ⟨rfl, ?_⟩
  repeat (first | exact HB.out | (refine Below.setCell ?_ (by simp) _) | (refine Below.alloc ?_ (by simp) _))

set_option maxHeartbeats 800000 in
theorem side_heard (s : Int) (o on agree : Bool) (w : World) (h : validB s o = true) :
    Calls Try.prog 65 #[.agg #[.int .i64 s, .bool o], .bool on, .bool agree] w fun e w' => e = .returned (.tuple #[.agg #[.int .i64 (heardL s o on agree).1, .bool false], .int .i64 (heardL s o on agree).2]) ∧ Below w.heap.size w w' := by
  have HF := Lib.hid h
  have HN := fun W => side_heardOn s o agree W h
  have HO := fun W => side_heardOff s o W h
  generalize hx : heardOnL s o agree = x at HN
  generalize hy : heardOffL s o = y at HO
  obtain ⟨x1, x2⟩ := x
  obtain ⟨y1, y2⟩ := y
  have HN := Lib.hid HN
  have HO := Lib.hid HO
  cases on
  all_goals
    simp only [heardL, if_true, if_false, Bool.false_eq_true]
    first | rw [hx] | rw [hy]
    clear h hx hy
    go_enter Try.func65, Try.ntmps65
    go_wp2_with fail
    refine (side_valid s o _).mono ?_
    rintro e w1 ⟨rfl, hb⟩
    rw [HF.out]
    obtain ⟨hB, hz, ⟨c0, c1, c2, c3⟩, f0, f1, f2, f3⟩ := boxes hb
    have HB := Lib.hid hB
    clear hb hB
    go_wp2_with fail
    first | refine (HN.out _).mono ?_ | refine (HO.out _).mono ?_
    rintro e w2 ⟨rfl, hb⟩
    have hz2 : w.heap.size + 1 < w2.heap.size := Nat.lt_of_lt_of_le hz hb.size
    have d2 := (hb.cell (p := ⟨w.heap.size + 1, 0, none⟩) (by simp <;> omega)).trans c2
    have d3 := (hb.cell (p := ⟨w.heap.size + 1, 1, none⟩) (by simp <;> omega)).trans c3
    have g2 := (hb.frozen (p := ⟨w.heap.size + 1, 0, none⟩) (by simp <;> omega)).trans f2
    have g3 := (hb.frozen (p := ⟨w.heap.size + 1, 1, none⟩) (by simp <;> omega)).trans f3
    have HB2 := Lib.hid (HB.out.trans (hb.mono HB.out.size))
    clear hb c0 c1 c2 c3 f0 f1 f2 f3
    go_wp2_with fail
    refine bodyPost_ret (v := .tuple #[.agg #[.int .i64 _, .bool false], .int .i64 _]) (by simp [results, Try.results65, go_sem, hz2, d2, d3]) rfl ⟨rfl, ?_⟩
    repeat (first | exact HB2.out | (refine Below.setCell ?_ (by simp) _) | (refine Below.alloc ?_ (by simp) _))

set_option maxHeartbeats 800000 in
theorem side_ask_bad (s : Int) (o on : Bool) (w : World) (h : validB s o = false) :
    Calls Try.prog 49 #[.agg #[.int .i64 s, .bool o], .bool on] w fun e w' => e = .returned (.tuple #[.agg #[.int .i64 s, .bool o], .int .i64 0]) ∧ Below w.heap.size w w' := by
  have HF := Lib.hid h
  clear h
  go_enter Try.func49, Try.ntmps49
  go_wp2_with fail
  refine (side_valid s o _).mono ?_
  rintro e w1 ⟨rfl, hb⟩
  rw [HF.out]
  obtain ⟨hB, hz, ⟨c0, c1, c2, c3⟩, f0, f1, f2, f3⟩ := boxes hb
  have HB := Lib.hid hB
  clear hb hB
  go_wp2_with fail
  refine bodyPost_ret (v := .tuple #[.agg #[.int .i64 s, .bool o], .int .i64 0]) (by simp [results, Try.results49, go_sem, hz, c2, c3]) rfl ⟨rfl, ?_⟩
  repeat (first | exact HB.out | (refine Below.setCell ?_ (by simp) _) | (refine Below.alloc ?_ (by simp) _))

set_option maxHeartbeats 1600000 in
theorem side_ask (s : Int) (o on : Bool) (w : World) (h : validB s o = true) :
    Calls Try.prog 49 #[.agg #[.int .i64 s, .bool o], .bool on] w fun e w' => e = .returned (.tuple #[.agg #[.int .i64 (askL s o on).1, .bool (askL s o on).2.1], .int .i64 (askL s o on).2.2]) ∧ Below w.heap.size w w' := by
  rcases valid_cases h with ⟨rfl, rfl⟩ | ⟨rfl, rfl⟩ | rfl | rfl <;> cases on <;> try cases o
  all_goals
    have HF := Lib.hid h
    clear h
    simp only [askL, if_true, if_false, Int.reduceEq, Bool.false_eq_true, Bool.not_true, Bool.not_false]
    go_enter Try.func49, Try.ntmps49
    go_wp2_with fail
    refine (side_valid _ _ _).mono ?_
    rintro e w1 ⟨rfl, hb⟩
    rw [HF.out]
    obtain ⟨hB, hz, ⟨c0, c1, c2, c3⟩, f0, f1, f2, f3⟩ := boxes hb
    have HB := Lib.hid hB
    clear hb hB
    go_wp2_with fail
    refine bodyPost_ret (v := .tuple #[.agg #[.int .i64 _, .bool _], .int .i64 _]) (by simp [results, Try.results49, go_sem, hz, c0, c1, c2, c3]) rfl ⟨rfl, ?_⟩
    repeat (first | exact HB.out | (refine Below.setCell ?_ (by simp) _) | (refine Below.alloc ?_ (by simp) _))

end Go.Proofs.Ytmkgcmnimpkmjaa
