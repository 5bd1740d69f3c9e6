/- The document's Heard. Own work. -/
import Derived.Test.YtmkgcmnimpkmjaaRef
namespace Go.Proofs.Ytmkgcmnimpkmjaa
set_option linter.unusedVariables false
set_option linter.unusedSimpArgs false
open Go.RowKit

theorem far_cell {w : World} {p : Addr} {v : Value} {o : Obj} (h : w.cell? p = some v) : (w.alloc o).cell? p = some v :=
  (World.cell?_of_block (w := w) (Below.heap_alloc w o p.block (World.block_lt_of_cell? w _ h))).trans h
theorem far_frozen {w : World} {p : Addr} {o : Obj} (hp : p.block < w.heap.size) (h : w.frozen? p = false) : (w.alloc o).frozen? p = false :=
  (World.frozen?_of_block (w := w) (Below.heap_alloc w o p.block hp)).trans h

set_option maxHeartbeats 16000000 in
theorem rside_heard (s : Int) (o on agree : Bool) (w : World) (h : validB s o = true) :
    Calls Try.prog 38 #[.agg #[.int .i64 s, .bool o], .bool on, .bool agree] w fun e w' => e = .returned (.tuple #[.agg #[.int .i64 (heardL s o on agree).1, .bool false], .int .i64 (heardL s o on agree).2]) ∧ Below w.heap.size w w' := by
  rcases valid_cases h with ⟨rfl, rfl⟩ | ⟨rfl, rfl⟩ | rfl | rfl <;> cases on <;> cases agree <;> try cases o
  all_goals
    have HF := Lib.hid h
    clear h
    simp only [heardL, heardOnL, heardOffL, if_true, if_false, Int.reduceEq, Bool.false_eq_true, Bool.not_true, Bool.not_false]
    go_enter Try.func38, Try.ntmps38
    go_wp2_with fail
    refine (rside_valid _ _ _).mono ?_
    rintro e w1 ⟨rfl, hb⟩
    rw [HF.out]
    obtain ⟨hB, hz, ⟨c0, c1, c2, c3⟩, f0, f1, f2, f3⟩ := boxes hb
    have HB := Lib.hid hB
    clear hb hB
    have e0 : ∀ o p, ((w1.alloc o).alloc p).cell? ⟨w.heap.size + 1, 0, none⟩ = some (.int .i64 0) := fun o p => far_cell (far_cell c2)
    have e1 : ∀ o p, ((w1.alloc o).alloc p).cell? ⟨w.heap.size + 1, 1, none⟩ = some (.bool false) := fun o p => far_cell (far_cell c3)
    have g0 : ∀ o p, ((w1.alloc o).alloc p).frozen? ⟨w.heap.size + 1, 0, none⟩ = false := fun o p => far_frozen (by simp; omega) (far_frozen hz f2)
    have g1 : ∀ o p, ((w1.alloc o).alloc p).frozen? ⟨w.heap.size + 1, 1, none⟩ = false := fun o p => far_frozen (by simp; omega) (far_frozen hz f3)
    have h0 : ∀ o p q r, ((((w1.alloc o).alloc p).alloc q).alloc r).cell? ⟨w.heap.size + 1, 0, none⟩ = some (.int .i64 0) := fun o p q r => far_cell (far_cell (e0 o p))
    have h1 : ∀ o p q r, ((((w1.alloc o).alloc p).alloc q).alloc r).cell? ⟨w.heap.size + 1, 1, none⟩ = some (.bool false) := fun o p q r => far_cell (far_cell (e1 o p))
    have i0 : ∀ o p q r, ((((w1.alloc o).alloc p).alloc q).alloc r).frozen? ⟨w.heap.size + 1, 0, none⟩ = false := fun o p q r => far_frozen (by simp; omega) (far_frozen (by simp; omega) (g0 o p))
    have i1 : ∀ o p q r, ((((w1.alloc o).alloc p).alloc q).alloc r).frozen? ⟨w.heap.size + 1, 1, none⟩ = false := fun o p q r => far_frozen (by simp; omega) (far_frozen (by simp; omega) (g1 o p))
    go_wp2_with fail
    try go_region
    all_goals (try go_wp2_with fail)
    all_goals
      refine bodyPost_ret (v := .tuple #[.agg #[.int .i64 _, .bool _], .int .i64 _]) (by simp [results, Try.results38, go_sem, hz, c0, c1, c2, c3, e0, e1, h0, h1]) rfl ⟨rfl, ?_⟩
      repeat (first | exact HB.out | (refine Below.setCell ?_ (by simp) _) | (refine Below.drew ?_) | (refine Below.alloc ?_ (by have := HB.out.size; simp; omega) _))

end Go.Proofs.Ytmkgcmnimpkmjaa
