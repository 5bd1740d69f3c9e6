/- cell: Blank, the document's ValidAttr and Blank; the law's alive. Own work. -/
import Derived.Test.YtihdiijnidcgkaaCellS
namespace Go.Proofs.Ytihdiijnidcgkaa
set_option linter.unusedVariables false
set_option linter.unusedSimpArgs false
open Go.RowKit

theorem below_box (w : World) (o : Obj) : Below w.heap.size w (w.alloc o) := (Below.refl _ w).alloc (Nat.le_refl _) _

theorem own_newone (w : World) (u : Value) (e : TypeId) {g B : Nat} (hg : g = w.heap.size) (hB : B ≤ g) : (w.alloc (.cells #[u] e)).ownsRow B e 1 (.slice (some ⟨g, 0, none⟩) 1 1) 1 [u] := by
  subst hg
  exact ⟨rfl, .inr ⟨w.heap.size, 1, #[u], rfl, hB, heap_alloc_new w _, by omega, by unfold maxLen; omega, by simp, by simp⟩⟩

set_option maxHeartbeats 800000 in
theorem cell_blank (a : At) (w : World) :
    Calls Try.prog 18 #[a.v] w fun e w' => e = .returned (CellM.v ⟨32, ⟨0, a.bg, false, false, false⟩⟩) ∧ Below w.heap.size w w' := by
  obtain ⟨f, g, b, u, i⟩ := a
  simp only [At.v, CellM.v]
  go_enter Try.func18, Try.ntmps18
  go_wp2_with fail
  refine bodyPost_ret (v := .agg #[.int .i32 32, .int .i64 0, .int .i64 g, .bool false, .bool false, .bool false]) (by simp [results, Try.results18, go_sem]) rfl ⟨rfl, ?_⟩
  repeat (first | exact Below.refl _ _ | (refine Below.setCell ?_ (by simp) _) | (refine Below.alloc ?_ (by simp) _))

set_option maxHeartbeats 800000 in
theorem ref_blank (a : At) (w : World) :
    Calls Try.prog 19 #[a.v] w fun e w' => e = .returned (CellM.v ⟨32, ⟨0, a.bg, false, false, false⟩⟩) ∧ Below w.heap.size w w' := by
  obtain ⟨f, g, b, u, i⟩ := a
  simp only [At.v, CellM.v]
  go_enter Try.func19, Try.ntmps19
  go_wp2_with fail
  refine bodyPost_ret (v := .agg #[.int .i32 32, .int .i64 0, .int .i64 g, .bool false, .bool false, .bool false]) (by simp [results, Try.results19, go_sem]) rfl ⟨rfl, ?_⟩
  repeat (first | exact Below.refl _ _ | (refine Below.setCell ?_ (by simp) _) | (refine Below.alloc ?_ (by simp) _))

set_option maxHeartbeats 800000 in
theorem ref_valid (a : At) (w : World) (r : Bool) (hr : decide a.ok = r) :
    Calls Try.prog 11 #[a.v] w fun e w' => e = .returned (.bool r) ∧ Below w.heap.size w w' := by
  obtain ⟨f, g, b, u, i⟩ := a
  simp only [At.v]
  have hc : (0 ≤ f ∧ f ≤ 16 ∧ 0 ≤ g ∧ g ≤ 16 ∧ r = true) ∨ (¬ 0 ≤ f ∧ r = false) ∨ (0 ≤ f ∧ ¬ f ≤ 16 ∧ r = false) ∨ (0 ≤ f ∧ f ≤ 16 ∧ ¬ 0 ≤ g ∧ r = false) ∨ (0 ≤ f ∧ f ≤ 16 ∧ 0 ≤ g ∧ ¬ g ≤ 16 ∧ r = false) := by
    cases r
    · have := of_decide_eq_false hr
      simp only [At.ok] at this
      simp only [reduceCtorEq, and_false, and_true, or_false, false_or]
      omega
    · have := of_decide_eq_true hr
      simp only [At.ok] at this
      simp only [reduceCtorEq, and_false, and_true, or_false, false_or]
      omega
  clear hr
  rcases hc with ⟨h1, h2, h3, h4, rfl⟩ | ⟨h1, rfl⟩ | ⟨h1, h2, rfl⟩ | ⟨h1, h2, h3, rfl⟩ | ⟨h1, h2, h3, h4, rfl⟩
  all_goals
    go_enter Try.func11, Try.ntmps11
    go_wp2_with fail
    go_ret
    exact ⟨rfl, below_box ..⟩

theorem sgr_alive : sgrL .z [1, 31] = ⟨2, 0, true, false, false⟩ := rfl

set_option maxRecDepth 100000 in
set_option maxHeartbeats 1600000 in
theorem alive_any (w : World) : Calls Try.prog 7 #[] w fun e w' => e = .returned (.bool true) ∧ Below w.heap.size w w' := by
  go_enter Try.func7, Try.ntmps7
  go_wp2_with fail
  have hs := cell_sgr .z (some ⟨w.heap.size, 0, none⟩) 2 2 [1, 31] _ (src_new w [.int .i64 1, .int .i64 31] 3 w.heap.size rfl 2 rfl) (by omega) (by omega) (by decide)
  rw [sgr_alive] at hs
  refine hs.mono ?_
  rintro e w1 ⟨rfl, hb⟩
  have HB1 : Hid (Below w.heap.size w w1) := Lib.hid ((below_box ..).trans (hb.mono (by simp)))
  clear hb hs
  simp only [At.v]
  go_wp2_with fail
  refine (cell_blank ⟨0, 3, true, false, false⟩ _).mono ?_
  rintro e w2 ⟨rfl, hb⟩
  simp only [CellM.v]
  obtain ⟨p, hp⟩ : ∃ p, p = w1.heap.size := ⟨_, rfl⟩
  have HC := Lib.hid ((heap_alloc_new w1 (.cells #[.int .i64 2, .int .i64 0, .bool true, .bool false, .bool false] 23)))
  have hpl : p < (w1.alloc (.cells #[.int .i64 2, .int .i64 0, .bool true, .bool false, .bool false] 23)).heap.size := by simp [hp]
  have HQ : w2.heap[p]? = some (.cells #[.int .i64 2, .int .i64 0, .bool true, .bool false, .bool false] 23 (0, 0)) := (hb.block p hpl).trans (hp ▸ HC.out)
  have c0 : w2.cell? ⟨p, 0, none⟩ = some (.int .i64 2) := cell_at HQ 0
  have c1 : w2.cell? ⟨p, 1, none⟩ = some (.int .i64 0) := cell_at HQ 1
  have c2 : w2.cell? ⟨p, 2, none⟩ = some (.bool true) := cell_at HQ 2
  have c3 : w2.cell? ⟨p, 3, none⟩ = some (.bool false) := cell_at HQ 3
  have c4 : w2.cell? ⟨p, 4, none⟩ = some (.bool false) := cell_at HQ 4
  have HB2 : Hid (Below w.heap.size w w2) := Lib.hid ((HB1.out.alloc HB1.out.size _).trans (hb.mono (by have := HB1.out.size; simp; omega)))
  have hp2 : p < w2.heap.size := lt_heap HQ
  rw [← hp]
  clear hb HC HQ hpl hp
  go_wp2_with fail
  refine (cell_valid ⟨2, 0, true, false, false⟩ _ true (by decide)).mono ?_
  rintro e w3 ⟨rfl, hb⟩
  have HB3 : Hid (Below w.heap.size w w3) := Lib.hid ((HB2.out.alloc HB2.out.size _).trans (hb.mono (by have := HB2.out.size; simp; omega)))
  clear hb
  go_wp2_with fail
  go_ret
  exact ⟨rfl, HB3.out⟩

end Go.Proofs.Ytihdiijnidcgkaa
