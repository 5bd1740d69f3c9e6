/- chart: Clone, Copy, New; the document's Stops, Next; a nil Stops. Own work. -/
import Derived.Test.YthmogbldfecckaaChartB
namespace Go.Proofs.Ythmogbldfecckaa
set_option linter.unusedVariables false
set_option linter.unusedSimpArgs false
open Go.RowKit

theorem own_none (w : World) (e : TypeId) (z : Nat) : (w.alloc (.cells #[] e)).ownsRow w.heap.size e z (.slice (some ⟨w.heap.size, 0, none⟩) 0 0) 0 [] :=
  ⟨by simp, .inr ⟨w.heap.size, 0, #[], rfl, Nat.le_refl _, heap_alloc_new w _, Nat.le_refl _, by unfold maxLen; omega, by simp, by simp⟩⟩

/-- An own row is a row; its block is new. -/
theorem own_row {w : World} {B n c : Nat} {A : Option Addr} {e : TypeId} {xs : List Value} (h : w.ownsRow B e 1 (.slice A n c) n xs) (hs : A ≠ none) :
    ∃ g, A = some ⟨g, 0, none⟩ ∧ B ≤ g ∧ g < w.heap.size ∧ Row w g 0 n c xs := by
  rcases h.2 with ⟨h1, h2⟩ | ⟨g, cap, cur, h1, hB, hg, q1, q2, q3, q4⟩
  · injection h1 with hA hn hc
    exact absurd hA hs
  · injection h1 with hA hn hc
    subst hA hc
    have hr := Row.of_block hg (.inl (Nat.le_refl _)) (n := n) (by omega) (by omega)
    refine ⟨g, rfl, hB, lt_heap hg, ?_⟩
    have e1 : cur.size = c := by omega
    rw [e1] at hr
    have e2 : cur.toList.take n = xs := by simpa using q4
    rwa [e2] at hr

theorem run_append_zero {P : Program} (w : World) (t ty e : TypeId) (i : TypeInfo) (ht : P.underlying t = some (.slice e)) (hi : P.info? e = some i) (A A2 : Option Addr) (n c c2 : Nat) (hc : n ≤ c) (hA : c ≤ maxLen) :
    (Builtin.append_ #[t, t] ty #[.slice A n c, .slice A2 0 c2]).run P w = .ok (.slice A n c) w := by
  have hm : ¬ 9223372036854775807 < n := by unfold maxLen at hA; omega
  rcases A2 with _ | a <;> rcases A with _ | b
  all_goals simp [Builtin.append_, run_underlying ht, sizeOf, typeInfo, hi, Builtin.lenOf, Builtin.firstCells, hc, hA, hm, loadCells, loadCellsFrom, storeCells]

/-- A clone of bools. -/
def CloneB (n : Nat) (l : List Bool) (w : World) (e : Ending) (w' : World) : Prop :=
  ∃ g' c', e = .returned (.slice (some ⟨g', 0, none⟩) n c') ∧ w.heap.size ≤ g' ∧ g' < w'.heap.size ∧ Row w' g' 0 n c' (l.map Value.bool) ∧ Below w.heap.size w w'

set_option maxRecDepth 100000 in
set_option maxHeartbeats 1600000 in
theorem chart_clone0 (w : World) (g c : Nat) :
    Calls Try.prog 28 #[.slice (some ⟨g, 0, none⟩) 0 c] w (CloneB 0 [] w) := by
  obtain ⟨i0, hi0, hz0, hz1, hz2⟩ := info_parts bool_info
  have heq := fun (V : World) => Lib.run_eql_slice_nil (P := Try.prog) V 26 4 (some ⟨g, 0, none⟩) 0 c 0 0 Try.underlying26
  have hap := fun (V : World) ty A A2 => run_append_zero (P := Try.prog) V 26 ty 4 i0 Try.underlying26 hi0 A A2 0 0 c (Nat.le_refl _) (by unfold maxLen; omega)
  clear hi0 hz0 hz1 hz2
  go_enter Try.func28, Try.ntmps28
  go_wp2_with fail
  go_ret
  exact ⟨w.heap.size, 0, rfl, Nat.le_refl _, by simp, ⟨rfl, Nat.le_refl _, by unfold maxLen; omega, fun j u hj => by simp at hj, fun j hj => absurd hj (by omega)⟩, (Below.refl _ w).alloc (Nat.le_refl _) _⟩

set_option maxRecDepth 100000 in
set_option maxHeartbeats 1600000 in
theorem chart_clone (w : World) (g n c : Nat) (l : List Bool) (h : Row w g 0 n c (l.map Value.bool)) (hn : n ≤ 40) :
    Calls Try.prog 28 #[.slice (some ⟨g, 0, none⟩) n c] w (CloneB n l w) := by
  rcases Nat.eq_zero_or_pos n with h0 | h0
  · subst h0
    have hl : l = [] := List.eq_nil_of_length_eq_zero (by have := h.len; rwa [List.length_map] at this)
    subst hl
    exact chart_clone0 w g c
  obtain ⟨i0, hi0, hz0, hz1, hz2⟩ := info_parts bool_info
  have hni : (n : Int) ≤ 40 := by omega
  have HR := Lib.hid (h.alloc (.cells #[] 4))
  have hlen : (l.map Value.bool).length = n := h.len
  have HLEN := Lib.hid hlen
  have H1 : Hid (∀ u ∈ l.map Value.bool, u.oneCell' = true) := Lib.hid (by
    intro u hu
    obtain ⟨x, _, rfl⟩ := List.mem_map.1 hu
    rfl)
  have heq := fun (V : World) => Lib.run_eql_slice_nil (P := Try.prog) V 26 4 (some ⟨g, 0, none⟩) n c 0 0 Try.underlying26
  unfold CloneB
  obtain ⟨L, hL⟩ : ∃ L, l.map Value.bool = L := ⟨_, rfl⟩
  rw [hL] at HR HLEN H1 ⊢
  clear h hlen hL
  go_enter Try.func28, Try.ntmps28
  go_wp2_with (at_builtin; refine wpList_own_at _ rfl (.tmp 5) (.tmp 6) 26 rfl w.heap.size 4 i0 _ 1 1 Try.underlying26 hi0 hz0 hz1 hz2 rfl (by decide) _ 0 [] rfl (own_none w _ 1) ⟨g, 0, none⟩ n c L rfl (by rw [HLEN.out, Nat.mul_one]) ?c1 H1.out ?c3 ?c4 ?c5 ?_)
  case c1 => intro j u hu; rw [add_mk]; exact HR.out.val j u hu
  case c3 => unfold maxLen; omega
  case c4 => omega
  case c5 => simp
  intro v1 w1 hown hk hat
  have hown' : w1.ownsRow w.heap.size 4 1 v1 n L := by simpa using hown
  obtain ⟨A1, c1, rfl, hA1⟩ := own_form hown'
  obtain ⟨g0, hg0⟩ := hA1 h0
  obtain ⟨g1, rfl, q1, q2, q3⟩ := own_row hown' (by rw [hg0]; simp)
  have HB : Hid (Below w.heap.size w w1) := Lib.hid (((Below.refl _ w).alloc (Nat.le_refl _) _).trans (hk.below (by simp) (fun k hk e => by simp [Value.ownBlock] at e; omega)))
  have HQ := Lib.hid q3
  clear hown hk hat q3 hown' hg0 hA1
  go_wp2_with fail
  go_ret
  exact ⟨g1, c1, by first | rfl | simp, q1, q2, HQ.out, HB.out⟩

/-- Behind Copy. -/
def CopyB (n : Nat) (l : List Bool) (w : World) (e : Ending) (w' : World) : Prop :=
  ∃ p' g' c', e = .returned (.pointer (some ⟨p', 0, none⟩)) ∧ w.heap.size ≤ p' ∧ w.heap.size ≤ g' ∧ StopsAt w' p' g' n c' l ∧ Below w.heap.size w w'

set_option maxRecDepth 100000 in
set_option maxHeartbeats 1600000 in
theorem chart_copy (w : World) (p g n c : Nat) (l : List Bool) (h : StopsAt w p g n c l) :
    Calls Try.prog 13 #[.pointer (some ⟨p, 0, none⟩)] w (CopyB n l w) := by
  have hC := Lib.hid (chart_columns w p g n c l h)
  have hK := Lib.hid (chart_clone w g n c l h.row h.le)
  have hn := Lib.hid h.le
  have heq := fun (V : World) => Lib.run_eql_slice_nil (P := Try.prog) V 26 4 (some ⟨g, 0, none⟩) n c 0 0 Try.underlying26
  clear h
  go_enter Try.func13, Try.ntmps13
  go_wp2_with fail
  refine hC.out.mono ?_
  rintro e w1 ⟨rfl, rfl⟩
  go_wp2_with fail
  refine hK.out.mono ?_
  rintro e w2 ⟨g', c', rfl, q1, q2, q3, q4⟩
  have Q1 := Lib.hid q1
  have Q2 := Lib.hid q2
  have Q3 := Lib.hid q3
  have Q4 := Lib.hid q4
  clear q1 q2 q3 q4 hC hK
  go_wp2_with fail
  go_ret
  have hk : Keep (fun _ => False) w2 (w2.alloc (.cells #[.slice (some ⟨g', 0, none⟩) n c'] 57)) := (Keep.refl _ w2).alloc _
  refine ⟨w2.heap.size, g', c', rfl, Q4.out.size, Q1.out, ⟨Cell.box 0 rfl, Q3.out.keep hk (fun x => x), by have := Q2.out; omega, by have := Q2.out; simp; omega, hn.out⟩, Q4.out.alloc Q4.out.size _⟩

end Go.Proofs.Ythmogbldfecckaa
