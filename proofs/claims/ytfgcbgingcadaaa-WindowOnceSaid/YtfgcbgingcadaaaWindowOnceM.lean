/- Windows that have seen all. Speaks of no program. Own work. -/
import Derived.Test.YtfgcbgingcadaaaWinM
import Derived.Test.YtfgcbgingcadaaaMapI
namespace Go.Proofs.Ytfgcbgingcadaaa
set_option linter.unusedVariables false
set_option linter.unusedSimpArgs false
open Go.RowKit

/-- All numbers up to i came. -/
def FullW (i : Int) (s : Nat) : Prop := ∃ g, GotOk i g ∧ s = bitsF i g ∧ ∀ x, 1 ≤ x → x ≤ i → i - 64 < x → x ∈ g

theorem full_zero : FullW 0 0 := ⟨[], got_nil, rfl, fun x h1 h2 _ => by omega⟩
theorem full_lt {i : Int} {s : Nat} (h : FullW i s) : s < 18446744073709551616 := by
  obtain ⟨g, h1, rfl, _⟩ := h
  exact bits_lt h1
theorem full_next {i : Int} {s : Nat} (h : FullW i s) (hi : i < 1000) : freshB i s (i + 1) = true ∧ FullW (i + 1) (markS i s (i + 1)) := by
  obtain ⟨g, h1, rfl, h2⟩ := h
  have h0 := h1.lo
  have hl : freshL i g (i + 1) = true := freshL_true.2 ⟨by omega, by omega, by omega, fun hm => by have := (h1.all _ hm).2.1; omega⟩
  have hm : max i (i + 1) = i + 1 := by omega
  have hk := mark_ok h1 hl
  have hb := bits_mark h1 hl
  rw [hm] at hk hb
  refine ⟨by rw [fresh_ref h1]; exact hl, _, hk, hb, fun x x1 x2 x3 => ?_⟩
  unfold markL
  rw [hm]
  by_cases hx : x = i + 1
  · simp [hx]
  · exact List.mem_append.2 (.inl (List.mem_filter.2 ⟨h2 x x1 (by omega) (by omega), decide_eq_true x3⟩))
theorem full_not {i : Int} {s : Nat} (h : FullW i s) {x : Int} (h1 : x ≤ i) (h2 : i - 64 < x) : freshB i s x = false := by
  obtain ⟨g, g1, rfl, g2⟩ := h
  rw [fresh_ref g1, ← Bool.not_eq_true, freshL_true]
  rintro ⟨x1, _, _, x4⟩
  exact x4 (g2 x x1 h1 h2)

/-- Each of the first i numbers once. -/
def cntI (i : Int) : Int → Option Value := fun x => if 1 ≤ x ∧ x ≤ i then some (.int .i64 1) else none
theorem cnt_zero : cntI 0 = fun _ => none := by funext x; unfold cntI; rw [if_neg (by omega)]
theorem cnt_next (i : Int) (h : 0 ≤ i) : putI (cntI i) (i + 1) (.int .i64 1) = cntI (i + 1) := by
  funext x
  unfold putI cntI
  by_cases hx : x = i + 1
  · rw [if_pos hx, if_pos (by omega)]
  · rw [if_neg hx]
    by_cases h2 : 1 ≤ x ∧ x ≤ i
    · rw [if_pos h2, if_pos (by omega)]
    · rw [if_neg h2, if_neg (by omega)]
theorem cnt_out (i : Int) : cntI i (i + 1) = none := by unfold cntI; rw [if_neg (by omega)]
theorem cnt_in {i x : Int} (h1 : 1 ≤ x) (h2 : x ≤ i) : cntI i x = some (.int .i64 1) := by unfold cntI; rw [if_pos ⟨h1, h2⟩]

end Go.Proofs.Ytfgcbgingcadaaa
