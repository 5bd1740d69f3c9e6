/- Whole; a token's cells. Own work. -/
import Derived.Test.YtopgejjencoelaaFeed
import Derived.Deep.QuietTactic
import Derived.BigQuiet
namespace Go.Proofs.Ytopgejjencoelaa
set_option linter.unusedVariables false
set_option linter.unusedSimpArgs false
open Go.RowKit

/-- Whole. -/
def wholeL (r : Rd) : Bool := decide (r.at' ≤ 1)

set_option maxHeartbeats 400000 in
theorem whole_any (p : Nat) (bin made : Bool) (r : Rd) (A : Option Addr) (c : Nat) (w : World) (h : RdIn w p bin made r A c) :
    Calls Try.prog 21 #[.pointer (some ⟨p, 0, none⟩)] w fun e w' => e = .returned (.bool (wholeL r)) ∧ w = w' := by
  have c1 := h.c1.1
  obtain ⟨s, hs⟩ : ∃ s, s = r.at' := ⟨_, rfl⟩
  have HW : Hid (wholeL r = decide (s ≤ 1)) := by show _ = _; rw [hs]; rfl
  rw [HW.out]
  rw [← hs] at c1
  clear h hs
  by_cases h0 : s = 0
  · subst h0
    go_enter Try.func21, Try.ntmps21
    go_wp2_with fail
    go_ret
    exact ⟨rfl, rfl⟩
  · by_cases h1 : s = 1
    · subst h1
      clear h0
      go_enter Try.func21, Try.ntmps21
      go_wp2_with fail
      go_ret
      exact ⟨rfl, rfl⟩
    · have t0 : ((s : Int) == 0) = false := by simp; omega
      have t1 : ((s : Int) == 1) = false := by simp; omega
      have HF := Lib.hid (show decide (s ≤ 1) = false by simp; omega)
      rw [HF.out]
      clear h0 h1
      go_enter Try.func21, Try.ntmps21
      go_wp2_with fail
      go_ret
      exact ⟨rfl, rfl⟩

/-- The four cells of a token of a row. -/
theorem tok_cells {w : World} {base : Nat} {v : Value} {l : List Tok} (h : w.ownsRow base 67 4 v l.length (toks l)) {i : Nat} {t : Tok} (ht : l[i]? = some t) :
    ∃ g c, v = .slice (some ⟨g, 0, none⟩) l.length c ∧ g < w.heap.size ∧ w.cell? ⟨g, i * 4, none⟩ = some (.int .i64 t.kind) ∧ w.cell? ⟨g, i * 4 + 1, none⟩ = some (.int .i64 t.cmd) ∧ w.cell? ⟨g, i * 4 + 2, none⟩ = some (.int .i64 t.opt) ∧ w.cell? ⟨g, i * 4 + 3, none⟩ = some (.string ⟨t.text.toArray⟩) := by
  have hi : i < l.length := by
    rcases Nat.lt_or_ge i l.length with x | x
    · exact x
    · rw [List.getElem?_eq_none x] at ht; cases ht
  rcases h.2 with ⟨_, q⟩ | ⟨g, cap, cur, rfl, _, hg, _⟩
  · omega
  · have hc : ∀ k, k < 4 → w.cell? ⟨g, i * 4 + k, none⟩ = t.cells[k]? := fun k hk => by
      have h4 : t.cells[k]? = some (t.cells[k]'(by simpa [Tok.cells] using hk)) := List.getElem?_eq_getElem _
      have := h.cells (g := g) rfl (i * 4 + k) _ ((toks_at ht k hk).trans h4)
      rw [add_mk, Nat.zero_add] at this
      rw [this, h4]
    exact ⟨g, cap, rfl, lt_heap hg, hc 0 (by omega), hc 1 (by omega), hc 2 (by omega), hc 3 (by omega)⟩

end Go.Proofs.Ytopgejjencoelaa
