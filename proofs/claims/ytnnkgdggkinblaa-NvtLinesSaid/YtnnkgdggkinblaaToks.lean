/- Whole, Sub; SameTokens. Own work. -/
import Derived.Test.YtnnkgdggkinblaaFeed
import Derived.Deep.QuietTactic
import Derived.BigQuiet
namespace Go.Proofs.Ytnnkgdggkinblaa
set_option linter.unusedVariables false
set_option linter.unusedSimpArgs false
open Go.RowKit

/-- Whole. -/
def wholeL (r : Rd) : Bool := decide (r.at' ≤ 1)

set_option maxHeartbeats 400000 in
theorem whole_any (p : Nat) (bin made : Bool) (r : Rd) (A : Option Addr) (c : Nat) (w : World) (h : RdIn w p bin made r A c) :
    Calls Try.prog 14 #[.pointer (some ⟨p, 0, none⟩)] w fun e w' => e = .returned (.bool (wholeL r)) ∧ w = w' := by
  have c1 := h.c1.1
  obtain ⟨s, hs⟩ : ∃ s, s = r.at' := ⟨_, rfl⟩
  have HW : Hid (wholeL r = decide (s ≤ 1)) := by show _ = _; rw [hs]; rfl
  rw [HW.out]
  rw [← hs] at c1
  clear h hs
  by_cases h0 : s = 0
  · subst h0
    go_enter Try.func14, Try.ntmps14
    go_wp2_with fail
    go_ret
    exact ⟨rfl, rfl⟩
  · by_cases h1 : s = 1
    · subst h1
      clear h0
      go_enter Try.func14, Try.ntmps14
      go_wp2_with fail
      go_ret
      exact ⟨rfl, rfl⟩
    · have t0 : ((s : Int) == 0) = false := by simp; omega
      have t1 : ((s : Int) == 1) = false := by simp; omega
      have HF := Lib.hid (show decide (s ≤ 1) = false by simp; omega)
      rw [HF.out]
      clear h0 h1
      go_enter Try.func14, Try.ntmps14
      go_wp2_with fail
      go_ret
      exact ⟨rfl, rfl⟩

set_option maxHeartbeats 400000 in
theorem sub_any (p : Nat) (bin made : Bool) (r : Rd) (A : Option Addr) (c : Nat) (w : World) (h : RdIn w p bin made r A c) :
    Calls Try.prog 15 #[.pointer (some ⟨p, 0, none⟩)] w fun e w' => e = .returned (.int .i64 (r.text.length : Int)) ∧ w = w' := by
  have c4 := h.c4.1
  clear h
  go_enter Try.func15, Try.ntmps15
  go_wp2_with fail
  go_ret
  exact ⟨rfl, rfl⟩

/-- The four cells of a token of a row. -/
theorem tok_cells {w : World} {base : Nat} {v : Value} {l : List Tok} (h : w.ownsRow base 60 4 v l.length (toks l)) {i : Nat} {t : Tok} (ht : l[i]? = some t) :
    ∃ g c, v = .slice (some ⟨g, 0, none⟩) l.length c ∧ g < w.heap.size ∧ w.cell? ⟨g, i * 4, none⟩ = some (.int .i64 t.kind) ∧ w.cell? ⟨g, i * 4 + 1, none⟩ = some (.int .i64 t.cmd) ∧ w.cell? ⟨g, i * 4 + 2, none⟩ = some (.int .i64 t.opt) ∧ w.cell? ⟨g, i * 4 + 3, none⟩ = some (.string ⟨t.text.toArray⟩) := by
  have hi : i < l.length := by
    rcases Nat.lt_or_ge i l.length with x | x
    · exact x
    · rw [List.getElem?_eq_none x] at ht; cases ht
  rcases h.2 with ⟨_, q⟩ | ⟨g, cap, cur, rfl, _, hg, _⟩
  · omega
  · have hc : ∀ k, k < 4 → w.cell? ⟨g, i * 4 + k, none⟩ = t.cells[k]? := fun k hk => by
      have h4 : t.cells[k]? = some (t.cells[k]'(by simpa [Tok.cells] using hk)) := List.getElem?_eq_getElem _
      have := h.cells (g := g) rfl (i * 4 + k) _ ((toks_at ht k hk).trans h4)
      rw [add_mk, Nat.zero_add] at this
      rw [this, h4]
    exact ⟨g, cap, rfl, lt_heap hg, hc 0 (by omega), hc 1 (by omega), hc 2 (by omega), hc 3 (by omega)⟩

set_option maxRecDepth 100000 in
set_option maxHeartbeats 1600000 in
theorem same_Toks (b1 b2 : Nat) (v1 v2 : Value) (l : List Tok) (w : World) (h1 : w.ownsRow b1 60 4 v1 l.length (toks l)) (h2 : w.ownsRow b2 60 4 v2 l.length (toks l)) (hn : l.length ≤ 1099511627776) :
    Calls Try.prog 11 #[v1, v2] w fun e w' => e = .returned (.bool true) ∧ ∃ k, w' = w.drewN k := by
  obtain ⟨A1, c1, rfl, _⟩ := own_form h1
  obtain ⟨A2, c2, rfl, _⟩ := own_form h2
  have H1 := Lib.hid h1
  have H2 := Lib.hid h2
  clear h1 h2
  go_enter Try.func11, Try.ntmps11
  go_wp2_with fail
  go_loopw [5] (fun i wr => ∃ (k q : Nat), i = .int .i64 k ∧ k ≤ l.length ∧ wr = w.drewN q) (fun i _ => l.length - (intOf i).toNat)
  case atStart => exact ⟨0, 0, rfl, by omega, rfl⟩
  case round =>
    obtain ⟨k, q, rfl, hk, rfl⟩ := hrel
    by_cases hlt : k < l.length
    · obtain ⟨t, ht⟩ : ∃ t, l[k]? = some t := ⟨_, List.getElem?_eq_getElem hlt⟩
      obtain ⟨g1, d1, e1, hg1, p0, p1, p2, p3⟩ := tok_cells H1.out ht
      obtain ⟨g2, d2, e2, hg2, q0, q1, q2, q3⟩ := tok_cells H2.out ht
      injection e1 with e1 _ e3
      injection e2 with e2 _ e4
      subst e1 e2 e3 e4
      have hki : ((k : Int) < (l.length : Int)) := by omega
      have hk0 : (0 : Int) ≤ (k : Int) := by omega
      obtain ⟨T, hT⟩ : ∃ T : ByteArray, T = ⟨t.text.toArray⟩ := ⟨_, rfl⟩
      rw [← hT] at p3 q3
      clear ht hT
      go_wp2_with fail
      go_quiet (fail)
      go_wp2_with fail
      go_roundw
      case rel => exact ⟨k + 1, _, by go_num, by omega, rfl⟩
      case measure => simp [intOf]; omega
    · go_wp2_with fail
      go_ret
      exact ⟨rfl, q, rfl⟩

end Go.Proofs.Ytnnkgdggkinblaa
