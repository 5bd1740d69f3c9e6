/- utf.Text; the law's alive. Own work. -/
import Derived.Test.YtoihadjboeeglaaUtfF
import Derived.Laws.Cover4
namespace Go.Proofs.Ytoihadjboeeglaa
set_option linter.unusedVariables false
set_option linter.unusedSimpArgs false
open Go.RowKit

set_option maxHeartbeats 800000 in
theorem utf_text (A : Option Addr) (n c : Nat) (l : List Int) (w : World) (h : Src w A n (l.map (Value.int .i32))) :
    Calls Try.prog 21 #[.slice A n c] w fun e w' => e = .returned (.string (runesBytes l)) ∧ w' = w := by
  have hln : l.length = n := by have := h.1; rwa [List.length_map] at this
  have hcv : (convert 46 9 (.slice A n c)).run Try.prog w = .ok (.string (runesBytes l)) w := by
    rcases A with _ | ad
    · have hn : n = 0 := by
        rcases Nat.eq_zero_or_pos n with h0 | h0
        · exact h0
        · obtain ⟨b, off, e, _⟩ := h.2 h0; cases e
      have hl : l = [] := List.eq_nil_of_length_eq_zero (by omega)
      subst hl
      exact run_convert_runes_nil w 46 9 21 n c Try.underlying46 Try.underlying21 Try.underlying9
    · have := run_convert_runes (P := Try.prog) w 46 9 21 ad n c l (by omega) Try.underlying46 Try.underlying21 Try.underlying9 (fun j hj => by
        obtain ⟨b, off, e, _, hc⟩ := h.2 (by omega)
        injection e with e
        subst e
        rw [add_mk, List.getD_eq_getElem?_getD, List.getElem?_eq_getElem hj, Option.getD_some]
        exact hc j _ (by rw [List.getElem?_map, List.getElem?_eq_getElem hj]; rfl))
      rwa [List.take_of_length_le (by omega)] at this
  clear h hln
  go_enter Try.func21, Try.ntmps21
  go_wp2_with fail
  go_ret
  exact ⟨rfl, rfl⟩

/-- A row of runes: its cells. -/
theorem rune_cells {w : World} {B : Nat} {e : TypeId} {v : Value} {n : Nat} {xs : List Int} (h : w.ownsRow B e 1 v n (xs.map (Value.int .i32))) (h0 : 0 < n) :
    ∃ g c, v = .slice (some ⟨g, 0, none⟩) n c ∧ B ≤ g ∧ g < w.heap.size ∧ ∀ i x, xs[i]? = some x → w.cell? ⟨g, i, none⟩ = some (.int .i32 x) := by
  obtain ⟨A, c, rfl, hA⟩ := own_form h
  obtain ⟨g, rfl⟩ := hA h0
  have hl := h.lt g rfl
  refine ⟨g, c, rfl, hl.1, hl.2, fun i x hx => ?_⟩
  have := World.ownsRow.cells h (g := g) rfl i (.int .i32 x) (by rw [List.getElem?_map, hx]; rfl)
  rwa [add_mk, Nat.zero_add] at this

theorem alive_fed : feedsU .z [⟨#[226, 130]⟩, ⟨#[65, 195, 169]⟩] = (.z, [65533, 65, 233]) := by decide +kernel
theorem alive_text : runesBytes [8364] = ⟨#[226, 130, 172]⟩ := by decide +kernel

set_option maxRecDepth 100000 in
set_option maxHeartbeats 1600000 in
theorem alive_any (w : World) : Calls Try.prog 9 #[] w fun e w' => e = .returned (.bool true) ∧ Below w.heap.size w w' := by
  go_enter Try.func9, Try.ntmps9
  go_wp2_with fail
  have hf := utf_feed w.heap.size 0 .z (some ⟨w.heap.size + 1, 0, none⟩) 2 2 [⟨#[226, 130]⟩, ⟨#[65, 195, 169]⟩] _ ((RdU.made w 28).alloc (.cells #[.string ⟨#[226, 130]⟩, .string ⟨#[65, 195, 169]⟩] 9))
    (src_new (w.alloc (.cells #[.int .i32 0, .int .i64 0, .int .i64 0, .int .u8 0, .int .u8 0] 28)) [.string ⟨#[226, 130]⟩, .string ⟨#[65, 195, 169]⟩] 9 (w.heap.size + 1) (by simp) 2 rfl) (fun _ e => by simp [blk] at e) (by omega) (by decide)
  rw [alive_fed] at hf
  refine hf.mono ?_
  rintro e w1 ⟨v, rfl, h1, h2, h3⟩
  obtain ⟨g, cg, rfl, -, hg, hc⟩ := rune_cells h1 (by simp)
  have d0 : w1.cell? ⟨g, 0, none⟩ = some (.int .i32 65533) := hc 0 _ rfl
  have d1 : w1.cell? ⟨g, 1, none⟩ = some (.int .i32 65) := hc 1 _ rfl
  have d2 : w1.cell? ⟨g, 2, none⟩ = some (.int .i32 233) := hc 2 _ rfl
  have H2 := Lib.hid h2
  have HB : Hid (Below w.heap.size w w1) := by
    have := ((((Below.refl w.heap.size w).alloc (Nat.le_refl _) (.cells #[.int .i32 0, .int .i64 0, .int .i64 0, .int .u8 0, .int .u8 0] 28)).alloc (by simp) (.cells #[.string ⟨#[226, 130]⟩, .string ⟨#[65, 195, 169]⟩] 9)).trans (h3.below (by simp; omega) (fun k hk e => by omega)))
    exact this
  clear h1 h2 h3 hc hf
  go_wp2_with fail
  refine (utf_half _ _ _ _ H2.out).mono ?_
  rintro e w2 ⟨rfl, rfl⟩
  go_wp2_with fail
  refine (utf_text _ 1 1 [8364] _ (src_new w2 [.int .i32 8364] 21 w2.heap.size rfl 1 rfl)).mono ?_
  rintro e w3 ⟨rfl, rfl⟩
  rw [alive_text]
  go_wp2_with fail
  go_ret
  exact ⟨rfl, HB.out.alloc HB.out.size _⟩

end Go.Proofs.Ytoihadjboeeglaa
