/- utf.Text (of a seat without Readers). Own work. -/
import Derived.Test.YtbjdcbnmpmcdiaaUtfM
import Derived.Laws.Cover4
namespace Go.Proofs.Ytbjdcbnmpmcdiaa
set_option linter.unusedVariables false
set_option linter.unusedSimpArgs false
open Go.RowKit

set_option maxHeartbeats 800000 in
theorem utf_text (A : Option Addr) (n c : Nat) (l : List Int) (w : World) (h : Src w A n (l.map (Value.int .i32))) :
    Calls Try.prog 92 #[.slice A n c] w fun e w' => e = .returned (.string (runesBytes l)) ∧ w' = w := by
  have hln : l.length = n := by have := h.1; rwa [List.length_map] at this
  have hcv : (convert 107 9 (.slice A n c)).run Try.prog w = .ok (.string (runesBytes l)) w := by
    rcases A with _ | ad
    · have hn : n = 0 := by
        rcases Nat.eq_zero_or_pos n with h0 | h0
        · exact h0
        · obtain ⟨b, off, e, _⟩ := h.2 h0; cases e
      have hl : l = [] := List.eq_nil_of_length_eq_zero (by omega)
      subst hl
      exact run_convert_runes_nil w 107 9 21 n c Try.underlying107 Try.underlying21 Try.underlying9
    · have := run_convert_runes (P := Try.prog) w 107 9 21 ad n c l (by omega) Try.underlying107 Try.underlying21 Try.underlying9 (fun j hj => by
        obtain ⟨b, off, e, _, hc⟩ := h.2 (by omega)
        injection e with e
        subst e
        rw [add_mk, List.getD_eq_getElem?_getD, List.getElem?_eq_getElem hj, Option.getD_some]
        exact hc j _ (by rw [List.getElem?_map, List.getElem?_eq_getElem hj]; rfl))
      rwa [List.take_of_length_le (by omega)] at this
  clear h hln
  go_enter Try.func92, Try.ntmps92
  go_wp2_with fail
  go_ret
  exact ⟨rfl, rfl⟩

end Go.Proofs.Ytbjdcbnmpmcdiaa
