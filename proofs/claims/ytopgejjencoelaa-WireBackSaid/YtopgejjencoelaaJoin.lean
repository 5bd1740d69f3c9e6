/- pontoonbook's Join. Own work. -/
import Derived.Test.YtopgejjencoelaaProg
import Derived.Test.YtopgejjencoelaaBase
set_option linter.unusedVariables false
set_option linter.unusedSimpArgs false
namespace Go.Proofs.Ytopgejjencoelaa
set_option linter.unusedVariables false
open Go.RowKit

set_option maxRecDepth 100000 in
set_option maxHeartbeats 800000 in
theorem join_any (A : Option Addr) (n c : Nat) (xs : List ByteArray) (w : World) (h : Src w A n (xs.map Value.string)) (hn : n ≤ 1099511627776) (hs : sum xs ≤ 1099511627776) :
    Calls Try.prog 9 #[.slice A n c] w fun e w' => e = .returned (.string ⟨(joinL xs).toArray⟩) ∧ w = w' := by
  have H := Lib.hid h
  have hl := Lib.hid (show xs.length = n from by have := h.1; rwa [List.length_map] at this)
  clear h
  go_enter Try.func9, Try.ntmps9
  go_wp2_with fail
  go_loop [3, 4] (fun v i => ∃ k : Nat, i = .int .i64 k ∧ k ≤ n ∧ v = .string ⟨(joinL (xs.take k)).toArray⟩) (fun _ i => n - (intOf i).toNat)
  case atStart => exact ⟨0, rfl, by omega, rfl⟩
  case round =>
    obtain ⟨k, rfl, hk, rfl⟩ := hrel
    by_cases hlt : k < n
    · obtain ⟨x, hx⟩ : ∃ x, xs[k]? = some x := ⟨xs[k]'(by rw [hl.out]; exact hlt), List.getElem?_eq_getElem _⟩
      obtain ⟨b, o, rfl, _, hc⟩ := H.out.2 (by omega)
      have hcx : w.cell? ⟨b, o + k, none⟩ = some (.string x) := hc k _ (by rw [List.getElem?_map, hx]; rfl)
      have e1 := Lib.hid (show joinL (xs.take (k + 1)) = joinL (xs.take k) ++ x.data.toList from by rw [take_next hx, joinL_snoc])
      have e2 : sum (xs.take (k + 1)) = sum (xs.take k) + x.size := by rw [take_next hx, sum_snoc]
      have e3 := sum_take xs (k + 1)
      have hz : (⟨(joinL (xs.take k)).toArray⟩ : ByteArray).size + x.size ≤ 9223372036854775807 := by rw [size_mk, joinL_len]; omega
      have HM := Lib.hid (mk_add' (joinL (xs.take k)) x)
      clear hc hx e2 e3
      go_wp2_with fail
      go_round
      case rel => exact ⟨k + 1, by go_num, by omega, by rw [e1.out, ← HM.out]⟩
      case measure => simp [intOf]; omega
    · go_wp2_with fail
      go_ret
      rw [List.take_of_length_le (by rw [hl.out]; omega)]
      exact ⟨rfl, rfl⟩

end Go.Proofs.Ytopgejjencoelaa
