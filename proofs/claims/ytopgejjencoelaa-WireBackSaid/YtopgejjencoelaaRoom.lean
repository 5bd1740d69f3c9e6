/- pontoonbook's Room. Own work. -/
import Derived.Test.YtopgejjencoelaaProg
import Derived.Test.YtopgejjencoelaaBase
set_option linter.unusedVariables false
set_option linter.unusedSimpArgs false
namespace Go.Proofs.Ytopgejjencoelaa
set_option linter.unusedVariables false
open Go.RowKit

set_option maxRecDepth 100000 in
set_option maxHeartbeats 800000 in
theorem room_any (B : Option Addr) (n cap : Nat) (xs : List Int) (l : Int) (w : World) (hx : SliceAt w B (xs.map (Value.int .i64)) (fun _ => False)) (hn : xs.length = n) (hxs : ∀ x ∈ xs, 0 ≤ x ∧ x ≤ 9223372036854775807) (hl0 : -1 ≤ l) (hl1 : l ≤ 9223372036854775807) (hsm : n ≤ 9223372036854775807) :
    Calls Try.prog 22 #[.int .i64 l, .slice B n cap] w fun r w' => r = .returned (.int .i64 (roomF l xs)) ∧ w = w' := by
  have HX := Lib.hid hx
  have HN := Lib.hid hn
  have HB := Lib.hid hxs
  clear hx hn hxs
  go_enter Try.func22, Try.ntmps22
  go_wp2_with fail
  go_loop [0, 5] (fun a i => ∃ (k : Nat) (m : Int), k ≤ n ∧ i = .int .i64 k ∧ a = .int .i64 m ∧ -1 ≤ m ∧ m ≤ 9223372036854775807 ∧ Hid (roomF m (xs.drop k) = roomF l xs)) (fun _ i => n - (intOf i).toNat)
  case atStart => exact ⟨0, l, by omega, rfl, rfl, hl0, hl1, rfl⟩
  case round =>
    obtain ⟨k, m, hk, rfl, rfl, hm0, hm1, hd⟩ := hrel
    by_cases hlt : k < n
    · obtain ⟨x, hxk⟩ : ∃ x, xs[k]? = some x := ⟨xs[k]'(by rw [HN.out]; exact hlt), List.getElem?_eq_getElem _⟩
      obtain ⟨b, off, rfl, hb, hs, hc⟩ := HX.out (by rw [List.length_map, HN.out]; omega)
      have hcx : w.cell? ⟨b, off + k, none⟩ = some (.int .i64 x) := hc k _ (by rw [List.getElem?_map, hxk]; rfl)
      obtain ⟨hx0, hx1⟩ := HB.out x (List.mem_of_getElem? hxk)
      have H1 := Lib.hid (drop_next hxk)
      clear hc hs hb hxk
      by_cases hneg : m < 0
      · go_wp2
        go_ret
        have h2 := hd.out
        rw [H1.out, roomF_neg m x _ (.inl hneg)] at h2
        rw [← h2]; exact ⟨rfl, rfl⟩
      · by_cases hbig : m < x
        · go_wp2
          go_ret
          have h2 := hd.out
          rw [H1.out, roomF_neg m x _ (.inr hbig)] at h2
          rw [← h2]; exact ⟨rfl, rfl⟩
        · go_wp2
          go_round
          case rel =>
            have h2 := hd.out
            rw [H1.out, roomF_go m x _ (by omega) (by omega)] at h2
            exact ⟨k + 1, m - x, by omega, by go_num, by go_num, by omega, by omega, h2⟩
          case measure => simp [intOf]; omega
    · go_wp2
      go_ret
      have h2 := hd.out
      rw [List.drop_of_length_le (by rw [HN.out]; omega)] at h2
      rw [← h2]; exact ⟨rfl, rfl⟩

end Go.Proofs.Ytopgejjencoelaa
