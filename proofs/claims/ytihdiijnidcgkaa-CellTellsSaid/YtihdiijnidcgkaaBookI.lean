/- pontoonbook's LentInts, StaysInts. Own work. -/
import Derived.Test.YtihdiijnidcgkaaBookI0
set_option linter.unusedVariables false
set_option linter.unusedSimpArgs false
namespace Go.Proofs.Ytihdiijnidcgkaa
set_option linter.unusedVariables false
open Go.RowKit

set_option maxRecDepth 100000 in
set_option maxHeartbeats 800000 in
theorem lent_Ints (A : Option Addr) (n c : Nat) (xs : List Int) (w : World) (h : Src w A n (xs.map (Value.int .i64))) (hn : n ≤ 1099511627776) :
    Calls Try.prog 8 #[.slice A n c] w fun e w' => ∃ g c', e = .returned (.slice (some ⟨g, 0, none⟩) n c') ∧ Lent w' 3 g c' (xs.map (Value.int .i64)) (.int .i64 (-77)) ∧ w.heap.size ≤ g ∧ Below w.heap.size w w' := by
  obtain ⟨i0, hi, hz0, hz1, hz2⟩ := info_parts int_info
  have hlen := Lib.hid (show xs.length = n from by have := h.1; rwa [List.length_map] at this)
  have H := Lib.hid h
  clear h
  go_enter Try.func8, Try.ntmps8
  go_wp2_with fail
  refine (copy_Ints A n c xs _ H.out hn).mono ?_
  rintro r w1 ⟨v, rfl, h1, h2⟩
  have H1 := Lib.hid h1
  have H2 := Lib.hid h2
  clear h1 h2
  go_wp2_with (at_builtin; refine wpList_append_own_at _ rfl (.tmp 4) (.tmp 5) 24 rfl w.heap.size 3 i0 (.int .i64 0) 1 8 Try.underlying24 hi hz0 hz1 hz2 rfl (by decide) v n (xs.map (Value.int .i64)) rfl (H1.out.alloc _) ⟨w1.heap.size, 0, none⟩ 1 1 [.int .i64 (-77)] rfl rfl (cell_one_new _ _ _) ?c2 ?c3 ?c4 ?c5 ?_)
  case c2 => intro u hu; simp at hu; subst hu; rfl
  case c3 => unfold maxLen; omega
  case c4 => omega
  case c5 => have := H2.out.size; simp; omega
  · intro v' w2 hown hgrow _ _
    obtain ⟨A2, c2, rfl, hA2⟩ := own_form hown
    obtain ⟨g, rfl⟩ := hA2 (by omega)
    have hcap : n + 1 ≤ c2 := by
      rcases hown.2 with ⟨q, _⟩ | ⟨g', cap, cur, q, _, _, q2, q3, _⟩
      · cases q
      · injection q with _ _ q4
        subst q4
        exact q2
    have hg := (hown.lt g rfl).1
    have HO : Hid (Lent w2 3 g c2 (xs.map (Value.int .i64)) (.int .i64 (-77))) := by
      show World.ownsRow _ _ _ _ _ _ _
      rw [List.length_map, hlen.out]
      exact ⟨hown.1, by
        rcases hown.2 with q | ⟨g', cap, cur, q1, q2, q3⟩
        · exact .inl q
        · exact .inr ⟨g', cap, cur, q1, Nat.zero_le _, q3⟩⟩
    have HB : Hid (Below w.heap.size w w2) := (H2.out.alloc H2.out.size _).grown hgrow (by have := H2.out.size; simp; omega) (fun k hk => (H1.out.lt k hk).1)
    clear hown hgrow
    go_wp2_with fail
    go_ret
    exact ⟨g, c2, rfl, HO.out, hg, HB.out⟩

set_option maxRecDepth 100000 in
set_option maxHeartbeats 800000 in
theorem stays_Ints (g c : Nat) (B : Option Addr) (n d : Nat) (xs : List Int) (w : World) (h : Lent w 3 g c (xs.map (Value.int .i64)) (.int .i64 (-77))) (hB : Src w B n (xs.map (Value.int .i64))) (hn : n ≤ 1099511627776) :
    Calls Try.prog 22 #[.slice (some ⟨g, 0, none⟩) n c, .slice B n d] w fun e w' => e = .returned (.bool true) ∧ ∃ k, w' = w.drewN k := by
  have hl : xs.length = n := by have := hB.1; rwa [List.length_map] at this
  have hA := h.src
  have hm := h.mark
  have hcap := h.cap.1
  rw [List.length_map, hl] at hA hm hcap
  have HS := Lib.hid (same_Ints (some ⟨g, 0, none⟩) B n c d xs w hA hB hn)
  clear hA hB h hl
  go_enter Try.func22, Try.ntmps22
  go_wp2_with fail
  refine HS.out.mono ?_
  rintro r w1 ⟨rfl, q, rfl⟩
  go_wp2_with fail
  go_ret
  exact ⟨rfl, q, rfl⟩

end Go.Proofs.Ytihdiijnidcgkaa
