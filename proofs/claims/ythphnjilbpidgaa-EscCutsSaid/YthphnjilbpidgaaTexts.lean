/- pontoonbook's copyTexts, SameTexts. Own work. pontoonbook's LentTexts, StaysTexts. Own work. -/
import Derived.Test.YthphnjilbpidgaaBase
set_option linter.unusedVariables false
set_option linter.unusedSimpArgs false
namespace Go.Proofs.Ythphnjilbpidgaa
set_option linter.unusedVariables false
open Go.RowKit

theorem one_Texts (xs : List ByteArray) : ∀ u ∈ xs.map (Value.string), u.oneCell' = true := by
  intro u hu
  obtain ⟨x, _, rfl⟩ := List.mem_map.1 hu
  rfl

set_option maxRecDepth 100000 in
set_option maxHeartbeats 800000 in
theorem copy_Texts (A : Option Addr) (n c : Nat) (xs : List ByteArray) (w : World) (h : Src w A n (xs.map (Value.string))) (hn : n ≤ 1099511627776) :
    Calls Try.prog 23 #[.slice A n c] w fun e w' => ∃ v, e = .returned v ∧ w'.ownsRow w.heap.size 9 1 v n (xs.map (Value.string)) ∧ Below w.heap.size w w' := by
  obtain ⟨i0, hi, hz0, hz1, hz2⟩ := info_parts string_info
  obtain ⟨v, w1, hr, h1, h2⟩ := run_copy_src (P := Try.prog) w 39 39 9 i0 (.string .empty) 16 Try.underlying39 hi hz0 hz1 hz2 rfl A n c _ h (one_Texts xs) (by unfold maxLen; omega) (by omega)
  have H1 := Lib.hid h1
  have H2 := Lib.hid h2
  have HR := Lib.hid hr
  clear h1 h2 h hr
  go_enter Try.func23, Try.ntmps23
  go_wp2_with (at_builtin; refine wpList_plain rfl fun K hK => ?_; unfold Oper.wp execOp; simp only [resolve, invoke, builtin, Sem.run_bind, Sem.run_pure, Result.andThen_ok, List.map_toArray, List.map_cons, List.map_nil]; rw [show (Builtin.append_ _ _ #[Act.eval _ _, Act.eval _ _]).run _ _ = _ from HR.out]; refine hK _ _ ?_)
  go_ret
  exact ⟨_, rfl, H1.out, H2.out⟩

set_option maxRecDepth 100000 in
set_option maxHeartbeats 1600000 in
theorem same_Texts (A B : Option Addr) (n c d : Nat) (xs : List ByteArray) (w : World) (hA : Src w A n (xs.map (Value.string))) (hB : Src w B n (xs.map (Value.string))) (hn : n ≤ 1099511627776) :
    Calls Try.prog 24 #[.slice A n c, .slice B n d] w fun e w' => e = .returned (.bool true) ∧ ∃ k, w' = w.drewN k := by
  have HA := Lib.hid hA
  have HB := Lib.hid hB
  have hl := Lib.hid (show xs.length = n from by have := hA.1; rwa [List.length_map] at this)
  clear hA hB
  go_enter Try.func24, Try.ntmps24
  go_wp2_with fail
  go_loopw [5] (fun i wr => ∃ (k q : Nat), i = .int .i64 k ∧ k ≤ n ∧ wr = w.drewN q) (fun i _ => n - (intOf i).toNat)
  case atStart => exact ⟨0, 0, rfl, by omega, rfl⟩
  case round =>
    obtain ⟨k, q, rfl, hk, rfl⟩ := hrel
    by_cases hlt : k < n
    · obtain ⟨x, hx⟩ : ∃ x, xs[k]? = some x := ⟨xs[k]'(by rw [hl.out]; exact hlt), List.getElem?_eq_getElem _⟩
      obtain ⟨b1, o1, rfl, _, hc1⟩ := HA.out.2 (by omega)
      obtain ⟨b2, o2, rfl, _, hc2⟩ := HB.out.2 (by omega)
      have hx1 : w.cell? ⟨b1, o1 + k, none⟩ = some (Value.string x) := hc1 k _ (by rw [List.getElem?_map, hx]; rfl)
      have hx2 : w.cell? ⟨b2, o2 + k, none⟩ = some (Value.string x) := hc2 k _ (by rw [List.getElem?_map, hx]; rfl)
      have hki : ((k : Int) < (n : Int)) := by omega
      have hk0 : (0 : Int) ≤ (k : Int) := by omega
      clear hc1 hc2 hx
      go_wp2_with fail
      go_quiet (fail)
      go_wp2_with fail
      go_roundw
      case rel => exact ⟨k + 1, _, by go_num, by omega, rfl⟩
      case measure => simp [intOf]; omega
    · go_wp2_with fail
      go_ret
      exact ⟨rfl, q, rfl⟩

end Go.Proofs.Ythphnjilbpidgaa
namespace Go.Proofs.Ythphnjilbpidgaa
set_option linter.unusedVariables false
open Go.RowKit

set_option maxRecDepth 100000 in
set_option maxHeartbeats 800000 in
theorem lent_Texts (A : Option Addr) (n c : Nat) (xs : List ByteArray) (w : World) (h : Src w A n (xs.map (Value.string))) (hn : n ≤ 1099511627776) :
    Calls Try.prog 13 #[.slice A n c] w fun e w' => ∃ g c', e = .returned (.slice (some ⟨g, 0, none⟩) n c') ∧ Lent w' 9 g c' (xs.map (Value.string)) (.string ⟨#[109, 97, 114, 107]⟩) ∧ w.heap.size ≤ g ∧ Below w.heap.size w w' := by
  obtain ⟨i0, hi, hz0, hz1, hz2⟩ := info_parts string_info
  have hlen := Lib.hid (show xs.length = n from by have := h.1; rwa [List.length_map] at this)
  have H := Lib.hid h
  clear h
  go_enter Try.func13, Try.ntmps13
  go_wp2_with fail
  refine (copy_Texts A n c xs _ H.out hn).mono ?_
  rintro r w1 ⟨v, rfl, h1, h2⟩
  have H1 := Lib.hid h1
  have H2 := Lib.hid h2
  clear h1 h2
  go_wp2_with (at_builtin; refine wpList_append_own_at _ rfl (.tmp 4) (.tmp 5) 39 rfl w.heap.size 9 i0 (.string .empty) 1 16 Try.underlying39 hi hz0 hz1 hz2 rfl (by decide) v n (xs.map (Value.string)) rfl (H1.out.alloc _) ⟨w1.heap.size, 0, none⟩ 1 1 [.string ⟨#[109, 97, 114, 107]⟩] rfl rfl (cell_one_new _ _ _) ?c2 ?c3 ?c4 ?c5 ?_)
  case c2 => intro u hu; simp at hu; subst hu; rfl
  case c3 => unfold maxLen; omega
  case c4 => omega
  case c5 => have := H2.out.size; simp; omega
  · intro v' w2 hown hgrow _ _
    obtain ⟨A2, c2, rfl, hA2⟩ := own_form hown
    obtain ⟨g, rfl⟩ := hA2 (by omega)
    have hcap : n + 1 ≤ c2 := by
      rcases hown.2 with ⟨q, _⟩ | ⟨g', cap, cur, q, _, _, q2, q3, _⟩
      · cases q
      · injection q with _ _ q4
        subst q4
        exact q2
    have hg := (hown.lt g rfl).1
    have HO : Hid (Lent w2 9 g c2 (xs.map (Value.string)) (.string ⟨#[109, 97, 114, 107]⟩)) := by
      show World.ownsRow _ _ _ _ _ _ _
      rw [List.length_map, hlen.out]
      exact ⟨hown.1, by
        rcases hown.2 with q | ⟨g', cap, cur, q1, q2, q3⟩
        · exact .inl q
        · exact .inr ⟨g', cap, cur, q1, Nat.zero_le _, q3⟩⟩
    have HB : Hid (Below w.heap.size w w2) := (H2.out.alloc H2.out.size _).grown hgrow (by have := H2.out.size; simp; omega) (fun k hk => (H1.out.lt k hk).1)
    clear hown hgrow
    go_wp2_with fail
    go_ret
    exact ⟨g, c2, rfl, HO.out, hg, HB.out⟩

set_option maxRecDepth 100000 in
set_option maxHeartbeats 800000 in
theorem stays_Texts (g c : Nat) (B : Option Addr) (n d : Nat) (xs : List ByteArray) (w : World) (h : Lent w 9 g c (xs.map (Value.string)) (.string ⟨#[109, 97, 114, 107]⟩)) (hB : Src w B n (xs.map (Value.string))) (hn : n ≤ 1099511627776) :
    Calls Try.prog 15 #[.slice (some ⟨g, 0, none⟩) n c, .slice B n d] w fun e w' => e = .returned (.bool true) ∧ ∃ k, w' = w.drewN k := by
  have hl : xs.length = n := by have := hB.1; rwa [List.length_map] at this
  have hA := h.src
  have hm := h.mark
  have hcap := h.cap.1
  rw [List.length_map, hl] at hA hm hcap
  have HS := Lib.hid (same_Texts (some ⟨g, 0, none⟩) B n c d xs w hA hB hn)
  clear hA hB h hl
  go_enter Try.func15, Try.ntmps15
  go_wp2_with fail
  refine HS.out.mono ?_
  rintro r w1 ⟨rfl, q, rfl⟩
  go_wp2_with fail
  go_ret
  exact ⟨rfl, q, rfl⟩

end Go.Proofs.Ythphnjilbpidgaa
