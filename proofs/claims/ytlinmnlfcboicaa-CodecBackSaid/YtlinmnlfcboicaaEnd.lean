/- codec.Out's End; nil writers and readers. Own work. -/
import Derived.Test.YtlinmnlfcboicaaOut
import Derived.Lib.BufferRead
import Derived.Deep.QuietTactic
import Derived.BigQuiet
namespace Go.Proofs.Ytlinmnlfcboicaa
set_option linter.unusedVariables false
open Go.RowKit

/-- string(row): the bytes that are owned. -/
theorem run_own_string {P : Program} {w : World} {base e t u c : Nat} {A : Option Addr} {l : List UInt8} (h : w.ownsRow base e 1 (.slice A l.length c) l.length (Lib.byteCells l))
    (ht : P.underlying t = some (.slice e)) (he : P.underlying e = some (.int .u8)) (hu : P.underlying u = some .string) : (convert t u (.slice A l.length c)).run P w = .ok (.string ⟨l.toArray⟩) w := by
  rcases h.2 with ⟨h1, h2⟩ | ⟨g, cap, cur, h1, _, hg, _, _, _, htk⟩
  · injection h1 with hA hn hc
    have hl : l = [] := List.eq_nil_of_length_eq_zero hn
    subst hA hl hc
    exact Lib.run_convert_nil_bytes w t u e 0 ht he hu
  · injection h1 with hA hn hc
    subst hA hc
    exact run_convert_bytes_back w t u e _ _ l ht he hu (Lib.bytes_of_row hg (by simpa using htk))

set_option maxRecDepth 100000 in
set_option maxHeartbeats 400000 in
/-- End: the bytes, or the error. -/
theorem outend_any (p : Nat) (A : Option Addr) (c : Nat) (l : List UInt8) (e : Int) (w : World) (h : OutAt w p A c l e) :
    Calls Try.prog 21 #[.pointer (some ⟨p, 0, none⟩)] w fun r w' => r = .returned (.tuple #[.string ⟨l.toArray⟩, .int .i64 e]) ∧ ∃ n, w' = w.drewN n := by
  have c0 := h.c0
  have c1 := h.c1
  have hconv : ∀ nq, (convert 26 9 (.slice A l.length c)).run Try.prog (w.drewN nq) = .ok (.string ⟨l.toArray⟩) (w.drewN nq) := fun nq =>
    run_own_string (w := w.drewN nq) (base := 0) h.2 Try.underlying26 Try.underlying5 Try.underlying9
  clear h
  go_enter Try.func21, Try.ntmps21
  go_wp2
  go_quiet (fail)
  go_wp2
  go_ret2
  exact ⟨rfl, _, rfl⟩

/-! ### nil writers -/
set_option maxHeartbeats 400000 in
theorem outopen_nil (w : World) : Calls Try.prog 42 #[.pointer none] w fun r w' => r = .returned (.bool false) ∧ w = w' := by
  go_enter Try.func42, Try.ntmps42
  go_wp2
  go_ret
  exact ⟨rfl, rfl⟩
set_option maxHeartbeats 400000 in
theorem outfail_nil (f : Int) (w : World) : Calls Try.prog 41 #[.pointer none, .int .i64 f] w fun r w' => r = .returned (.tuple #[]) ∧ w = w' := by
  go_enter Try.func41, Try.ntmps41
  go_wp2_with (go_at_call 42; refine (outopen_nil _).mono ?_; rintro e w1 ⟨rfl, rfl⟩)
  go_end0
  exact ⟨rfl, rfl⟩
set_option maxRecDepth 100000 in
set_option maxHeartbeats 400000 in
theorem outnum_nil (n : Int) (w : World) : Calls Try.prog 40 #[.pointer none, .int .i64 n] w fun r w' => r = .returned (.tuple #[]) ∧ w = w' := by
  go_enter Try.func40, Try.ntmps40
  go_wp2_with (first | (go_at_call 42; refine (outopen_nil _).mono ?_; rintro e w1 ⟨rfl, rfl⟩) | (go_at_call 41; refine (outfail_nil _ _).mono ?_; rintro e w1 ⟨rfl, rfl⟩))
  all_goals
    refine bodyPost_ret (results_none rfl _ _ _) rfl ?_
    exact ⟨rfl, rfl⟩
set_option maxHeartbeats 400000 in
theorem outraw_nil (s : ByteArray) (w : World) : Calls Try.prog 43 #[.pointer none, .string s] w fun r w' => r = .returned (.tuple #[]) ∧ w = w' := by
  go_enter Try.func43, Try.ntmps43
  go_wp2_with (go_at_call 42; refine (outopen_nil _).mono ?_; rintro e w1 ⟨rfl, rfl⟩)
  go_end0
  exact ⟨rfl, rfl⟩
set_option maxHeartbeats 400000 in
theorem outend_nil (w : World) : Calls Try.prog 21 #[.pointer none] w fun r w' => r = .returned (.tuple #[.string .empty, .int .i64 1]) ∧ w = w' := by
  go_enter Try.func21, Try.ntmps21
  go_wp2
  go_ret2
  exact ⟨rfl, rfl⟩

set_option maxRecDepth 100000 in
set_option maxHeartbeats 800000 in
theorem outNum_nil (B : Option Addr) (n cap : Nat) (xs : List Int) (w : World) (hx : SliceAt w B (xs.map (Value.int .i64)) (fun _ => False)) (hn : xs.length = n) (hsm : n ≤ 9223372036854775807) :
    Calls Try.prog 14 #[.pointer none, .slice B n cap] w fun r w' => r = .returned (.pointer none) ∧ w = w' := by
  have HX := Lib.hid hx
  have HN := Lib.hid hn
  clear hx hn
  go_enter Try.func14, Try.ntmps14
  go_wp2_with fail
  go_loop [6, 9] (fun _ i => ∃ k : Nat, k ≤ n ∧ i = .int .i64 k) (fun _ i => n - (intOf i).toNat)
  case atStart => exact ⟨0, by omega, rfl⟩
  case round =>
    obtain ⟨k, hk, rfl⟩ := hrel
    by_cases hlt : k < n
    · obtain ⟨x, hxk⟩ : ∃ x, xs[k]? = some x := ⟨xs[k]'(by rw [HN.out]; exact hlt), List.getElem?_eq_getElem _⟩
      obtain ⟨b, off, rfl, hb, hs, hc⟩ := HX.out (by rw [List.length_map, HN.out]; omega)
      have hcx : w.cell? ⟨b, off + k, none⟩ = some (.int .i64 x) := hc k _ (by rw [List.getElem?_map, hxk]; rfl)
      clear hc hs hb hxk
      go_wp2_with (go_at_call 40; refine (outnum_nil _ _).mono ?_; rintro e w1 ⟨rfl, rfl⟩)
      all_goals
        go_round
        case rel => exact ⟨k + 1, by omega, by go_num⟩
        case measure => simp [intOf]; omega
    · go_wp2
      go_ret
      exact ⟨rfl, rfl⟩

set_option maxRecDepth 100000 in
set_option maxHeartbeats 800000 in
theorem outByte_nil (B : Option Addr) (n cap : Nat) (xs : List Int) (w : World) (hx : SliceAt w B (xs.map (Value.int .i64)) (fun _ => False)) (hn : xs.length = n) (hsm : n ≤ 9223372036854775807) :
    Calls Try.prog 16 #[.pointer none, .slice B n cap] w fun r w' => r = .returned (.pointer none) ∧ w = w' := by
  have HX := Lib.hid hx
  have HN := Lib.hid hn
  clear hx hn
  go_enter Try.func16, Try.ntmps16
  go_wp2_with fail
  go_loop [6, 9] (fun _ i => ∃ k : Nat, k ≤ n ∧ i = .int .i64 k) (fun _ i => n - (intOf i).toNat)
  case atStart => exact ⟨0, by omega, rfl⟩
  case round =>
    obtain ⟨k, hk, rfl⟩ := hrel
    by_cases hlt : k < n
    · obtain ⟨x, hxk⟩ : ∃ x, xs[k]? = some x := ⟨xs[k]'(by rw [HN.out]; exact hlt), List.getElem?_eq_getElem _⟩
      obtain ⟨b, off, rfl, hb, hs, hc⟩ := HX.out (by rw [List.length_map, HN.out]; omega)
      have hcx : w.cell? ⟨b, off + k, none⟩ = some (.int .i64 x) := hc k _ (by rw [List.getElem?_map, hxk]; rfl)
      clear hc hs hb hxk
      go_wp2_with (first | (go_at_call 42; refine (outopen_nil _).mono ?_; rintro e w1 ⟨rfl, rfl⟩) | (go_at_call 41; refine (outfail_nil _ _).mono ?_; rintro e w1 ⟨rfl, rfl⟩))
      all_goals
        go_round
        case rel => exact ⟨k + 1, by omega, by go_num⟩
        case measure => simp [intOf]; omega
    · go_wp2
      go_ret
      exact ⟨rfl, rfl⟩

set_option maxRecDepth 100000 in
set_option maxHeartbeats 800000 in
theorem outRaw_nil (B : Option Addr) (n cap : Nat) (xs : List ByteArray) (w : World) (hx : SliceAt w B (xs.map (Value.string)) (fun _ => False)) (hn : xs.length = n) (hsm : n ≤ 9223372036854775807) :
    Calls Try.prog 19 #[.pointer none, .slice B n cap] w fun r w' => r = .returned (.pointer none) ∧ w = w' := by
  have HX := Lib.hid hx
  have HN := Lib.hid hn
  clear hx hn
  go_enter Try.func19, Try.ntmps19
  go_wp2_with fail
  go_loop [6, 9] (fun _ i => ∃ k : Nat, k ≤ n ∧ i = .int .i64 k) (fun _ i => n - (intOf i).toNat)
  case atStart => exact ⟨0, by omega, rfl⟩
  case round =>
    obtain ⟨k, hk, rfl⟩ := hrel
    by_cases hlt : k < n
    · obtain ⟨x, hxk⟩ : ∃ x, xs[k]? = some x := ⟨xs[k]'(by rw [HN.out]; exact hlt), List.getElem?_eq_getElem _⟩
      obtain ⟨b, off, rfl, hb, hs, hc⟩ := HX.out (by rw [List.length_map, HN.out]; omega)
      have hcx : w.cell? ⟨b, off + k, none⟩ = some (.string x) := hc k _ (by rw [List.getElem?_map, hxk]; rfl)
      clear hc hs hb hxk
      go_wp2_with (go_at_call 43; refine (outraw_nil _ _).mono ?_; rintro e w1 ⟨rfl, rfl⟩)
      all_goals
        go_round
        case rel => exact ⟨k + 1, by omega, by go_num⟩
        case measure => simp [intOf]; omega
    · go_wp2
      go_ret
      exact ⟨rfl, rfl⟩

set_option maxRecDepth 100000 in
set_option maxHeartbeats 800000 in
theorem outText_nil (B : Option Addr) (n cap : Nat) (xs : List ByteArray) (w : World) (hx : SliceAt w B (xs.map (Value.string)) (fun _ => False)) (hn : xs.length = n) (hsm : n ≤ 9223372036854775807) :
    Calls Try.prog 17 #[.pointer none, .slice B n cap] w fun r w' => r = .returned (.pointer none) ∧ w = w' := by
  have HX := Lib.hid hx
  have HN := Lib.hid hn
  clear hx hn
  go_enter Try.func17, Try.ntmps17
  go_wp2_with fail
  go_loop [6, 9] (fun _ i => ∃ k : Nat, k ≤ n ∧ i = .int .i64 k) (fun _ i => n - (intOf i).toNat)
  case atStart => exact ⟨0, by omega, rfl⟩
  case round =>
    obtain ⟨k, hk, rfl⟩ := hrel
    by_cases hlt : k < n
    · obtain ⟨x, hxk⟩ : ∃ x, xs[k]? = some x := ⟨xs[k]'(by rw [HN.out]; exact hlt), List.getElem?_eq_getElem _⟩
      obtain ⟨b, off, rfl, hb, hs, hc⟩ := HX.out (by rw [List.length_map, HN.out]; omega)
      have hcx : w.cell? ⟨b, off + k, none⟩ = some (.string x) := hc k _ (by rw [List.getElem?_map, hxk]; rfl)
      clear hc hs hb hxk
      go_wp2_with (first | (go_at_call 40; refine (outnum_nil _ _).mono ?_; rintro e w1 ⟨rfl, rfl⟩) | (go_at_call 43; refine (outraw_nil _ _).mono ?_; rintro e w1 ⟨rfl, rfl⟩))
      all_goals
        go_round
        case rel => exact ⟨k + 1, by omega, by go_num⟩
        case measure => simp [intOf]; omega
    · go_wp2
      go_ret
      exact ⟨rfl, rfl⟩

/-! ### nil readers -/
set_option maxHeartbeats 400000 in
theorem innum_nil (w : World) : Calls Try.prog 25 #[.pointer none] w fun r w' => r = .returned (.int .i64 0) ∧ w = w' := by
  go_enter Try.func25, Try.ntmps25
  go_wp2
  go_ret
  exact ⟨rfl, rfl⟩
set_option maxHeartbeats 400000 in
theorem inleft_nil (w : World) : Calls Try.prog 33 #[.pointer none] w fun r w' => r = .returned (.int .i64 0) ∧ w = w' := by
  go_enter Try.func33, Try.ntmps33
  go_wp2
  go_ret
  exact ⟨rfl, rfl⟩
set_option maxHeartbeats 400000 in
theorem inend_nil (w : World) : Calls Try.prog 35 #[.pointer none] w fun r w' => r = .returned (.int .i64 1) ∧ w = w' := by
  go_enter Try.func35, Try.ntmps35
  go_wp2
  go_ret
  exact ⟨rfl, rfl⟩
set_option maxHeartbeats 400000 in
theorem inraw_nil (n : Int) (w : World) : Calls Try.prog 31 #[.pointer none, .int .i64 n] w fun r w' => r = .returned (.string .empty) ∧ w = w' := by
  go_enter Try.func31, Try.ntmps31
  go_wp2
  go_ret
  exact ⟨rfl, rfl⟩
set_option maxHeartbeats 400000 in
theorem inbyte_nil (w : World) : Calls Try.prog 27 #[.pointer none] w fun r w' => r = .returned (.int .i64 0) ∧ w = w' := by
  go_enter Try.func27, Try.ntmps27
  go_wp2_with (go_at_call 31; refine (inraw_nil _ _).mono ?_; rintro e w1 ⟨rfl, rfl⟩)
  go_ret
  exact ⟨rfl, rfl⟩
set_option maxHeartbeats 400000 in
theorem intext_nil (w : World) : Calls Try.prog 29 #[.pointer none] w fun r w' => r = .returned (.string .empty) ∧ w = w' := by
  go_enter Try.func29, Try.ntmps29
  go_wp2_with (first | (go_at_call 25; refine (innum_nil _).mono ?_; rintro e w1 ⟨rfl, rfl⟩) | (go_at_call 31; refine (inraw_nil _ _).mono ?_; rintro e w1 ⟨rfl, rfl⟩))
  go_ret
  exact ⟨rfl, rfl⟩

end Go.Proofs.Ytlinmnlfcboicaa
