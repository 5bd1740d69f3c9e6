/- esc: textOf, kindOf, numbers.all. Own work (rgn/XEscK.lean by rgn.py). -/
import Derived.Test.YthphnjilbpidgaaEscP
namespace Go.Proofs.Ythphnjilbpidgaa
set_option linter.unusedVariables false
set_option linter.unusedSimpArgs false
open Go.RowKit

set_option maxHeartbeats 800000 in
theorem esc_textOf (c : Nat) (w : World) (hc : c < 256) :
    Calls Try.prog 44 #[.int .i64 (c : Int)] w fun e w' => e = .returned (.string (bytesN [c])) ∧ Below w.heap.size w w' := by
  have hw : IntKind.u8.wrap (c : Int) = ((UInt8.ofNat c).toNat : Int) := u8_of hc
  have hr := run_own_string (P := Try.prog) (w := w.alloc (.cells #[.int .u8 ((UInt8.ofNat c).toNat : Int)] 5)) (base := 0) (e := 5) (t := 48) (u := 9) (c := 1) (A := some ⟨w.heap.size, 0, none⟩) (l := [UInt8.ofNat c])
    ⟨rfl, .inr ⟨w.heap.size, 1, #[.int .u8 ((UInt8.ofNat c).toNat : Int)], rfl, Nat.zero_le _, heap_alloc_new w _, by simp, by unfold maxLen; omega, by simp, by simp [byteCells_one]⟩⟩ Try.underlying48 Try.underlying5 Try.underlying9
  have hs : (⟨[UInt8.ofNat c].toArray⟩ : ByteArray) = bytesN [c] := rfl
  rw [hs] at hr
  obtain ⟨u, hu⟩ : ∃ u : Int, ((UInt8.ofNat c).toNat : Int) = u := ⟨_, rfl⟩
  rw [hu] at hw hr
  obtain ⟨S, hS⟩ : ∃ S, bytesN [c] = S := ⟨_, rfl⟩
  rw [hS] at hr ⊢
  have hr : (convert 48 9 (.slice (some ⟨w.heap.size, 0, none⟩) 1 1)).run Try.prog (w.alloc (.cells #[.int .u8 u] 5)) = .ok (.string S) (w.alloc (.cells #[.int .u8 u] 5)) := hr
  clear hu hS hs
  go_enter Try.func44, Try.ntmps44
  go_wp2_with fail
  go_ret
  exact ⟨rfl, (Below.refl _ w).alloc (Nat.le_refl _) _⟩

set_option maxHeartbeats 800000 in
theorem kindControl_7 (w : World) : Calls Try.prog 33 #[.int .u8 7] w fun e w' => e = .returned (.int .u8 1) ∧ w' = w := by
  go_enter Try.func33, Try.ntmps33
  go_wp2_with fail
  go_ret
  exact ⟨rfl, rfl⟩

set_option maxHeartbeats 800000 in
theorem kindControl_24 (w : World) : Calls Try.prog 33 #[.int .u8 24] w fun e w' => e = .returned (.int .u8 2) ∧ w' = w := by
  go_enter Try.func33, Try.ntmps33
  go_wp2_with fail
  go_ret
  exact ⟨rfl, rfl⟩

set_option maxHeartbeats 800000 in
theorem kindControl_26 (w : World) : Calls Try.prog 33 #[.int .u8 26] w fun e w' => e = .returned (.int .u8 2) ∧ w' = w := by
  go_enter Try.func33, Try.ntmps33
  go_wp2_with fail
  go_ret
  exact ⟨rfl, rfl⟩

set_option maxHeartbeats 800000 in
theorem kindControl_27 (w : World) : Calls Try.prog 33 #[.int .u8 27] w fun e w' => e = .returned (.int .u8 3) ∧ w' = w := by
  go_enter Try.func33, Try.ntmps33
  go_wp2_with fail
  go_ret
  exact ⟨rfl, rfl⟩

set_option maxHeartbeats 800000 in
theorem kindControl_else (c : Nat) (w : World) (h : c ≠ 7 ∧ c ≠ 24 ∧ c ≠ 26 ∧ c ≠ 27) : Calls Try.prog 33 #[.int .u8 (c : Int)] w fun e w' => e = .returned (.int .u8 0) ∧ w' = w := by
  have t7 : ((c : Int) == 7) = false := by simp; omega
  have t24 : ((c : Int) == 24) = false := by simp; omega
  have t26 : ((c : Int) == 26) = false := by simp; omega
  have t27 : ((c : Int) == 27) = false := by simp; omega
  clear h
  go_enter Try.func33, Try.ntmps33
  go_wp2_with fail
  go_ret
  exact ⟨rfl, rfl⟩

set_option maxHeartbeats 800000 in
theorem kindFinal_80 (w : World) : Calls Try.prog 34 #[.int .u8 80] w fun e w' => e = .returned (.int .u8 10) ∧ w' = w := by
  go_enter Try.func34, Try.ntmps34
  go_wp2_with fail
  go_ret
  exact ⟨rfl, rfl⟩

set_option maxHeartbeats 800000 in
theorem kindFinal_91 (w : World) : Calls Try.prog 34 #[.int .u8 91] w fun e w' => e = .returned (.int .u8 11) ∧ w' = w := by
  go_enter Try.func34, Try.ntmps34
  go_wp2_with fail
  go_ret
  exact ⟨rfl, rfl⟩

set_option maxHeartbeats 800000 in
theorem kindFinal_93 (w : World) : Calls Try.prog 34 #[.int .u8 93] w fun e w' => e = .returned (.int .u8 12) ∧ w' = w := by
  go_enter Try.func34, Try.ntmps34
  go_wp2_with fail
  go_ret
  exact ⟨rfl, rfl⟩

set_option maxHeartbeats 800000 in
theorem kindFinal_else (c : Nat) (w : World) (h : c ≠ 80 ∧ c ≠ 91 ∧ c ≠ 93) : Calls Try.prog 34 #[.int .u8 (c : Int)] w fun e w' => e = .returned (.int .u8 9) ∧ w' = w := by
  have t80 : ((c : Int) == 80) = false := by simp; omega
  have t91 : ((c : Int) == 91) = false := by simp; omega
  have t93 : ((c : Int) == 93) = false := by simp; omega
  clear h
  go_enter Try.func34, Try.ntmps34
  go_wp2_with fail
  go_ret
  exact ⟨rfl, rfl⟩

set_option maxHeartbeats 800000 in
theorem kindOf_c7 (w : World) : Calls Try.prog 22 #[.int .u8 7] w fun e w' => e = .returned (.int .u8 1) ∧ w' = w := by
  go_enter Try.func22, Try.ntmps22
  go_wp2_with fail
  refine (kindControl_7 _).mono ?_
  rintro e w1 ⟨rfl, rfl⟩
  go_wp2_with fail
  go_ret
  exact ⟨rfl, rfl⟩

set_option maxHeartbeats 800000 in
theorem kindOf_c24 (w : World) : Calls Try.prog 22 #[.int .u8 24] w fun e w' => e = .returned (.int .u8 2) ∧ w' = w := by
  go_enter Try.func22, Try.ntmps22
  go_wp2_with fail
  refine (kindControl_24 _).mono ?_
  rintro e w1 ⟨rfl, rfl⟩
  go_wp2_with fail
  go_ret
  exact ⟨rfl, rfl⟩

set_option maxHeartbeats 800000 in
theorem kindOf_c26 (w : World) : Calls Try.prog 22 #[.int .u8 26] w fun e w' => e = .returned (.int .u8 2) ∧ w' = w := by
  go_enter Try.func22, Try.ntmps22
  go_wp2_with fail
  refine (kindControl_26 _).mono ?_
  rintro e w1 ⟨rfl, rfl⟩
  go_wp2_with fail
  go_ret
  exact ⟨rfl, rfl⟩

set_option maxHeartbeats 800000 in
theorem kindOf_c27 (w : World) : Calls Try.prog 22 #[.int .u8 27] w fun e w' => e = .returned (.int .u8 3) ∧ w' = w := by
  go_enter Try.func22, Try.ntmps22
  go_wp2_with fail
  refine (kindControl_27 _).mono ?_
  rintro e w1 ⟨rfl, rfl⟩
  go_wp2_with fail
  go_ret
  exact ⟨rfl, rfl⟩

set_option maxHeartbeats 800000 in
theorem kindOf_ctl (c : Nat) (w : World) (h : c ≤ 31 ∧ c ≠ 7 ∧ c ≠ 24 ∧ c ≠ 26 ∧ c ≠ 27) : Calls Try.prog 22 #[.int .u8 (c : Int)] w fun e w' => e = .returned (.int .u8 0) ∧ w' = w := by
  have l31 : (c : Int) ≤ 31 := by omega
  go_enter Try.func22, Try.ntmps22
  go_wp2_with fail
  refine (kindControl_else c _ h.2).mono ?_
  rintro e w1 ⟨rfl, rfl⟩
  go_wp2_with fail
  go_ret
  exact ⟨rfl, rfl⟩

set_option maxHeartbeats 800000 in
theorem kindOf_inter (c : Nat) (w : World) (h : 31 < c ∧ c ≤ 47) : Calls Try.prog 22 #[.int .u8 (c : Int)] w fun e w' => e = .returned (.int .u8 4) ∧ w' = w := by
  have l31 : ¬ (c : Int) ≤ 31 := by omega
  have l47 : (c : Int) ≤ 47 := by omega
  go_enter Try.func22, Try.ntmps22
  go_wp2_with fail
  go_ret
  exact ⟨rfl, rfl⟩

set_option maxHeartbeats 800000 in
theorem kindOf_digit (c : Nat) (w : World) (h : 47 < c ∧ c ≤ 57) : Calls Try.prog 22 #[.int .u8 (c : Int)] w fun e w' => e = .returned (.int .u8 5) ∧ w' = w := by
  have l31 : ¬ (c : Int) ≤ 31 := by omega
  have l47 : ¬ (c : Int) ≤ 47 := by omega
  have l57 : (c : Int) ≤ 57 := by omega
  go_enter Try.func22, Try.ntmps22
  go_wp2_with fail
  go_ret
  exact ⟨rfl, rfl⟩

set_option maxHeartbeats 800000 in
theorem kindOf_c58 (w : World) : Calls Try.prog 22 #[.int .u8 58] w fun e w' => e = .returned (.int .u8 6) ∧ w' = w := by
  go_enter Try.func22, Try.ntmps22
  go_wp2_with fail
  go_ret
  exact ⟨rfl, rfl⟩

set_option maxHeartbeats 800000 in
theorem kindOf_c59 (w : World) : Calls Try.prog 22 #[.int .u8 59] w fun e w' => e = .returned (.int .u8 7) ∧ w' = w := by
  go_enter Try.func22, Try.ntmps22
  go_wp2_with fail
  go_ret
  exact ⟨rfl, rfl⟩

set_option maxHeartbeats 800000 in
theorem kindOf_mark (c : Nat) (w : World) (h : 59 < c ∧ c ≤ 63) : Calls Try.prog 22 #[.int .u8 (c : Int)] w fun e w' => e = .returned (.int .u8 8) ∧ w' = w := by
  have l31 : ¬ (c : Int) ≤ 31 := by omega
  have l47 : ¬ (c : Int) ≤ 47 := by omega
  have l57 : ¬ (c : Int) ≤ 57 := by omega
  have e58 : ((c : Int) == 58) = false := by simp; omega
  have e59 : ((c : Int) == 59) = false := by simp; omega
  have l63 : (c : Int) ≤ 63 := by omega
  go_enter Try.func22, Try.ntmps22
  go_wp2_with fail
  go_ret
  exact ⟨rfl, rfl⟩

set_option maxHeartbeats 800000 in
theorem kindOf_c80 (w : World) : Calls Try.prog 22 #[.int .u8 80] w fun e w' => e = .returned (.int .u8 10) ∧ w' = w := by
  go_enter Try.func22, Try.ntmps22
  go_wp2_with fail
  refine (kindFinal_80 _).mono ?_
  rintro e w1 ⟨rfl, rfl⟩
  go_wp2_with fail
  go_ret
  exact ⟨rfl, rfl⟩

set_option maxHeartbeats 800000 in
theorem kindOf_c91 (w : World) : Calls Try.prog 22 #[.int .u8 91] w fun e w' => e = .returned (.int .u8 11) ∧ w' = w := by
  go_enter Try.func22, Try.ntmps22
  go_wp2_with fail
  refine (kindFinal_91 _).mono ?_
  rintro e w1 ⟨rfl, rfl⟩
  go_wp2_with fail
  go_ret
  exact ⟨rfl, rfl⟩

set_option maxHeartbeats 800000 in
theorem kindOf_c93 (w : World) : Calls Try.prog 22 #[.int .u8 93] w fun e w' => e = .returned (.int .u8 12) ∧ w' = w := by
  go_enter Try.func22, Try.ntmps22
  go_wp2_with fail
  refine (kindFinal_93 _).mono ?_
  rintro e w1 ⟨rfl, rfl⟩
  go_wp2_with fail
  go_ret
  exact ⟨rfl, rfl⟩

set_option maxHeartbeats 800000 in
theorem kindOf_final (c : Nat) (w : World) (h : 63 < c ∧ c ≤ 126 ∧ c ≠ 80 ∧ c ≠ 91 ∧ c ≠ 93) : Calls Try.prog 22 #[.int .u8 (c : Int)] w fun e w' => e = .returned (.int .u8 9) ∧ w' = w := by
  have l31 : ¬ (c : Int) ≤ 31 := by omega
  have l47 : ¬ (c : Int) ≤ 47 := by omega
  have l57 : ¬ (c : Int) ≤ 57 := by omega
  have e58 : ((c : Int) == 58) = false := by simp; omega
  have e59 : ((c : Int) == 59) = false := by simp; omega
  have l63 : ¬ (c : Int) ≤ 63 := by omega
  have l126 : (c : Int) ≤ 126 := by omega
  go_enter Try.func22, Try.ntmps22
  go_wp2_with fail
  refine (kindFinal_else c _ ⟨h.2.2.1, h.2.2.2.1, h.2.2.2.2⟩).mono ?_
  rintro e w1 ⟨rfl, rfl⟩
  go_wp2_with fail
  go_ret
  exact ⟨rfl, rfl⟩

set_option maxHeartbeats 800000 in
theorem kindOf_c127 (w : World) : Calls Try.prog 22 #[.int .u8 127] w fun e w' => e = .returned (.int .u8 13) ∧ w' = w := by
  go_enter Try.func22, Try.ntmps22
  go_wp2_with fail
  go_ret
  exact ⟨rfl, rfl⟩

set_option maxHeartbeats 800000 in
theorem kindOf_high (c : Nat) (w : World) (h : 127 < c) : Calls Try.prog 22 #[.int .u8 (c : Int)] w fun e w' => e = .returned (.int .u8 14) ∧ w' = w := by
  have l31 : ¬ (c : Int) ≤ 31 := by omega
  have l47 : ¬ (c : Int) ≤ 47 := by omega
  have l57 : ¬ (c : Int) ≤ 57 := by omega
  have e58 : ((c : Int) == 58) = false := by simp; omega
  have e59 : ((c : Int) == 59) = false := by simp; omega
  have l63 : ¬ (c : Int) ≤ 63 := by omega
  have l126 : ¬ (c : Int) ≤ 126 := by omega
  have e127 : ((c : Int) == 127) = false := by simp; omega
  go_enter Try.func22, Try.ntmps22
  go_wp2_with fail
  go_ret
  exact ⟨rfl, rfl⟩

theorem esc_kindOf (c : Nat) (w : World) :
    Calls Try.prog 22 #[.int .u8 (c : Int)] w fun e w' => e = .returned (.int .u8 (kindL c : Int)) ∧ w' = w := by
  by_cases h1 : c ≤ 31
  · by_cases e1 : c = 7
    · subst e1; exact kindOf_c7 w
    by_cases e2 : c = 24
    · subst e2; exact kindOf_c24 w
    by_cases e3 : c = 26
    · subst e3; exact kindOf_c26 w
    by_cases e4 : c = 27
    · subst e4; exact kindOf_c27 w
    rw [kind_ctl c ⟨h1, e1, e2, e3, e4⟩]; exact kindOf_ctl c w ⟨h1, e1, e2, e3, e4⟩
  by_cases h2 : c ≤ 47
  · rw [kind_inter c ⟨by omega, h2⟩]; exact kindOf_inter c w ⟨by omega, h2⟩
  by_cases h3 : c ≤ 57
  · rw [kind_digit c ⟨by omega, h3⟩]; exact kindOf_digit c w ⟨by omega, h3⟩
  by_cases h4 : c = 58
  · subst h4; exact kindOf_c58 w
  by_cases h5 : c = 59
  · subst h5; exact kindOf_c59 w
  by_cases h6 : c ≤ 63
  · rw [kind_mark c ⟨by omega, h6⟩]; exact kindOf_mark c w ⟨by omega, h6⟩
  by_cases h7 : c ≤ 126
  · by_cases e1 : c = 80
    · subst e1; exact kindOf_c80 w
    by_cases e2 : c = 91
    · subst e2; exact kindOf_c91 w
    by_cases e3 : c = 93
    · subst e3; exact kindOf_c93 w
    rw [kind_final c ⟨by omega, h7, e1, e2, e3⟩]; exact kindOf_final c w ⟨by omega, h7, e1, e2, e3⟩
  by_cases h8 : c = 127
  · subst h8; exact kindOf_c127 w
  · rw [kind_high c (by omega)]; exact kindOf_high c w (by omega)

set_option maxRecDepth 100000 in
set_option maxHeartbeats 1600000 in
theorem num_all (p q : Nat) (n : List Int) (c : Nat) (w : World) (h : NumAt w p q n c) :
    Calls Try.prog 45 #[.pointer (some ⟨p, q, none⟩)] w fun e w' => ∃ A d, e = .returned (.slice A n.length d) ∧ w'.ownsRow w.heap.size 3 1 (.slice A n.length d) n.length (n.map (Value.int .i64)) ∧ Below w.heap.size w w' := by
  obtain ⟨i0, hi, hz0, hz1, hz2⟩ := info_parts int_info
  have hlt : p < w.heap.size := h.cm.lt
  have hl8 : n.length ≤ 8 := by rw [h.len]; omega
  have hsrc : ∀ W : World, (∀ k, k < 8 → W.cell? ⟨p, q + k, none⟩ = w.cell? ⟨p, q + k, none⟩) → p < W.heap.size → Src W (some ⟨p, q, none⟩) n.length (n.map (Value.int .i64)) := fun W hW hp => ⟨by simp, fun h0 => ⟨p, q, rfl, hp, fun i v hv => by
    rw [List.getElem?_map] at hv
    obtain ⟨x, hx, rfl⟩ := Option.map_eq_some_iff.1 hv
    have hi' : i < n.length := by
      rcases Nat.lt_or_ge i n.length with e | e
      · exact e
      · rw [List.getElem?_eq_none e] at hx; cases hx
    rw [hW i (by omega), (h.nn i (by omega)).1, List.getD_eq_getElem?_getD, hx]
    rfl⟩⟩
  obtain ⟨v, w1, hr, h1, h2⟩ := run_copy_src (P := Try.prog) w.drew 22 22 3 i0 (.int .i64 0) 8 Try.underlying22 hi hz0 hz1 hz2 rfl (some ⟨p, q, none⟩) n.length 8 _ (hsrc w.drew (fun _ _ => rfl) hlt) (by intro u hu; obtain ⟨x, _, rfl⟩ := List.mem_map.1 hu; rfl) (by unfold maxLen; omega) (by omega)
  have HR := Lib.hid hr
  have H1 := Lib.hid h1
  have H2 := Lib.hid h2
  have HK := Lib.hid (fun W h => num_kept p q n c W h)
  have HN := Lib.hid h
  have hal : Try.prog.arrayLen 31 = 8 := by kernel_rfl
  have hn0 : (0 : Int) ≤ (n.length : Int) := by omega
  have hn8 : (n.length : Int) ≤ 8 := by omega
  have hsl : ∀ W : World, (Instr.sliceAt 31 (.pointer (some ⟨p, q, none⟩)) none (some (.int .i64 (n.length : Int))) none).run Try.prog W = .ok (.slice (some ⟨p, q, none⟩) n.length 8) W := fun W => by
    have hsz : (sizeOf (Try.prog.elem 31)).run Try.prog W = .ok 1 W := by kernel_rfl
    have hul : Try.prog.underlying 31 = some (.array (Try.prog.arrayLen 31) (Try.prog.elem 31)) := by kernel_rfl
    rw [run_sliceAt_array_h W 31 ⟨p, q, none⟩ hul .i64 (n.length : Int) hn0 (by rw [hal]; exact hn8), hsz, hal]
    simp [slicedAt, Result.andThen_ok, add_mk]
  clear hr h1 h2 h hsrc
  go_enter Try.func45, Try.ntmps45
  go_wp2_with fail
  refine wp_region_noPanic ?_
  refine wp_region_held_drew (S := fun w' => True) (by kernel_rfl) trivial (fun hHeld => ?_)
  refine wpAnyH_take (i := 0) (oi := _) (v := ?va0) rfl (by kernel_rfl) (by kernel_rfl) (by kernel_rfl) (fun _ _ _ h => h) (Or.inl ⟨by rfl, ?hya0⟩) (by assumption) ?resta0
  case hya0 => (intro w hSw; (try dsimp only at hSw); (try simp only [List.getElem_toArray, List.getElem_cons_zero, List.getElem_cons_succ]); go_simp; (try with_reducible rfl))
  (try simp only [Act.put, List.setIfInBounds_toArray, List.set_cons_zero, List.set_cons_succ, List.getElem_toArray, List.getElem_cons_zero, List.getElem_cons_succ])
  refine wpAnyH_take (i := 1) (oi := _) (v := ?va1) rfl (by kernel_rfl) (by kernel_rfl) (by kernel_rfl) (fun _ _ _ h => h) (Or.inl ⟨by rfl, ?hya1⟩) (by assumption) ?resta1
  case hya1 => (intro w hSw; (try dsimp only at hSw); (try simp only [List.getElem_toArray, List.getElem_cons_zero, List.getElem_cons_succ]); go_simp; (try with_reducible rfl))
  (try simp only [Act.put, List.setIfInBounds_toArray, List.set_cons_zero, List.set_cons_succ, List.getElem_toArray, List.getElem_cons_zero, List.getElem_cons_succ])
  refine wpAnyH_take (i := 2) (oi := _) (v := ?va2) rfl (by kernel_rfl) (by kernel_rfl) (by kernel_rfl) (fun _ _ _ h => h) (Or.inl ⟨by rfl, ?hya2⟩) (by assumption) ?resta2
  case hya2 => (intro w hSw; (try dsimp only at hSw); (try simp only [List.getElem_toArray, List.getElem_cons_zero, List.getElem_cons_succ]); go_simp; (try with_reducible rfl))
  (try simp only [Act.put, List.setIfInBounds_toArray, List.set_cons_zero, List.set_cons_succ, List.getElem_toArray, List.getElem_cons_zero, List.getElem_cons_succ])
  refine wpAnyH_take (i := 3) (oi := _) (v := ?va3) rfl (by kernel_rfl) (by kernel_rfl) (by kernel_rfl) (fun _ _ _ h => h) (Or.inl ⟨by rfl, ?hya3⟩) (by assumption) ?resta3
  case hya3 => (intro w hSw; (try dsimp only at hSw); (try simp only [List.getElem_toArray, List.getElem_cons_zero, List.getElem_cons_succ]); go_simp; (try with_reducible rfl))
  (try simp only [Act.put, List.setIfInBounds_toArray, List.set_cons_zero, List.set_cons_succ, List.getElem_toArray, List.getElem_cons_zero, List.getElem_cons_succ])
  refine wpAnyH_ready (rs := [4]) (by kernel_rfl) (by simp) ?_
  refine AllReadyH.cons (o := _) rfl (fun K hK => ?_) AllReadyH.nil
  (try simp only [List.getElem_toArray, List.getElem_cons_zero, List.getElem_cons_succ])
  go_simp
  refine (HK.out _ HN.out.drew).mono ?_; rintro e w2 ⟨rfl, rfl⟩
  refine hK.out _ _ ?_ (fun hHeld => ?_)
  · trivial
  clear hK K
  (try simp only [Act.put, List.setIfInBounds_toArray, List.set_cons_zero, List.set_cons_succ, List.getElem_toArray, List.getElem_cons_zero, List.getElem_cons_succ])
  refine wpAnyH_take (i := 5) (oi := _) (v := ?va5) rfl (by kernel_rfl) (by kernel_rfl) (by kernel_rfl) (fun _ _ _ h => h) (Or.inl ⟨by rfl, ?hya5⟩) (by assumption) ?resta5
  case hya5 => (intro w hSw; (try dsimp only at hSw); (try simp only [List.getElem_toArray, List.getElem_cons_zero, List.getElem_cons_succ]); go_simp; (try with_reducible rfl))
  (try simp only [Act.put, List.setIfInBounds_toArray, List.set_cons_zero, List.set_cons_succ, List.getElem_toArray, List.getElem_cons_zero, List.getElem_cons_succ])
  refine wpAnyH_ready (rs := [6]) (by kernel_rfl) (by simp) ?_
  refine AllReadyH.cons (o := _) rfl (fun K hK => ?_) AllReadyH.nil
  (try simp only [List.getElem_toArray, List.getElem_cons_zero, List.getElem_cons_succ])
  rw [if_pos (by rfl)]; unfold Oper.wp execOp; simp only [resolve, invoke, builtin, Sem.run_bind, Sem.run_pure, Result.andThen_ok, List.map_toArray, List.map_cons, List.map_nil]; rw [show (Builtin.append_ _ _ #[Act.eval _ _, Act.eval _ _]).run _ _ = _ from HR.out]
  refine hK.out _ _ ?_ (fun hHeld => ?_)
  · trivial
  clear hK K
  (try simp only [Act.put, List.setIfInBounds_toArray, List.set_cons_zero, List.set_cons_succ, List.getElem_toArray, List.getElem_cons_zero, List.getElem_cons_succ])
  refine wpAnyH_take (i := 7) (oi := _) (v := ?va7) rfl (by kernel_rfl) (by kernel_rfl) (by kernel_rfl) (fun _ _ _ h => h) (Or.inl ⟨by rfl, ?hya7⟩) (by assumption) ?resta7
  case hya7 => (intro w hSw; (try dsimp only at hSw); (try simp only [List.getElem_toArray, List.getElem_cons_zero, List.getElem_cons_succ]); go_simp; (try with_reducible rfl))
  (try simp only [Act.put, List.setIfInBounds_toArray, List.set_cons_zero, List.set_cons_succ, List.getElem_toArray, List.getElem_cons_zero, List.getElem_cons_succ])
  refine wpAnyH_done (by kernel_rfl) ?_ _
  refine NoPanic.normal ?_
  obtain ⟨A, d, rfl, -⟩ := own_form H1.out
  go_wp2_with fail
  go_ret
  exact ⟨A, d, rfl, H1.out, ⟨H2.out.os, H2.out.tape, H2.out.output, H2.out.size, H2.out.block⟩⟩

end Go.Proofs.Ythphnjilbpidgaa
