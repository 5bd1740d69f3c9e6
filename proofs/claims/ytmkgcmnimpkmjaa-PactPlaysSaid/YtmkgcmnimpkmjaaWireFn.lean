/- wire's isOption, text, fits, Option, Sub. Own work. -/
import Derived.Test.YtmkgcmnimpkmjaaData
namespace Go.Proofs.Ytmkgcmnimpkmjaa
set_option linter.unusedVariables false
set_option linter.unusedSimpArgs false
open Go.RowKit

theorem buf_row (w : World) (l : List UInt8) (t : TypeId) (g n : Nat) (hg : g = w.heap.size) (hn : l.length = n) (h1 : 1 ≤ n) (hm : n ≤ 1000) : Buf (w.alloc (.cells (Lib.byteCells l).toArray t)) (some ⟨g, 0, none⟩) n n (Lib.byteCells l) := by
  subst hg hn
  have h := World.ownsRow_lit (base := w.heap.size) (e := t) (size := 1) w (Lib.byteCells l).toArray l.length (Nat.le_refl _) (by unfold maxLen; omega) (by simp [Lib.byteCells])
  exact Buf.of_own h

theorem wire_isOption (o : Int) (w : World) (h0 : -9223372036854775808 ≤ o) (h1 : o ≤ 9223372036854775807) :
    Calls Try.prog 54 #[.int .i64 o] w fun e w' => e = .returned (.bool (decide (0 ≤ o ∧ o ≤ 255))) ∧ w = w' := by
  by_cases h2 : 0 ≤ o
  · by_cases h3 : o ≤ 255
    · have e : decide (0 ≤ o ∧ o ≤ 255) = true := decide_eq_true ⟨h2, h3⟩
      rw [e]
      clear e
      go_enter Try.func54, Try.ntmps54
      go_wp2_with fail
      go_ret
      exact ⟨rfl, rfl⟩
    · have e : decide (0 ≤ o ∧ o ≤ 255) = false := decide_eq_false (fun x => h3 x.2)
      rw [e]
      clear e
      go_enter Try.func54, Try.ntmps54
      go_wp2_with fail
      go_ret
      exact ⟨rfl, rfl⟩
  · have e : decide (0 ≤ o ∧ o ≤ 255) = false := decide_eq_false (fun x => h2 x.1)
    rw [e]
    clear e
    go_enter Try.func54, Try.ntmps54
    go_wp2_with fail
    go_ret
    exact ⟨rfl, rfl⟩

theorem wire_text (A : Option Addr) (n c : Nat) (l : List UInt8) (w : World) (h : Buf w A n c (Lib.byteCells l)) :
    Calls Try.prog 56 #[.slice A n c] w fun e w' => e = .returned (.string ⟨l.toArray⟩) ∧ w = w' := by
  have hl : l.length = n := by have := h.len; rwa [Lib.byteCells_length] at this
  have hr := run_buf_string (P := Try.prog) 90 9 5 h Try.underlying90 Try.underlying5 Try.underlying9 n (Nat.le_refl _)
  rw [List.take_of_length_le (by omega)] at hr
  clear hl h
  go_enter Try.func56, Try.ntmps56
  go_wp2_with fail
  go_ret
  exact ⟨rfl, rfl⟩

set_option maxRecDepth 100000 in
set_option maxHeartbeats 800000 in
theorem wire_fits (A : Option Addr) (n c : Nat) (xs : List ByteArray) (w : World) (h : Src w A n (xs.map Value.string)) (hx : ∀ x ∈ xs, x.size ≤ maxLen) (hn : n ≤ 1000000000) :
    Calls Try.prog 55 #[.slice A n c] w fun e w' => e = .returned (.bool (decide (sum xs ≤ 40))) ∧ w = w' := by
  have hl : xs.length = n := by have := h.1; rwa [List.length_map] at this
  have H := Lib.hid h
  have HL := Lib.hid hl
  have HX := Lib.hid hx
  clear h hx hl
  go_enter Try.func55, Try.ntmps55
  go_wp2_with fail
  go_loop [3, 8] (fun m i => ∃ (k q : Nat), i = .int .i64 k ∧ k ≤ n ∧ m = .int .i64 q ∧ q ≤ 40 ∧ Hid (q + sum (xs.take k) = 40)) (fun _ i => n - (intOf i).toNat)
  case atStart => exact ⟨0, 40, rfl, by omega, rfl, by omega, Lib.hid (by simp [sum])⟩
  case round =>
    obtain ⟨k, q, rfl, hk, rfl, hq, hs⟩ := hrel
    have hk0 : (0 : Int) ≤ (k : Int) := by omega
    by_cases hlt : k < n
    · have hki : (k : Int) < (n : Int) := by omega
      obtain ⟨x, hxk⟩ : ∃ x, xs[k]? = some x := ⟨xs[k]'(by rw [HL.out]; exact hlt), List.getElem?_eq_getElem _⟩
      obtain ⟨b, o, rfl, hb, hc⟩ := H.out.2 (by omega)
      have hcx : w.cell? ⟨b, o + k, none⟩ = some (.string x) := hc k _ (by rw [List.getElem?_map, hxk]; rfl)
      have hxm := HX.out x (List.mem_of_getElem? hxk)
      unfold maxLen at hxm
      have e2 : sum (xs.take (k + 1)) = sum (xs.take k) + x.size := by rw [take_next hxk, sum_snoc]
      have e3 := sum_take xs (k + 1)
      have E2 := Lib.hid e2
      have E3 := Lib.hid e3
      clear hc hxk e2 e3
      by_cases hbig : q < x.size
      · have t1 : (q : Int) < (x.size : Int) := by omega
        have e : decide (sum xs ≤ 40) = false := decide_eq_false (by have := E2.out; have := E3.out; have := hs.out; omega)
        have E := Lib.hid e
        clear e
        go_wp2_with fail
        go_ret
        exact ⟨by rw [E.out]; rfl, rfl⟩
      · have t1 : ¬ (q : Int) < (x.size : Int) := by omega
        have hqx : (q : Int) - (x.size : Int) = ((q - x.size : Nat) : Int) := by omega
        go_wp2_with fail
        go_round
        case rel => exact ⟨k + 1, q - x.size, by go_num, by omega, by go_num, by omega, Lib.hid (by have := E2.out; have := hs.out; omega)⟩
        case measure => simp [intOf]; omega
    · have hkn : k = n := by omega
      have e : decide (sum xs ≤ 40) = true := decide_eq_true (by
        have := hs.out
        rw [List.take_of_length_le (by rw [HL.out]; omega)] at this
        omega)
      have E := Lib.hid e
      subst hkn
      clear e
      go_wp2_with fail
      go_ret
      exact ⟨by rw [E.out]; rfl, rfl⟩

/-- What Option answers. -/
theorem wire_option_no (cmd o : Int) (w : World) (hc0 : -9223372036854775808 ≤ cmd) (hc1 : cmd ≤ 9223372036854775807) (h0 : -9223372036854775808 ≤ o) (h1 : o ≤ 9223372036854775807) (hno : ¬ (251 ≤ cmd ∧ cmd ≤ 254 ∧ 0 ≤ o ∧ o ≤ 255)) :
    Calls Try.prog 64 #[.int .i64 cmd, .int .i64 o] w fun e w' => e = .returned (.tuple #[.string ⟨#[]⟩, .int .i64 1]) ∧ w = w' := by
  by_cases h2 : cmd < 251
  · clear hno
    go_enter Try.func64, Try.ntmps64
    go_wp2_with fail
    go_ret2
    exact ⟨rfl, rfl⟩
  · by_cases h3 : 254 < cmd
    · clear hno
      go_enter Try.func64, Try.ntmps64
      go_wp2_with fail
      go_ret2
      exact ⟨rfl, rfl⟩
    · have H := Lib.hid (wire_isOption o w h0 h1)
      have e : decide (0 ≤ o ∧ o ≤ 255) = false := decide_eq_false (fun x => hno ⟨by omega, by omega, x⟩)
      rw [e] at H
      clear hno e
      go_enter Try.func64, Try.ntmps64
      go_wp2_with fail
      refine H.out.mono ?_
      rintro r w1 ⟨rfl, rfl⟩
      go_wp2_with fail
      go_ret2
      exact ⟨rfl, rfl⟩

set_option maxHeartbeats 800000 in
theorem wire_option (m o : Nat) (w : World) (h0 : 251 ≤ m) (h1 : m ≤ 254) (h2 : o ≤ 255) :
    Calls Try.prog 64 #[.int .i64 (m : Int), .int .i64 (o : Int)] w fun e w' => e = .returned (.tuple #[.string ⟨(optL m o).toArray⟩, .int .i64 0]) ∧ Below w.heap.size w w' := by
  have H := Lib.hid (wire_isOption o w (by omega) (by omega))
  have e : decide (0 ≤ (o : Int) ∧ (o : Int) ≤ 255) = true := decide_eq_true (by omega)
  rw [e] at H
  obtain ⟨M, hM⟩ : ∃ M, M = UInt8.ofNat m := ⟨_, rfl⟩
  obtain ⟨O, hO⟩ : ∃ O, O = UInt8.ofNat o := ⟨_, rfl⟩
  have HL := Lib.hid (show optL m o = [255, M, O] by rw [hM, hO]; rfl)
  have m1 : IntKind.u8.wrap (m : Int) = (M.toNat : Int) := by rw [hM]; exact u8_of (by omega)
  have o1 : IntKind.u8.wrap (o : Int) = (O.toNat : Int) := by rw [hO]; exact u8_of (by omega)
  have m2 : (m : Int) % 256 = (M.toNat : Int) := by rw [hM, toNat_ofNat (by omega)]; omega
  have o2 : (o : Int) % 256 = (O.toNat : Int) := by rw [hO, toNat_ofNat (by omega)]; omega
  have HT := Lib.hid (show Calls Try.prog 56 #[.slice (some ⟨w.heap.size, 0, none⟩) 3 3] (w.alloc (.cells #[.int .u8 255, .int .u8 (M.toNat : Int), .int .u8 (O.toNat : Int)] 5)) _ from wire_text (some ⟨w.heap.size, 0, none⟩) 3 3 [255, M, O] _ (buf_row w [255, M, O] 5 _ 3 rfl rfl (by omega) (by omega)))
  have g1 : ¬ (m : Int) < 251 := by omega
  have g2 : ¬ 254 < (m : Int) := by omega
  clear e hM hO
  go_enter Try.func64, Try.ntmps64
  go_wp2_with fail
  refine H.out.mono ?_
  rintro r w1 ⟨rfl, rfl⟩
  go_wp2_with fail
  refine HT.out.mono ?_
  rintro r w2 ⟨rfl, rfl⟩
  go_wp2_with fail
  go_ret2
  refine ⟨by rw [HL.out]; rfl, (Below.refl _ _).alloc (Nat.le_refl _) _⟩

end Go.Proofs.Ytmkgcmnimpkmjaa
