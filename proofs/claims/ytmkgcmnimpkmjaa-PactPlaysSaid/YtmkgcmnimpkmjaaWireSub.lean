/- wire.Sub. Own work. -/
import Derived.Test.YtmkgcmnimpkmjaaWireFn
namespace Go.Proofs.Ytmkgcmnimpkmjaa
set_option linter.unusedVariables false
set_option linter.unusedSimpArgs false
open Go.RowKit

theorem wire_sub_arg (o : Int) (A : Option Addr) (n c : Nat) (w : World) (h0 : -9223372036854775808 ≤ o) (h1 : o ≤ 9223372036854775807) (hno : ¬ (0 ≤ o ∧ o ≤ 255)) :
    Calls Try.prog 45 #[.int .i64 o, .slice A n c] w fun e w' => e = .returned (.tuple #[.string ⟨#[]⟩, .int .i64 1]) ∧ w = w' := by
  have H := Lib.hid (wire_isOption o w h0 h1)
  rw [show decide (0 ≤ o ∧ o ≤ 255) = false from decide_eq_false hno] at H
  clear hno
  go_enter Try.func45, Try.ntmps45
  go_wp2_with fail
  refine H.out.mono ?_
  rintro r w1 ⟨rfl, rfl⟩
  go_wp2_with fail
  go_ret2
  exact ⟨rfl, rfl⟩

theorem wire_sub_long (o : Nat) (A : Option Addr) (n c : Nat) (xs : List ByteArray) (w : World) (h1 : o ≤ 255) (h : Src w A n (xs.map Value.string)) (hx : ∀ x ∈ xs, x.size ≤ maxLen) (hn : n ≤ 1000000000) (hl : 40 < sum xs) :
    Calls Try.prog 45 #[.int .i64 (o : Int), .slice A n c] w fun e w' => e = .returned (.tuple #[.string ⟨#[]⟩, .int .i64 4]) ∧ w = w' := by
  have H := Lib.hid (wire_isOption o w (by omega) (by omega))
  rw [show decide (0 ≤ (o : Int) ∧ (o : Int) ≤ 255) = true from decide_eq_true (by omega)] at H
  have HF := Lib.hid (wire_fits A n c xs w h hx hn)
  rw [show decide (sum xs ≤ 40) = false from decide_eq_false (by omega)] at HF
  clear h hx hl
  go_enter Try.func45, Try.ntmps45
  go_wp2_with fail
  refine H.out.mono ?_
  rintro r w1 ⟨rfl, rfl⟩
  go_wp2_with fail
  refine HF.out.mono ?_
  rintro r w1 ⟨rfl, rfl⟩
  go_wp2_with fail
  go_ret2
  exact ⟨rfl, rfl⟩

set_option maxRecDepth 100000 in
set_option maxHeartbeats 800000 in
theorem wire_sub (o : Nat) (A : Option Addr) (n c : Nat) (xs : List ByteArray) (w : World) (h1 : o ≤ 255) (h : Src w A n (xs.map Value.string)) (hx : ∀ x ∈ xs, x.size ≤ maxLen) (hc : n ≤ c) (hn : n ≤ 1000000000) (hl : sum xs ≤ 40) :
    Calls Try.prog 45 #[.int .i64 (o : Int), .slice A n c] w fun e w' => e = .returned (.tuple #[.string ⟨(subL o (joinL xs)).toArray⟩, .int .i64 0]) ∧ Below w.heap.size w w' := by
  have H := Lib.hid (wire_isOption o w (by omega) (by omega))
  rw [show decide (0 ≤ (o : Int) ∧ (o : Int) ≤ 255) = true from decide_eq_true (by omega)] at H
  have HF := Lib.hid (wire_fits A n c xs w h hx hn)
  rw [show decide (sum xs ≤ 40) = true from decide_eq_true (by omega)] at HF
  obtain ⟨O, hO⟩ : ∃ O, O = UInt8.ofNat o := ⟨_, rfl⟩
  have o1 : IntKind.u8.wrap (o : Int) = (O.toNat : Int) := by rw [hO]; exact u8_of (by omega)
  have o2 : (o : Int) % 256 = (O.toNat : Int) := by rw [hO, toNat_ofNat (by omega)]; omega
  obtain ⟨T1, hT1⟩ : ∃ T : ByteArray, T = ⟨[255, 250, O].toArray⟩ := ⟨_, rfl⟩
  obtain ⟨D, hD⟩ : ∃ T : ByteArray, T = ⟨(sentL true (joinL xs)).toArray⟩ := ⟨_, rfl⟩
  obtain ⟨T2, hT2⟩ : ∃ T : ByteArray, T = ⟨[255, 240].toArray⟩ := ⟨_, rfl⟩
  have hX1 := wire_text (some ⟨w.heap.size, 0, none⟩) 3 3 [255, 250, O] _ (buf_row w [255, 250, O] 5 _ 3 rfl rfl (by omega) (by omega))
  rw [← hT1] at hX1
  have HT1 := Lib.hid (show Calls Try.prog 56 #[.slice (some ⟨w.heap.size, 0, none⟩) 3 3] (w.alloc (.cells #[.int .u8 255, .int .u8 250, .int .u8 (O.toNat : Int)] 5)) _ from hX1)
  have HT2 := Lib.hid (show ∀ W : World, Calls Try.prog 56 #[.slice (some ⟨W.heap.size, 0, none⟩) 2 2] (W.alloc (.cells #[.int .u8 255, .int .u8 240] 5)) (fun e w' => e = .returned (.string T2) ∧ W.alloc (.cells #[.int .u8 255, .int .u8 240] 5) = w') from fun W => by
    rw [hT2]
    exact wire_text (some ⟨W.heap.size, 0, none⟩) 2 2 [255, 240] _ (buf_row W [255, 240] 5 _ 2 rfl rfl (by omega) (by omega)))
  have b1 : Below w.heap.size w (w.alloc (.cells #[.int .u8 255, .int .u8 250, .int .u8 (O.toNat : Int)] 5)) := (Below.refl _ _).alloc (Nat.le_refl _) _
  have hX2 := wire_data true A n c xs _ (h.below b1) hc (by omega) hn
  rw [← hD] at hX2
  have HD := Lib.hid hX2
  have hz : (joinL xs).length ≤ 40 := by rw [joinL_len]; exact hl
  have hds : D.size ≤ 80 := by rw [hD, size_mk]; have := (sent_len true (joinL xs)).2; omega
  have hts : T1.size = 3 := by rw [hT1]; rfl
  have hus : T2.size = 2 := by rw [hT2]; rfl
  have z1 : T1.size + D.size ≤ 9223372036854775807 := by omega
  have z2 : (T1 ++ D).size + T2.size ≤ 9223372036854775807 := by rw [ByteArray.size_append]; omega
  have HR := Lib.hid (show (⟨(subL o (joinL xs)).toArray⟩ : ByteArray) = T1 ++ D ++ T2 by rw [hT1, hT2, hD, mk_add, mk_add, hO]; rfl)
  have B1 := Lib.hid b1
  clear h hx hl hO hT1 hD hT2 hX1 hX2 b1 hz hds hts hus
  go_enter Try.func45, Try.ntmps45
  go_wp2_with fail
  refine H.out.mono ?_
  rintro r w1 ⟨rfl, rfl⟩
  go_wp2_with fail
  refine HF.out.mono ?_
  rintro r w1 ⟨rfl, rfl⟩
  go_wp2_with fail
  refine HT1.out.mono ?_
  rintro r w1 ⟨rfl, rfl⟩
  go_wp2_with fail
  refine HD.out.mono ?_
  rintro r w2 ⟨rfl, b2⟩
  have B2 := Lib.hid (B1.out.trans (b2.mono B1.out.size))
  clear b2
  go_wp2_with fail
  refine (HT2.out w2).mono ?_
  rintro r w3 ⟨rfl, rfl⟩
  go_wp2_with fail
  go_ret2
  exact ⟨by rw [HR.out]; rfl, B2.out.alloc B2.out.size _⟩

end Go.Proofs.Ytmkgcmnimpkmjaa
