/- The document's Text of a rune. By program (rgn/XUtfRefT.py). Own work. -/
import Derived.Test.YtbjdcbnmpmcdiaaUtfTx
import Derived.Test.YtbjdcbnmpmcdiaaUtfHalfM
import Derived.Deep.Cut
namespace Go.Proofs.Ytbjdcbnmpmcdiaa
set_option linter.unusedVariables false
set_option linter.unusedSimpArgs false
open Go.RowKit

theorem byteCells_nats (s : ByteArray) : Lib.byteCells s.data.toList = (natsOf s).map fun n : Nat => Value.int .u8 (n : Int) := by simp [Lib.byteCells, natsOf]

/-- string(b) of bytes that were just laid. -/
theorem bytes_string {W : World} {P : Program} (src dst e : TypeId) (s : ByteArray) (cs : Array Value) (n : Nat) (hcs : cs.toList = (natsOf s).map fun n : Nat => Value.int .u8 (n : Int)) (hn : cs.size = n) (hm : n ≤ maxLen) (hs : P.underlying src = some (.slice e)) (he : P.underlying e = some (.int .u8)) (hd : P.underlying dst = some .string) :
    (convert src dst (.slice (some ⟨W.heap.size, 0, none⟩) n n)).run P (W.alloc (.cells cs e)) = .ok (.string s) (W.alloc (.cells cs e)) := by
  have hrow := Row.of_block (heap_alloc_new W (.cells cs e)) (.inl (Nat.le_refl _)) (n := n) (by omega) (by omega)
  have h2 : cs.toList.take n = Lib.byteCells s.data.toList := by
    rw [List.take_of_length_le (by simp; omega), byteCells_nats]; exact hcs
  rw [h2] at hrow
  have hcap : cs.size = n := hn
  rw [hcap] at hrow
  have := run_row_string src dst e hrow hs he hd
  rwa [mk_data] at this

theorem encode_bad (x : Int) (h : x < 0 ∨ x > 1114111 ∨ (x ≥ 55296 ∧ x ≤ 57343)) : Utf8.encode x = Utf8.encode 65533 := by
  have hv : Utf8.valid x = false := by unfold Utf8.valid; simp; omega
  unfold Utf8.encode
  rw [hv]
  rfl

theorem enc_cells1 (x : Int) (h1 : 0 ≤ x) (h2 : x ≤ 127) : (#[.int .u8 (x)] : Array Value).toList = (natsOf (Utf8.encode x)).map fun n : Nat => Value.int .u8 (n : Int) := by
  obtain ⟨c, rfl⟩ : ∃ c : Nat, x = (c : Int) := ⟨x.toNat, by omega⟩
  have hr : runeN (c : Int) = c := by
    unfold runeN
    rw [if_neg (by omega)]
    exact Int.toNat_natCast c
  rw [natsOf_encode, hr]
  unfold encN
  rw [if_pos (by omega)]
  simp

theorem enc_cells2 (x : Int) (h1 : 128 ≤ x) (h2 : x ≤ 2047) : (#[.int .u8 (192 + x / 64), .int .u8 (128 + x % 64)] : Array Value).toList = (natsOf (Utf8.encode x)).map fun n : Nat => Value.int .u8 (n : Int) := by
  obtain ⟨c, rfl⟩ : ∃ c : Nat, x = (c : Int) := ⟨x.toNat, by omega⟩
  have hr : runeN (c : Int) = c := by
    unfold runeN
    rw [if_neg (by omega)]
    exact Int.toNat_natCast c
  rw [natsOf_encode, hr]
  unfold encN
  rw [if_neg (by omega)]
  rw [if_pos (by omega)]
  simp

theorem enc_cells3 (x : Int) (h1 : 2048 ≤ x) (h2 : x ≤ 65535) (h3 : ¬ (55296 ≤ x ∧ x ≤ 57343)) : (#[.int .u8 (224 + x / 4096), .int .u8 (128 + x / 64 % 64), .int .u8 (128 + x % 64)] : Array Value).toList = (natsOf (Utf8.encode x)).map fun n : Nat => Value.int .u8 (n : Int) := by
  obtain ⟨c, rfl⟩ : ∃ c : Nat, x = (c : Int) := ⟨x.toNat, by omega⟩
  have hr : runeN (c : Int) = c := by
    unfold runeN
    rw [if_neg (by omega)]
    exact Int.toNat_natCast c
  rw [natsOf_encode, hr]
  unfold encN
  rw [if_neg (by omega)]
  rw [if_neg (by omega)]
  rw [if_pos (by omega)]
  simp

theorem enc_cells4 (x : Int) (h1 : 65536 ≤ x) (h2 : x ≤ 1114111) : (#[.int .u8 (240 + x / 262144), .int .u8 (128 + x / 4096 % 64), .int .u8 (128 + x / 64 % 64), .int .u8 (128 + x % 64)] : Array Value).toList = (natsOf (Utf8.encode x)).map fun n : Nat => Value.int .u8 (n : Int) := by
  obtain ⟨c, rfl⟩ : ∃ c : Nat, x = (c : Int) := ⟨x.toNat, by omega⟩
  have hr : runeN (c : Int) = c := by
    unfold runeN
    rw [if_neg (by omega)]
    exact Int.toNat_natCast c
  rw [natsOf_encode, hr]
  unfold encN
  rw [if_neg (by omega)]
  rw [if_neg (by omega)]
  rw [if_neg (by omega)]
  simp

set_option maxRecDepth 100000 in
set_option maxHeartbeats 1600000 in
theorem refText_one (x : Int) (w : World) (h1 : ¬ x < 0) (h2 : ¬ x > 1114111) (h3 : ¬ x ≥ 55296) (h5 : x < 128) :
    Calls Try.prog 59 #[.int .i32 x] w fun e w' => e = .returned (.string (Utf8.encode x)) ∧ Below w.heap.size w w' := by
  have hcv := bytes_string (W := w) (P := Try.prog) 109 9 5 (Utf8.encode x) #[.int .u8 (x)] 1 (enc_cells1 x (by omega) (by omega)) rfl (by unfold maxLen; omega) Try.underlying109 Try.underlying5 Try.underlying9
  go_enter Try.func59, Try.ntmps59
  go_wp2_with fail
  go_ret
  exact ⟨rfl, (Below.refl _ _).alloc (Nat.le_refl _) _⟩

set_option maxRecDepth 100000 in
set_option maxHeartbeats 1600000 in
theorem refText_two (x : Int) (w : World) (h1 : ¬ x < 0) (h2 : ¬ x > 1114111) (h3 : ¬ x ≥ 55296) (h5 : ¬ x < 128) (h6 : x < 2048) :
    Calls Try.prog 59 #[.int .i32 x] w fun e w' => e = .returned (.string (Utf8.encode x)) ∧ Below w.heap.size w w' := by
  have hcv := bytes_string (W := w) (P := Try.prog) 109 9 5 (Utf8.encode x) #[.int .u8 (192 + x / 64), .int .u8 (128 + x % 64)] 2 (enc_cells2 x (by omega) (by omega)) rfl (by unfold maxLen; omega) Try.underlying109 Try.underlying5 Try.underlying9
  go_enter Try.func59, Try.ntmps59
  go_wp2_with fail
  go_ret
  exact ⟨rfl, (Below.refl _ _).alloc (Nat.le_refl _) _⟩

set_option maxRecDepth 100000 in
set_option maxHeartbeats 1600000 in
theorem refText_three1 (x : Int) (w : World) (h1 : ¬ x < 0) (h2 : ¬ x > 1114111) (h3 : ¬ x ≥ 55296) (h5 : ¬ x < 128) (h6 : ¬ x < 2048) (h7 : x < 65536) :
    Calls Try.prog 59 #[.int .i32 x] w fun e w' => e = .returned (.string (Utf8.encode x)) ∧ Below w.heap.size w w' := by
  have hcv := bytes_string (W := w) (P := Try.prog) 109 9 5 (Utf8.encode x) #[.int .u8 (224 + x / 4096), .int .u8 (128 + x / 64 % 64), .int .u8 (128 + x % 64)] 3 (enc_cells3 x (by omega) (by omega) (by omega)) rfl (by unfold maxLen; omega) Try.underlying109 Try.underlying5 Try.underlying9
  go_enter Try.func59, Try.ntmps59
  go_wp2_with fail
  go_ret
  exact ⟨rfl, (Below.refl _ _).alloc (Nat.le_refl _) _⟩

set_option maxRecDepth 100000 in
set_option maxHeartbeats 1600000 in
theorem refText_three2 (x : Int) (w : World) (h1 : ¬ x < 0) (h2 : ¬ x > 1114111) (h3 : x ≥ 55296) (h4 : ¬ x ≤ 57343) (h5 : ¬ x < 128) (h6 : ¬ x < 2048) (h7 : x < 65536) :
    Calls Try.prog 59 #[.int .i32 x] w fun e w' => e = .returned (.string (Utf8.encode x)) ∧ Below w.heap.size w w' := by
  have hcv := bytes_string (W := w) (P := Try.prog) 109 9 5 (Utf8.encode x) #[.int .u8 (224 + x / 4096), .int .u8 (128 + x / 64 % 64), .int .u8 (128 + x % 64)] 3 (enc_cells3 x (by omega) (by omega) (by omega)) rfl (by unfold maxLen; omega) Try.underlying109 Try.underlying5 Try.underlying9
  go_enter Try.func59, Try.ntmps59
  go_wp2_with fail
  go_ret
  exact ⟨rfl, (Below.refl _ _).alloc (Nat.le_refl _) _⟩

set_option maxRecDepth 100000 in
set_option maxHeartbeats 1600000 in
theorem refText_four (x : Int) (w : World) (h1 : ¬ x < 0) (h2 : ¬ x > 1114111) (h3 : x ≥ 55296) (h4 : ¬ x ≤ 57343) (h5 : ¬ x < 128) (h6 : ¬ x < 2048) (h7 : ¬ x < 65536) :
    Calls Try.prog 59 #[.int .i32 x] w fun e w' => e = .returned (.string (Utf8.encode x)) ∧ Below w.heap.size w w' := by
  have hcv := bytes_string (W := w) (P := Try.prog) 109 9 5 (Utf8.encode x) #[.int .u8 (240 + x / 262144), .int .u8 (128 + x / 4096 % 64), .int .u8 (128 + x / 64 % 64), .int .u8 (128 + x % 64)] 4 (enc_cells4 x (by omega) (by omega)) rfl (by unfold maxLen; omega) Try.underlying109 Try.underlying5 Try.underlying9
  go_enter Try.func59, Try.ntmps59
  go_wp2_with fail
  go_ret
  exact ⟨rfl, (Below.refl _ _).alloc (Nat.le_refl _) _⟩

set_option maxRecDepth 100000 in
set_option maxHeartbeats 1600000 in
theorem refText_low (x : Int) (w : World) (h1 : x < 0) :
    Calls Try.prog 59 #[.int .i32 x] w fun e w' => e = .returned (.string (Utf8.encode x)) ∧ Below w.heap.size w w' := by
  rw [encode_bad x (.inl h1)]
  go_enter Try.func59, Try.ntmps59
  go_upto_region 3 with fail
  obtain ⟨y, hy⟩ : ∃ y : Int, y = 65533 := ⟨_, rfl⟩
  have hcv := bytes_string (W := w) (P := Try.prog) 109 9 5 (Utf8.encode y) #[.int .u8 (224 + y / 4096), .int .u8 (128 + y / 64 % 64), .int .u8 (128 + y % 64)] 3 (enc_cells3 y (by omega) (by omega) (by omega)) rfl (by unfold maxLen; omega) Try.underlying109 Try.underlying5 Try.underlying9
  have k5 : ¬ y < 128 := by omega
  have k6 : ¬ y < 2048 := by omega
  have k7 : y < 65536 := by omega
  have HY := Lib.hid hy
  rw [← hy]
  clear hy h1
  go_wp2_with fail
  go_ret
  exact ⟨congrArg (fun z : Int => Ending.returned (.string (Utf8.encode z))) HY.out, (Below.refl _ _).alloc (Nat.le_refl _) _⟩

set_option maxRecDepth 100000 in
set_option maxHeartbeats 1600000 in
theorem refText_high (x : Int) (w : World) (h0 : ¬ x < 0) (h1 : x > 1114111) :
    Calls Try.prog 59 #[.int .i32 x] w fun e w' => e = .returned (.string (Utf8.encode x)) ∧ Below w.heap.size w w' := by
  rw [encode_bad x (.inr (.inl h1))]
  go_enter Try.func59, Try.ntmps59
  go_upto_region 3 with fail
  obtain ⟨y, hy⟩ : ∃ y : Int, y = 65533 := ⟨_, rfl⟩
  have hcv := bytes_string (W := w) (P := Try.prog) 109 9 5 (Utf8.encode y) #[.int .u8 (224 + y / 4096), .int .u8 (128 + y / 64 % 64), .int .u8 (128 + y % 64)] 3 (enc_cells3 y (by omega) (by omega) (by omega)) rfl (by unfold maxLen; omega) Try.underlying109 Try.underlying5 Try.underlying9
  have k5 : ¬ y < 128 := by omega
  have k6 : ¬ y < 2048 := by omega
  have k7 : y < 65536 := by omega
  have HY := Lib.hid hy
  rw [← hy]
  clear hy h1
  go_wp2_with fail
  go_ret
  exact ⟨congrArg (fun z : Int => Ending.returned (.string (Utf8.encode z))) HY.out, (Below.refl _ _).alloc (Nat.le_refl _) _⟩

set_option maxRecDepth 100000 in
set_option maxHeartbeats 1600000 in
theorem refText_pair (x : Int) (w : World) (h0 : ¬ x < 0) (h2 : ¬ x > 1114111) (h3 : x ≥ 55296) (h1 : x ≤ 57343) :
    Calls Try.prog 59 #[.int .i32 x] w fun e w' => e = .returned (.string (Utf8.encode x)) ∧ Below w.heap.size w w' := by
  rw [encode_bad x (.inr (.inr ⟨h3, h1⟩))]
  go_enter Try.func59, Try.ntmps59
  go_upto_region 3 with fail
  obtain ⟨y, hy⟩ : ∃ y : Int, y = 65533 := ⟨_, rfl⟩
  have hcv := bytes_string (W := w) (P := Try.prog) 109 9 5 (Utf8.encode y) #[.int .u8 (224 + y / 4096), .int .u8 (128 + y / 64 % 64), .int .u8 (128 + y % 64)] 3 (enc_cells3 y (by omega) (by omega) (by omega)) rfl (by unfold maxLen; omega) Try.underlying109 Try.underlying5 Try.underlying9
  have k5 : ¬ y < 128 := by omega
  have k6 : ¬ y < 2048 := by omega
  have k7 : y < 65536 := by omega
  have HY := Lib.hid hy
  rw [← hy]
  clear hy h1
  go_wp2_with fail
  go_ret
  exact ⟨congrArg (fun z : Int => Ending.returned (.string (Utf8.encode z))) HY.out, (Below.refl _ _).alloc (Nat.le_refl _) _⟩

theorem refText (x : Int) (w : World) :
    Calls Try.prog 59 #[.int .i32 x] w fun e w' => e = .returned (.string (Utf8.encode x)) ∧ Below w.heap.size w w' := by
  by_cases h1 : x < 0
  · exact refText_low x w h1
  by_cases h2 : x > 1114111
  · exact refText_high x w h1 h2
  by_cases h3 : x ≥ 55296
  · by_cases h4 : x ≤ 57343
    · exact refText_pair x w h1 h2 h3 h4
    by_cases h7 : x < 65536
    · exact refText_three2 x w h1 h2 h3 h4 (by omega) (by omega) h7
    · exact refText_four x w h1 h2 h3 h4 (by omega) (by omega) h7
  by_cases h5 : x < 128
  · exact refText_one x w h1 h2 h3 h5
  by_cases h6 : x < 2048
  · exact refText_two x w h1 h2 h3 h5 h6
  · exact refText_three1 x w h1 h2 h3 h5 h6 (by omega)

end Go.Proofs.Ytbjdcbnmpmcdiaa
