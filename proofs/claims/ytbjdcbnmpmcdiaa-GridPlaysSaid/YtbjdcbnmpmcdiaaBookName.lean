/- pontoonbook's marks of texts. Own work. -/
import Derived.Test.YtbjdcbnmpmcdiaaBase
import Derived.Test.YtbjdcbnmpmcdiaaBookT0
import Derived.Test.YtbjdcbnmpmcdiaaRows
set_option linter.unusedVariables false
set_option linter.unusedSimpArgs false
namespace Go.Proofs.Ytbjdcbnmpmcdiaa
set_option linter.unusedVariables false
open Go.RowKit

/-- A mark's name. -/
def nameL (i k : Nat) : List UInt8 := [109, UInt8.ofNat (65 + i % 26), UInt8.ofNat (65 + i / 26 % 26), UInt8.ofNat (48 + k % 10), UInt8.ofNat (48 + k / 10 % 10), UInt8.ofNat (48 + k / 100 % 10)]
def nameB (i k : Nat) : ByteArray := ⟨(nameL i k).toArray⟩

theorem name_cells (i k : Nat) : (Lib.byteCells (nameL i k)).toArray = #[.int .u8 109, .int .u8 (65 + (i : Int) % 26), .int .u8 (65 + (i : Int) / 26 % 26), .int .u8 (48 + (k : Int) % 10), .int .u8 (48 + (k : Int) / 10 % 10), .int .u8 (48 + (k : Int) / 100 % 10)] := by
  have h (n : Nat) (hn : n < 256) : ((UInt8.ofNat n).toNat : Int) = (n : Int) := by rw [toNat_ofNat hn]
  simp only [nameL, Lib.byteCells, List.map_cons, List.map_nil]
  rw [h _ (by omega), h _ (by omega), h _ (by omega), h _ (by omega), h _ (by omega)]
  simp

set_option maxRecDepth 100000 in
set_option maxHeartbeats 400000 in
theorem name_any (i k : Nat) (w : World) (hi : i ≤ 1000000) (hk : k ≤ 1000000) :
    Calls Try.prog 108 #[.int .i64 i, .int .i64 k] w fun e w' => e = .returned (.string (nameB i k)) ∧ Below w.heap.size w w' := by
  have hrow := Row.of_block (heap_alloc_new w (.cells (Lib.byteCells (nameL i k)).toArray 5)) (.inl (Nat.le_refl _)) (n := 6) (by simp [nameL, Lib.byteCells]) (by simp [nameL, Lib.byteCells, maxLen])
  have hsz : (Lib.byteCells (nameL i k)).toArray.size = 6 := by simp [nameL, Lib.byteCells]
  rw [hsz] at hrow
  have htk : ((Lib.byteCells (nameL i k)).toArray.toList.take 6) = Lib.byteCells (nameL i k) := List.take_of_length_le (by simp [nameL, Lib.byteCells])
  rw [htk] at hrow
  have hcv := run_row_string (P := Try.prog) 109 9 5 hrow Try.underlying109 Try.underlying5 Try.underlying9
  rw [name_cells] at hcv
  clear hrow hsz htk
  go_enter Try.func108, Try.ntmps108
  go_wp2
  go_ret
  exact ⟨rfl, (Below.refl _ _).alloc (Nat.le_refl _) _⟩

/-- n marks of list i, from f on. -/
def marksT (i f n : Nat) : List ByteArray := (List.range n).map fun j => nameB i (f + j)

theorem marksT_succ (i f n : Nat) : marksT i f (n + 1) = marksT i f n ++ [nameB i (f + n)] := by simp [marksT, List.range_succ]
theorem marksT_length (i f n : Nat) : (marksT i f n).length = n := by simp [marksT]
theorem marksT_add (i f n m : Nat) : marksT i f n ++ marksT i (f + n) m = marksT i f (n + m) := by
  induction m with
  | zero => simp [marksT]
  | succ m ih => rw [marksT_succ, ← List.append_assoc, ih, show n + (m + 1) = (n + m) + 1 from by omega, marksT_succ, Nat.add_assoc]
theorem marksT_at (i f n j : Nat) (h : j < n) : (marksT i f n)[j]? = some (nameB i (f + j)) := by simp [marksT, List.getElem?_map, List.getElem?_range h]

set_option maxRecDepth 100000 in
set_option maxHeartbeats 800000 in
theorem marks_any (i f n : Nat) (w : World) (hi : i ≤ 1000000) (hf : f + n ≤ 1000000) :
    Calls Try.prog 102 #[.int .i64 i, .int .i64 f, .int .i64 n] w fun e w' => ∃ v, e = .returned v ∧ w'.ownsRow w.heap.size 9 1 v n ((marksT i f n).map Value.string) ∧ Below w.heap.size w w' := by
  obtain ⟨i0, hi0, hz0, hz1, hz2⟩ := info_parts string_info
  go_enter Try.func102, Try.ntmps102
  go_wp2_with fail
  go_loopw [7, 8] (fun v x wr => ∃ k : Nat, k ≤ n ∧ x = .int .i64 ((f + k : Nat) : Int) ∧ Hid (wr.ownsRow w.heap.size 9 1 v k ((marksT i f k).map Value.string)) ∧ Hid (Below w.heap.size w wr)) (fun _ x _ => f + n - (intOf x).toNat)
  case atStart => exact ⟨0, Nat.zero_le _, rfl, World.ownsRow_nil _ _ _ _, Below.refl _ _⟩
  case round =>
    obtain ⟨k, hk, rfl, HO, HB⟩ := hrel
    by_cases hlt : k < n
    · have hfk : f + k ≤ 1000000 := by omega
      have HN : Hid (∀ W, Calls Try.prog 108 #[.int .i64 i, .int .i64 (f + k)] W fun e w' => e = .returned (.string (nameB i (f + k))) ∧ Below W.heap.size W w') := fun W => by simpa using name_any i (f + k) W hi hfk
      go_wp2_with fail
      refine (HN.out _).mono ?_
      rintro e w1 ⟨rfl, hb⟩
      have hsz := HB.out.size
      have HB1 := Lib.hid (HB.out.trans (hb.mono hsz))
      have HO1 := Lib.hid (own_keep HO.out (Keep.of_below (fun _ => False) hb) (fun _ _ x => x))
      have hs1 : w.heap.size ≤ w1.heap.size := HB1.out.size
      clear hb hsz
      go_wp2_with (at_builtin; refine wpList_append_own_at _ rfl (.tmp 17) (.tmp 21) 61 rfl w.heap.size 9 i0 (.string .empty) 1 16 Try.underlying61 hi0 hz0 hz1 hz2 rfl (by decide) _ k ((marksT i f k).map (Value.string)) rfl (HO1.out.alloc _) ⟨w1.heap.size, 0, none⟩ 1 1 [.string (nameB i (f + k))] rfl rfl (cell_one_new _ _ _) ?c2 ?c3 ?c4 ?c5 ?_)
      case c2 => intro u hu; simp at hu; subst hu; rfl
      case c3 => unfold maxLen; omega
      case c4 => omega
      case c5 => simp; omega
      · intro v' w2 hown hgrow _ _
        have HO2 : Hid (w2.ownsRow w.heap.size 9 1 v' (k + 1) ((marksT i f (k + 1)).map Value.string)) := by
          show World.ownsRow _ _ _ _ _ _ _
          rw [marksT_succ, List.map_append]
          exact hown
        have HB2 : Hid (Below w.heap.size w w2) := (HB1.out.alloc hs1 _).grown hgrow (by simp; omega) (fun q hq => (HO1.out.lt q hq).1)
        clear hown hgrow
        go_wp2_with fail
        go_roundw
        case rel => exact ⟨k + 1, by omega, by go_num, HO2, HB2⟩
        case measure => simp [intOf]; omega
    · have e : k = n := by omega
      have HO2 : Hid (wr.ownsRow w.heap.size 9 1 u7 n ((marksT i f n).map Value.string)) := by
        show World.ownsRow _ _ _ _ _ _ _
        rw [← e]; exact HO.out
      clear e HO
      go_wp2_with fail
      go_ret
      exact ⟨_, rfl, HO2.out, HB.out⟩

end Go.Proofs.Ytbjdcbnmpmcdiaa
