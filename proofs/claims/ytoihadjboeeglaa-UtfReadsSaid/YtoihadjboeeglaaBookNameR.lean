/- pontoonbook's marks of runes. Own work. -/
import Derived.Test.YtoihadjboeeglaaBase
import Derived.Test.YtoihadjboeeglaaRunes
import Derived.Test.YtoihadjboeeglaaRows
set_option linter.unusedVariables false
set_option linter.unusedSimpArgs false
namespace Go.Proofs.Ytoihadjboeeglaa.Rn
set_option linter.unusedVariables false
open Go.RowKit

/-- A mark. -/
def markR (i k : Nat) : Int := -1000 * (i : Int) - (k : Int) - 7

/-- n marks of list i, from f on. -/
def marksR (i f n : Nat) : List Int := (List.range n).map fun j => markR i (f + j)

theorem marksR_succ (i f n : Nat) : marksR i f (n + 1) = marksR i f n ++ [markR i (f + n)] := by simp [marksR, List.range_succ]
theorem marksR_length (i f n : Nat) : (marksR i f n).length = n := by simp [marksR]
theorem marksR_add (i f n m : Nat) : marksR i f n ++ marksR i (f + n) m = marksR i f (n + m) := by
  induction m with
  | zero => simp [marksR]
  | succ m ih => rw [marksR_succ, ← List.append_assoc, ih, show n + (m + 1) = (n + m) + 1 from by omega, marksR_succ, Nat.add_assoc]
theorem marksR_at (i f n j : Nat) (h : j < n) : (marksR i f n)[j]? = some (markR i (f + j)) := by simp [marksR, List.getElem?_map, List.getElem?_range h]

set_option maxRecDepth 100000 in
set_option maxHeartbeats 800000 in
theorem marks_any (i f n : Nat) (w : World) (hi : i ≤ 1000000) (hf : f + n ≤ 1000000) :
    Calls Try.prog 77 #[.int .i64 i, .int .i64 f, .int .i64 n] w fun e w' => ∃ v, e = .returned v ∧ w'.ownsRow w.heap.size 21 1 v n ((marksR i f n).map (Value.int .i32)) ∧ Below w.heap.size w w' := by
  obtain ⟨i0, hi0, hz0, hz1, hz2⟩ := info_parts rune_info
  go_enter Try.func77, Try.ntmps77
  go_wp2_with fail
  go_loopw [7, 8] (fun v x wr => ∃ k : Nat, k ≤ n ∧ x = .int .i64 ((f + k : Nat) : Int) ∧ Hid (wr.ownsRow w.heap.size 21 1 v k ((marksR i f k).map (Value.int .i32))) ∧ Hid (Below w.heap.size w wr)) (fun _ x _ => f + n - (intOf x).toNat)
  case atStart => exact ⟨0, Nat.zero_le _, rfl, World.ownsRow_nil _ _ _ _, Below.refl _ _⟩
  case round =>
    obtain ⟨k, hk, rfl, HO, HB⟩ := hrel
    by_cases hlt : k < n
    · have hfk : f + k ≤ 1000000 := by omega
      have hs1 : w.heap.size ≤ wr.heap.size := HB.out.size
      have hw : IntKind.i32.wrap (-1000 * (i : Int) - ((f : Int) + (k : Int)) - 7) = markR i (f + k) := by
        rw [show markR i (f + k) = -1000 * (i : Int) - ((f : Int) + (k : Int)) - 7 from by simp [markR]]
        rw [IntKind.wrap_i32]; omega
      go_wp2_with (at_builtin; refine wpList_append_own_at _ rfl (.tmp 17) (.tmp 24) 46 rfl w.heap.size 21 i0 (.int .i32 0) 1 4 Try.underlying46 hi0 hz0 hz1 hz2 rfl (by decide) _ k ((marksR i f k).map (Value.int .i32)) rfl (HO.out.alloc _) ⟨wr.heap.size, 0, none⟩ 1 1 [.int .i32 (markR i (f + k))] rfl rfl (cell_one_new _ _ _) ?c2 ?c3 ?c4 ?c5 ?_)
      case c2 => intro u hu; simp at hu; subst hu; rfl
      case c3 => unfold maxLen; omega
      case c4 => omega
      case c5 => simp; omega
      · intro v' w2 hown hgrow _ _
        have HO2 : Hid (w2.ownsRow w.heap.size 21 1 v' (k + 1) ((marksR i f (k + 1)).map (Value.int .i32))) := by
          show World.ownsRow _ _ _ _ _ _ _
          rw [marksR_succ, List.map_append]
          exact hown
        have HB2 : Hid (Below w.heap.size w w2) := (HB.out.alloc hs1 _).grown hgrow (by simp; omega) (fun q hq => (HO.out.lt q hq).1)
        clear hown hgrow
        go_wp2_with fail
        go_roundw
        case rel => exact ⟨k + 1, by omega, by go_num, HO2, HB2⟩
        case measure => simp [intOf]; omega
    · have e : k = n := by omega
      have HO2 : Hid (wr.ownsRow w.heap.size 21 1 u7 n ((marksR i f n).map (Value.int .i32))) := by
        show World.ownsRow _ _ _ _ _ _ _
        rw [← e]; exact HO.out
      clear e HO
      go_wp2_with fail
      go_ret
      exact ⟨_, rfl, HO2.out, HB.out⟩

end Go.Proofs.Ytoihadjboeeglaa.Rn
