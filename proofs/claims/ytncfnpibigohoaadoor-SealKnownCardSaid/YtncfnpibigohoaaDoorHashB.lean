/- begin, lay, turned. Own work. -/
import Derived.Test.YtncfnpibigohoaaDoorTake
import Derived.Maps.AppendAt
namespace Go.Proofs.YtncfnpibigohoaaDoor
set_option linter.unusedVariables false
open Go.RowKit

theorem zero_message (w : World) : (zeroValue 59).run Tryd.prog w = .ok (.agg #[.int .u32 0, .int .u32 0, .int .u32 0, .int .u32 0, .int .u32 0, .int .u32 0, .int .u32 0, .int .u32 0, .int .u8 0, .int .u8 0, .int .u8 0, .int .u8 0, .int .u8 0, .int .u8 0, .int .u8 0, .int .u8 0, .int .u8 0, .int .u8 0, .int .u8 0, .int .u8 0, .int .u8 0, .int .u8 0, .int .u8 0, .int .u8 0, .int .u8 0, .int .u8 0, .int .u8 0, .int .u8 0, .int .u8 0, .int .u8 0, .int .u8 0, .int .u8 0, .int .u8 0, .int .u8 0, .int .u8 0, .int .u8 0, .int .u8 0, .int .u8 0, .int .u8 0, .int .u8 0, .int .u8 0, .int .u8 0, .int .u8 0, .int .u8 0, .int .u8 0, .int .u8 0, .int .u8 0, .int .u8 0, .int .u8 0, .int .u8 0, .int .u8 0, .int .u8 0, .int .u8 0, .int .u8 0, .int .u8 0, .int .u8 0, .int .u8 0, .int .u8 0, .int .u8 0, .int .u8 0, .int .u8 0, .int .u8 0, .int .u8 0, .int .u8 0, .int .u8 0, .int .u8 0, .int .u8 0, .int .u8 0, .int .u8 0, .int .u8 0, .int .u8 0, .int .u8 0, .int .i64 0]) w :=
  (zero_of_info (show (Tryd.prog.info? 59).map (fun i => (i.zero, i.size)) = some (some (.agg #[.int .u32 0, .int .u32 0, .int .u32 0, .int .u32 0, .int .u32 0, .int .u32 0, .int .u32 0, .int .u32 0, .int .u8 0, .int .u8 0, .int .u8 0, .int .u8 0, .int .u8 0, .int .u8 0, .int .u8 0, .int .u8 0, .int .u8 0, .int .u8 0, .int .u8 0, .int .u8 0, .int .u8 0, .int .u8 0, .int .u8 0, .int .u8 0, .int .u8 0, .int .u8 0, .int .u8 0, .int .u8 0, .int .u8 0, .int .u8 0, .int .u8 0, .int .u8 0, .int .u8 0, .int .u8 0, .int .u8 0, .int .u8 0, .int .u8 0, .int .u8 0, .int .u8 0, .int .u8 0, .int .u8 0, .int .u8 0, .int .u8 0, .int .u8 0, .int .u8 0, .int .u8 0, .int .u8 0, .int .u8 0, .int .u8 0, .int .u8 0, .int .u8 0, .int .u8 0, .int .u8 0, .int .u8 0, .int .u8 0, .int .u8 0, .int .u8 0, .int .u8 0, .int .u8 0, .int .u8 0, .int .u8 0, .int .u8 0, .int .u8 0, .int .u8 0, .int .u8 0, .int .u8 0, .int .u8 0, .int .u8 0, .int .u8 0, .int .u8 0, .int .u8 0, .int .u8 0, .int .i64 0]), 73) by kernel_rfl)).1 w

set_option maxRecDepth 100000 in
set_option maxHeartbeats 1600000 in
theorem begin_any (w : World) :
    Calls Tryd.prog 23 #[] w fun r w' => r = .returned (.pointer (some ⟨w.heap.size, 0, none⟩)) ∧ MsgL w' w.heap.size [] ∧ Below w.heap.size w w' := by
  have hm : ∀ C : List Value, C = msgCells st0 (List.replicate 64 0) 0 → MsgL (w.alloc (.cells C.toArray 59)) w.heap.size [] := fun C hC =>
    ⟨List.replicate 64 0, ⟨by simp, by rw [heap_alloc_new, hC]; rfl⟩, rfl⟩
  have HM := Lib.hid hm
  have hz := fun w => zero_message w
  clear hm
  go_enter Tryd.func23, Tryd.ntmps23
  go_wp2_with fail
  go_ret
  exact ⟨rfl, HM.out _ (by kernel_rfl), (Below.refl _ _).alloc (Nat.le_refl _) _⟩

/-- n bytes that a call has laid, in a row of its own. -/
def OwnB (w : World) (B : Nat) (v : Value) (l : List UInt8) : Prop := w.ownsRow B 5 1 v l.length (Lib.byteCells l)

theorem be_len (n k : Nat) : (be n k).length = k := by
  induction k with
  | zero => rfl
  | succ k ih => simp [be, ih]

theorem u8_shift (n k : Nat) : IntKind.u8.wrap (((n / 2 ^ (8 * k) : Nat)) : Int) = ((UInt8.ofNat (n >>> (8 * k))).toNat : Int) := by
  rw [IntKind.wrap_u8', Nat.shiftRight_eq_div_pow]
  simp

set_option maxRecDepth 100000 in
set_option maxHeartbeats 1600000 in
theorem lay_any (B : Nat) (v : Value) (l : List UInt8) (n size : Nat) (w : World) (h : OwnB w B v l) (hB : B ≤ w.heap.size) (hs1 : 1 ≤ size) (hs : size ≤ 8) (hn : n < 18446744073709551616) (hl : l.length ≤ 1000000) :
    Calls Tryd.prog 35 #[v, .int .u64 n, .int .i64 size] w fun r w' => ∃ v', r = .returned v' ∧ OwnB w' B v' (l ++ be n size) ∧ Below B w w' := by
  obtain ⟨A0, c0, rfl, _⟩ := own_form h
  have H := Lib.hid h
  obtain ⟨i0, hi, hz0, hz1, hz2⟩ := info_parts byte_info
  clear h
  go_enter Tryd.func35, Tryd.ntmps35
  go_wp2_with fail
  go_loopw [0, 7] (fun v i wr => ∃ (k : Nat) (m : List UInt8), k ≤ size ∧ i = .int .i64 ((k : Int) - 1) ∧ Hid (OwnB wr B v m) ∧ m.length ≤ 1000008 - k ∧ Hid (m ++ be n k = l ++ be n size) ∧ Hid (Below B w wr)) (fun _ i _ => (intOf i + 1).toNat)
  case atStart => exact ⟨size, l, Nat.le_refl _, rfl, H, by omega, rfl, Below.refl _ _⟩
  case round =>
    obtain ⟨k, m, hk, rfl, HO, hm, HE, HB⟩ := hrel
    obtain ⟨A1, c1, rfl, _⟩ := own_form HO.out
    rcases Nat.eq_zero_or_pos k with h0 | h0
    · subst h0
      go_wp2_with fail
      go_ret
      have := HE.out
      simp only [be, List.append_nil] at this
      exact ⟨_, rfl, by rw [← this]; exact HO.out, HB.out⟩
    · obtain ⟨j, rfl⟩ : ∃ j, k = j + 1 := ⟨k - 1, by omega⟩
      have e1 : ((j + 1 : Nat) : Int) - 1 = (j : Int) := by omega
      rw [e1]
      have hj : (j : Int) ≤ 7 := by omega
      have hj0 : (0 : Int) ≤ (j : Int) := by omega
      have e2 := u8_shift n j
      clear e1
      go_wp2_with (at_builtin; refine wpList_append_own_at _ rfl (.tmp 14) (.tmp 20) 34 rfl B 5 i0 (.int .u8 0) 1 1 Tryd.underlying34 hi hz0 hz1 hz2 rfl (by decide) (.slice A1 m.length c1) m.length (Lib.byteCells m) rfl (HO.out.alloc _) ⟨wr.heap.size, 0, none⟩ 1 1 _ rfl rfl (cell_one_new _ _ _) ?c2 ?c3 ?c4 ?c5 ?_)
      case c2 => intro u hu; simp at hu; subst hu; rfl
      case c3 => unfold maxLen; omega
      case c4 => omega
      case c5 => exact Nat.le_trans (Nat.le_trans hB HB.out.size) (by simp)
      · intro v' w1 hown' hgrow _ hat
        have hO2 : OwnB w1 B v' (m ++ [UInt8.ofNat (n >>> (8 * j))]) := by
          unfold OwnB
          rw [List.length_append, List.length_singleton]
          have e3 : Lib.byteCells (m ++ [UInt8.ofNat (n >>> (8 * j))]) = Lib.byteCells m ++ [.int .u8 (((UInt8.ofNat (n >>> (8 * j))).toNat : Nat) : Int)] := by simp [Lib.byteCells]
          rw [e3]
          have e4 : (n : Int) / 2 ^ (8 * j) % 256 = (((UInt8.ofNat (n >>> (8 * j))).toNat : Nat) : Int) := by
            rw [← e2, IntKind.wrap_u8']; simp
          rw [← e4]
          exact hown'
        have hB2 : Below B w w1 := HB.out.trans (((Below.refl _ _).alloc (Nat.le_trans hB HB.out.size) _).grown hgrow (by have := HB.out.size; simp; omega) (fun k hk => (World.ownsRow.lt HO.out k (by simpa [Value.ownBlock] using hk)).1))
        have HO2 := Lib.hid hO2
        have HB2 := Lib.hid hB2
        have hE2 : (m ++ [UInt8.ofNat (n >>> (8 * j))]) ++ be n j = l ++ be n size := by rw [← HE.out]; simp [be]
        have HE2 := Lib.hid hE2
        clear hown' hgrow hat hO2 hB2 hE2
        go_wp2_with fail
        go_roundw
        case rel => exact ⟨j, _, by omega, by go_num, HO2.out, by rw [List.length_append, List.length_singleton]; omega, HE2.out, HB2.out⟩
        case measure => simp [intOf]
end Go.Proofs.YtncfnpibigohoaaDoor
