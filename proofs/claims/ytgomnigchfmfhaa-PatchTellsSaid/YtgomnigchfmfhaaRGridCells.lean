/- grid: the document's Cells. Own work. -/
import Derived.Test.YtgomnigchfmfhaaRGridFill
import Derived.Test.YtgomnigchfmfhaaGrids
namespace Go.Proofs.Ytgomnigchfmfhaa
set_option linter.unusedVariables false
set_option linter.unusedSimpArgs false
open Go.RowKit

theorem flatF_add (f : Nat → CellM) (a b : Nat) : flatF f (a + b) = flatF f a ++ flatF (fun k => f (a + k)) b := by
  induction b with
  | zero => simp [flatF]
  | succ b ih => rw [Nat.add_succ, flatF_succ, ih, flatF_succ, List.append_assoc]
theorem flatF_congr {f g : Nat → CellM} {n : Nat} (h : ∀ k, k < n → f k = g k) : flatF f n = flatF g n := by
  induction n with
  | zero => rfl
  | succ n ih => rw [flatF_succ, flatF_succ, ih (fun k hk => h k (by omega)), h n (by omega)]
/-- A grid's cells, row by row. -/
def linF (W : Nat) (F : Nat → Nat → CellM) (p : Nat) : CellM := F (p / W) (p % W)
theorem linF_at {W : Nat} (F : Nat → Nat → CellM) (y x : Nat) (hx : x < W) : linF W F (y * W + x) = F y x := by
  unfold linF
  rw [Nat.mul_comm, Nat.mul_add_div (by omega), Nat.mul_add_mod, Nat.div_eq_of_lt hx, Nat.mod_eq_of_lt hx, Nat.add_zero]

set_option maxRecDepth 100000 in
set_option maxHeartbeats 1600000 in
theorem ref_cells (w : World) (r lb lc W H : Nat) (R : Nat → Nat) (F : Nat → Nat → CellM) (h : RGrid w r lb lc W H R F) :
    Calls Try.prog 44 #[.pointer (some ⟨r, 0, none⟩)] w (CloneTo (W * H) (linF W F) w) := by
  obtain ⟨i0, hi0, hz0, hz1, hz2⟩ := info_parts cell_row
  have HG := Lib.hid h
  have hhh := h.hh
  have hww := h.hw
  have hH20 : (H : Int) ≤ 20 := by omega
  have h8 : Hid (∀ y, y ≤ H → y * W ≤ 800) := Lib.hid (fun y hy => Nat.mul_le_mul (show y ≤ 20 by omega) (show W ≤ 40 by omega))
  have h0 : 0 < W * H := Nat.mul_pos (by omega) (by omega)
  clear h hhh
  go_enter Try.func44, Try.ntmps44
  go_wp2_with fail
  go_loopw [3, 4] (fun o i wr => ∃ y, i = .int .i64 ((y : Nat) : Int) ∧ y ≤ H ∧ Hid (wr.ownsRow w.heap.size 40 6 o (y * W) (flatF (linF W F) (y * W))) ∧ Hid (Keep (fun _ => False) w wr)) (fun _ i _ => H - (intOf i).toNat)
  case atStart => exact ⟨0, rfl, Nat.zero_le _, Lib.hid (by rw [Nat.zero_mul]; exact ⟨by simp [flatF], .inl ⟨rfl, rfl⟩⟩), Lib.hid (Keep.refl _ _)⟩
  case round =>
    obtain ⟨y, rfl, hy, HO, HK⟩ := hrel
    have HR := Lib.hid (HG.out.quiet HK.out)
    have c1 := HR.out.ch.1
    obtain ⟨A, c, rfl, -⟩ := own_form HO.out
    by_cases hlt : y < H
    · have hyi : (y : Int) < (H : Int) := by omega
      have hy0 : (0 : Int) ≤ (y : Int) := by omega
      have c2 := HR.out.cs.1
      have cl := (HR.out.row y hlt).1
      have h81 := h8.out (y + 1) (by omega)
      have hsum : (y + 1) * W = y * W + W := Nat.succ_mul y W
      go_wp2_with (at_builtin; refine wpList_own_at _ rfl (.tmp 13) (.tmp 20) 22 rfl w.heap.size 40 i0 _ 6 32 Try.underlying22 hi0 hz0 hz1 hz2 rfl (by decide) _ (y * W) (flatF (linF W F) (y * W)) rfl HO.out ⟨R y, 0, none⟩ W W (flatF (F y) W) rfl (flatF_len _ _) ?c1 (flatF_one _ _) ?c3 ?c4 ?c5 ?_)
      case c1 => intro j u hu; rw [add_mk]; exact (HR.out.lie y hlt).cells j u hu
      case c3 => unfold maxLen; omega
      case c4 => omega
      case c5 => exact HK.out.size
      intro v1 w1 hown hk hat
      have HO1 : Hid (w1.ownsRow w.heap.size 40 6 v1 ((y + 1) * W) (flatF (linF W F) ((y + 1) * W))) := Lib.hid (by
        rw [hsum, flatF_add, flatF_congr (f := fun k => linF W F (y * W + k)) (g := F y) (fun k hk => linF_at F y k hk)]
        exact hown)
      have HK1 : Hid (Keep (fun _ => False) w w1) := Lib.hid (HK.out.trans hk (fun i hi e => by have := (HO.out.lt i e).1; omega))
      clear hown hk hat c1 c2 cl h81 hsum
      go_wp2_with fail
      go_roundw
      case rel => exact ⟨y + 1, by go_num, by omega, HO1, HK1⟩
      case measure => simp [intOf]; omega
    · have hyH : y = H := by omega
      subst hyH
      obtain ⟨g, rfl, q1, q2, q3, q4, q5⟩ := own_lies HO.out (by rw [Nat.mul_comm]; exact h0)
      have HT : Hid (CloneTo (W * y) (linF W F) w (.returned (.slice (some ⟨g, 0, none⟩) (y * W) c)) wr) := Lib.hid ⟨g, c, by rw [Nat.mul_comm], q1, q2, by rw [Nat.mul_comm]; exact q3, by rw [Nat.mul_comm]; exact q4, q5, by rw [Nat.mul_comm]; exact HO.out, HK.out.below (Nat.le_refl _) (fun _ _ e => e)⟩
      clear q1 q2 q3 q4 q5
      go_wp2_with fail
      go_ret
      exact HT.out

end Go.Proofs.Ytgomnigchfmfhaa
