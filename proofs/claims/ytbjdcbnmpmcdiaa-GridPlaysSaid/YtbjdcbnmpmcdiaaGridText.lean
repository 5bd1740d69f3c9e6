/- grid: Text; the document's Show of a row. Own work. -/
import Derived.Test.YtbjdcbnmpmcdiaaCellShow
import Derived.Test.YtbjdcbnmpmcdiaaGridC
import Derived.Test.YtbjdcbnmpmcdiaaRGridCells
namespace Go.Proofs.Ytbjdcbnmpmcdiaa
set_option linter.unusedVariables false
set_option linter.unusedSimpArgs false
open Go.RowKit

/-- A row of a grid, as a list; what it shows. -/
def rowL (W : Nat) (f : Nat → CellM) : List CellM := (List.range W).map f
theorem flatF_rowL (W : Nat) (f : Nat → CellM) : flatF f W = flatL (rowL W f) := by
  unfold flatF flatL rowL
  rw [List.flatMap_map]
theorem rowL_congr {W : Nat} {f g : Nat → CellM} (h : ∀ k, k < W → f k = g k) : rowL W f = rowL W g := List.map_congr_left (fun k hk => h k (List.mem_range.1 hk))
/-- The texts of n rows. -/
def textL (W : Nat) (f : Nat → CellM) (n : Nat) : List ByteArray := (List.range n).map fun i => showL (rowL W (fun x => f (i * W + x)))
theorem textL_succ (W : Nat) (f : Nat → CellM) (n : Nat) : textL W f (n + 1) = textL W f n ++ [showL (rowL W (fun x => f (n * W + x)))] := by simp [textL, List.range_succ]
theorem textL_len (W : Nat) (f : Nat → CellM) (n : Nat) : (textL W f n).length = n := by simp [textL]
theorem textL_at (W : Nat) (f : Nat → CellM) (n i : Nat) (hi : i < n) : (textL W f n)[i]? = some (showL (rowL W (fun x => f (i * W + x)))) := by simp [textL, hi]

set_option maxRecDepth 100000 in
set_option maxHeartbeats 1600000 in
theorem grid_text (w : World) (p g c W H n : Nat) (f : Nat → CellM) (h : GridAt w p g c W H n f) :
    Calls Try.prog 37 #[.pointer (some ⟨p, 0, none⟩)] w fun e w' => ∃ v, e = .returned v ∧ w'.ownsRow w.heap.size 9 1 v H ((textL W f H).map Value.string) ∧ Below w.heap.size w w' := by
  obtain ⟨i0, hi0, hz0, hz1, hz2⟩ := info_parts string_info
  have HG := Lib.hid h
  have hH := Lib.hid (grid_H w p g c W H n f h)
  have hww := h.hw
  have hhh := h.hh
  have hn := h.n800
  have hH20 : (H : Int) ≤ 20 := by omega
  have HR : Hid (∀ V, Below w.heap.size w V → ∀ i : Nat, i < H → Calls Try.prog 50 #[.pointer (some ⟨p, 0, none⟩), .int .i64 0, .int .i64 i] V (Tells V g c (i * W) W)) := Lib.hid (fun V k i hi => by
    have := rest_in V p g c W H n f 0 i (h.keep (Keep.of_below (fun _ => False) k) (fun y => y) (fun y => y)) (by omega) hi
    simpa using this)
  have HS : Hid (∀ i, i < H → Lies w g (i * W * 6) W (fun x => f (i * W + x))) := Lib.hid (fun i hi => by
    have h1 := Nat.mul_le_mul_right W (Nat.succ_le_of_lt hi)
    rw [Nat.succ_mul, Nat.mul_comm H W, ← h.hn] at h1
    have := h.l.sub (i * W) W h1
    rwa [Nat.zero_add] at this)
  have hgl := h.hg
  have hW0 : Hid (0 < W ∧ W ≤ 40) := Lib.hid (by omega)
  clear h hww hhh hn
  go_enter Try.func37, Try.ntmps37
  go_wp2_with fail
  refine hH.out.mono ?_
  rintro e w1 ⟨rfl, rfl⟩
  go_wp2_with fail
  go_loopw [3, 4, 7] (fun v _ i wr => ∃ k : Nat, i = .int .i64 k ∧ k ≤ H ∧ Hid (wr.ownsRow w1.heap.size 9 1 v k ((textL W f k).map Value.string)) ∧ Hid (Below w1.heap.size w1 wr)) (fun _ _ i _ => H - (intOf i).toNat)
  case atStart => exact ⟨0, rfl, Nat.zero_le _, Lib.hid ⟨by simp [textL], .inl ⟨rfl, rfl⟩⟩, Lib.hid (Below.refl _ _)⟩
  case round =>
    obtain ⟨k, rfl, hk, HO, HB⟩ := hrel
    by_cases hlt : k < H
    · have hki : (k : Int) < (H : Int) := by omega
      have hk0 : (0 : Int) ≤ (k : Int) := by omega
      have HRk := Lib.hid (HR.out wr HB.out k hlt)
      go_wp2_with fail
      refine HRk.out.mono ?_
      rintro e w2 ⟨⟨q, rfl⟩, ⟨hz, rfl⟩ | ⟨hz, rfl⟩⟩
      · exact absurd hz (by have := hW0.out; omega)
      clear hz
      have HSH : Hid (Calls Try.prog 57 #[.slice (some ⟨g, k * W * 6, none⟩) W (c - k * W)] (wr.drewN q) fun e w' => e = .returned (.string (showL (rowL W (fun x => f (k * W + x))))) ∧ Below (wr.drewN q).heap.size (wr.drewN q) w') := Lib.hid (by
        have l := ((HS.out k hlt).keep hgl (Keep.of_below (fun _ => False) HB.out) (fun y => y)).keep (w' := wr.drewN q) (by have := HB.out.size; omega) ((Keep.refl (fun _ => False) wr).drewN q) (fun y => y)
        have s := l.src (by have := HB.out.size; simp; omega)
        rw [flatF_rowL] at s
        exact cell_show _ W _ _ _ s (by have := hW0.out; omega))
      go_wp2_with fail
      refine HSH.out.mono ?_
      rintro e w3 ⟨rfl, hb3⟩
      obtain ⟨T, hT⟩ : ∃ T, T = showL (rowL W (fun x => f (k * W + x))) := ⟨_, rfl⟩
      have HT := Lib.hid hT
      rw [← hT]
      have HB3 : Hid (Below w1.heap.size w1 w3) := Lib.hid ((Below.drewN' HB.out q).trans (hb3.mono (Below.drewN' HB.out q).size))
      have HK3 : Hid (Keep (fun _ => False) wr w3) := Lib.hid (((Keep.refl (fun _ => False) wr).drewN q).trans (Keep.of_below _ hb3) (fun _ _ y => y))
      clear hb3 hT HSH HRk
      go_wp2_with (at_builtin; refine wpList_own_at _ rfl (.tmp 10) (.tmp 15) 61 rfl w1.heap.size 9 i0 (.string .empty) 1 16 Try.underlying61 hi0 hz0 hz1 hz2 rfl (by decide) _ k ((textL W f k).map Value.string) rfl (own_keep HO.out (HK3.out.alloc _) (fun _ _ y => y)) ⟨w3.heap.size, 0, none⟩ 1 1 [.string T] rfl rfl (cells_new w3 [.string T] 9 w3.heap.size rfl) (by simp [Value.oneCell']) ?c3 ?c4 ?c5 ?_)
      case c3 => unfold maxLen; omega
      case c4 => omega
      case c5 => have := HB3.out.size; simp; omega
      intro v1 w4 hown hkk hat
      have HO1 : Hid (w4.ownsRow w1.heap.size 9 1 v1 (k + 1) ((textL W f (k + 1)).map Value.string)) := Lib.hid (by
        rw [textL_succ, List.map_append, ← HT.out]
        exact hown)
      have HB4 : Hid (Below w1.heap.size w1 w4) := Lib.hid ((HB3.out.alloc HB3.out.size _).trans (hkk.below (by have := HB3.out.size; simp; omega) (fun i hi e => by have := (HO.out.lt i e).1; omega)))
      clear hown hkk hat
      go_wp2_with fail
      go_roundw
      case rel => exact ⟨k + 1, by go_num, by omega, HO1, HB4⟩
      case measure => simp [intOf]; omega
    · have hkH : k = H := by omega
      subst hkH
      go_wp2_with fail
      go_ret
      exact ⟨_, rfl, HO.out, HB.out⟩

end Go.Proofs.Ytbjdcbnmpmcdiaa
