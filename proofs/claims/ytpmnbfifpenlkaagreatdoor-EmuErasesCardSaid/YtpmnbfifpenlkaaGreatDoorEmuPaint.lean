/- The statements' painted. Own work. -/
import Derived.Test.YtpmnbfifpenlkaaGreatDoorEmuPaintM
import Derived.Test.YtpmnbfifpenlkaaGreatDoorEmuLaw2
import Derived.IntWalk
namespace Go.Proofs.YtpmnbfifpenlkaaGreatDoor
set_option linter.unusedVariables false
set_option linter.unusedSimpArgs false
open Go.RowKit

/-- What painted answers. -/
def PaintedTo (w0 : World) (W H : Nat) (v : Ending) (w' : World) : Prop :=
  ∃ e L x' y' late, v = .returned (.tuple #[.pointer (some ⟨e, 0, none⟩), .int .i64 (W : Int), .int .i64 (H : Int)]) ∧ Ems w0 w' [⟨e, L, 20000, (pAt 0, plM W H (paintF W H (fun _ => blankC)) x' y' late 0 H)⟩]

set_option maxRecDepth 100000 in
set_option maxHeartbeats 3200000 in
theorem painted_is (w0 w : World) (x y : Int) (W H : Nat) (hW : min (max x 2) 40 = (W : Int)) (hH : min (max y 1) 20 = (H : Int)) (h0 : Ems w0 w []) :
    Calls Tryz.prog 25 #[.int .i64 x, .int .i64 y] w (PaintedTo w0 W H) := by
  have HEN := Lib.hid (ends_is x y W H hW hH)
  have HN := Lib.hid (fun V => emu_newF V x y W H hW hH)
  have HWB : Hid ((2 ≤ W ∧ W ≤ 40) ∧ 1 ≤ H ∧ H ≤ 20) := Lib.hid (by omega)
  have g1 : (W : Int) ≤ 40 := by omega
  have g2 : (H : Int) ≤ 20 := by omega
  have HE1 := Lib.hid h0
  clear hW hH h0
  go_enter Tryz.func25, Tryz.ntmps25
  go_wp2_with fail
  refine (HN.out _).mono ?_
  rintro v w2 h2
  obtain ⟨e, L, rfl, -, he2⟩ := HE1.out.add h2
  have HE2 : Hid (Ems w0 w2 [⟨e, L, 0, (pAt 0, EmM.new W H)⟩]) := Lib.hid he2
  clear h2 he2 HE1 HN
  go_wp2_with fail
  refine (HEN.out _).mono ?_
  rintro v w3 ⟨rfl, rfl⟩
  go_wp2_with fail
  go_loopw [8] (fun vj wr => ∃ j : Nat, vj = .int .i64 (j : Int) ∧ j ≤ H ∧ Hid (∃ L x' y' late, Ems w0 wr [⟨e, L, 200 * j, (pAt 0, plM W H (paintF W j (fun _ => blankC)) x' y' late 0 H)⟩])) (fun vj _ => H - (intOf vj).toNat)
  case atStart => exact ⟨0, rfl, by omega, L, 0, 0, false, by rw [paint_zero]; exact HE2.out⟩
  case round =>
    obtain ⟨j, rfl, hj, HE⟩ := hrel
    by_cases hlt : j < H
    · obtain ⟨L1, x1, y1, late1, he⟩ := HE.out
      have hki : (j : Int) < (H : Int) := by omega
      have hk0 : (0 : Int) ≤ (j : Int) := by omega
      have hjj : Hid (j < H) := Lib.hid hlt
      have HD : Hid (∀ V, Calls Tryz.prog 17 #[.int .i64 ((j : Int) + 1)] V fun e w' => e = .returned (.string (bytesN (decN (j + 1)))) ∧ Below V.heap.size V w') := Lib.hid (fun V => digits_any (j + 1) (by omega) V)
      have HEE := Lib.hid he
      clear he HE hlt hj
      go_wp2_with fail
      refine (HD.out _).mono ?_
      rintro v w4 ⟨rfl, hb4⟩
      have HF := Lib.hid (fed1 (k' := 200 * j + 40) (HEE.out.quiet (Keep.of_below _ hb4)) [⟨#[27, 91]⟩, bytesN (decN (j + 1)), ⟨#[59, 49, 72]⟩] 3 rfl (by omega) (by have := goRow_size j (by have := hjj.out; omega); omega) (by have := hjj.out; omega) (by have := goRow_size j (by have := hjj.out; omega); omega) (paint_at_go x1 y1 late1 HWB.out.1 HWB.out.2 hjj.out))
      obtain ⟨dg, hdg⟩ : ∃ dg, bytesN (decN (j + 1)) = dg := ⟨_, rfl⟩
      rw [hdg] at HF ⊢
      clear hb4 hdg HD HEE
      go_wp2_with fail
      refine HF.out.mono ?_
      rintro v w5 ⟨rfl, L5, he5, -, -⟩
      have HE5 := Lib.hid he5
      clear he5 HF
      obtain ⟨D, hD⟩ : ∃ D, D = 97 + j := ⟨_, rfl⟩
      have hdi : (97 : Int) + (j : Int) = (D : Int) := by omega
      have hD256 : D < 256 := by have := hjj.out; omega
      have hd8 := u8_small hD256
      have HDD := Lib.hid (And.intro hD hD256)
      clear hD hD256
      go_wp2_with fail
      go_loopw [9] (fun vn wr2 => ∃ n : Nat, vn = .int .i64 (n : Int) ∧ n ≤ W ∧ Hid (∃ L, Ems w0 wr2 [⟨e, L, 200 * j + 40 + 2 * n, (pAt 0, paintAt W H j n)⟩])) (fun vn _ => W - (intOf vn).toNat)
      case atStart => exact ⟨0, rfl, by omega, L5, HE5.out⟩
      case round =>
        obtain ⟨n, rfl, hn, HE6⟩ := hrel
        by_cases hlt : n < W
        · obtain ⟨L6, he6⟩ := HE6.out
          have hni : (n : Int) < (W : Int) := by omega
          have hn0 : (0 : Int) ≤ (n : Int) := by omega
          have hcv := letter_str D HDD.out.2 wr
          have HF6 := Lib.hid (fed1 (k' := 200 * j + 40 + 2 * (n + 1)) (he6.quiet ((Keep.refl (fun _ => False) wr).alloc (.cells #[.int .u8 (D : Int)] 5))) [bytesN [D]] 1 rfl (by omega) (by rw [one_size]; omega) (by have := hjj.out; omega) (by rw [one_size]; omega) (paint_at_letter n D HDD.out.1 HWB.out.1 HWB.out.2 hjj.out hlt))
          rw [show (wr.alloc (.cells #[.int .u8 (D : Int)] 5)).heap.size = wr.heap.size + 1 from by simp] at HF6
          clear he6 HE6 hn
          go_wp2_with fail
          refine HF6.out.mono ?_
          rintro v w7 ⟨rfl, L7, he7, -, -⟩
          have HE7 := Lib.hid he7
          clear he7 HF6
          go_wp2_with fail
          go_roundw
          case rel => exact ⟨n + 1, by go_num, by omega, L7, HE7.out⟩
          case measure => simp [intOf]; omega
        · obtain rfl : n = W := by omega
          have hni : ¬ (n : Int) < (n : Int) := by omega
          obtain ⟨L6, he6⟩ := HE6.out
          rw [paint_at_end j (by have := HWB.out; omega)] at he6
          have HE7 := Lib.hid he6
          have hjl := hjj.out
          clear he6 HE6 hn hlt
          go_wp2_with fail
          go_roundw
          case rel => exact ⟨j + 1, by go_num, by omega, L6, _, _, _, HE7.out.more1 (by have := HWB.out; omega)⟩
          case measure => simp [intOf]; omega
    · obtain rfl : j = H := by omega
      have hki : ¬ (j : Int) < (j : Int) := by omega
      obtain ⟨L1, x1, y1, late1, he⟩ := HE.out
      have HFI := Lib.hid (he.more1 (k' := 20000) (by have := HWB.out; omega))
      clear he HE hj hlt
      go_wp2_with fail
      go_ret3
      exact ⟨e, L1, x1, y1, late1, rfl, HFI.out⟩

end Go.Proofs.YtpmnbfifpenlkaaGreatDoor
