/- Law EmuLines: the walk. By program (rgn/XEmuLinesWalk.py). Own work. -/
import Derived.Test.YtpmnbfifpenlkaaGreatDoorEmuPaint
import Derived.Test.YtpmnbfifpenlkaaGreatDoorEmuRows
import Derived.Test.YtpmnbfifpenlkaaGreatDoorEmuLine
import Derived.Test.YtpmnbfifpenlkaaGreatDoorEmuRest
namespace Go.Proofs.YtpmnbfifpenlkaaGreatDoor
set_option linter.unusedVariables false
set_option linter.unusedSimpArgs false
open Go.RowKit

theorem lines_nats (y n : Nat) (ins : Bool) (B : ByteArray) (hB : natsOf B = [if ins = true then 76 else 77]) : natsJ [⟨#[27, 91]⟩, bytesN (decN (y + 1)), ⟨#[59, 49, 72, 27, 91]⟩, bytesN (decN n), B] = goXY (y + 1) (0 + 1) ++ oneL n (if ins = true then 76 else 77) := by
  rw [natsJ_eq]
  simp only [List.flatMap_cons, List.flatMap_nil, List.append_nil]
  rw [natsOf_decN, natsOf_decN, hB, show natsOf ⟨#[27, 91]⟩ = [27, 91] from rfl, show natsOf ⟨#[59, 49, 72, 27, 91]⟩ = [59, 49, 72, 27, 91] from rfl]
  unfold goXY oneL
  rw [show decN (0 + 1) = [49] from by rw [decN, if_pos (by omega)]]
  simp
theorem lines_size (y n : Nat) (B : ByteArray) (hy : y + 1 < 100) (hn : n < 100) (hB : B.size = 1) : sum [⟨#[27, 91]⟩, bytesN (decN (y + 1)), ⟨#[59, 49, 72, 27, 91]⟩, bytesN (decN n), B] ≤ 20 := by
  have := two_decN hy
  have := two_decN hn
  simp only [sum, List.map_cons, List.map_nil, List.foldr_cons, List.foldr_nil, bytesN_size]
  show 2 + ((decN (y + 1)).length + (5 + ((decN n).length + (B.size + 0)))) ≤ 20
  omega
/-- What stands in the row j: a letter, or nothing. -/
def lineV (H y k : Nat) (ins : Bool) (j : Nat) : Nat := if j < y then 97 + j else if ins = true then (if j < y + k then 32 else 97 + (j - k)) else (if j + k < H then 97 + (j + k) else 32)
def lineF (W H y n : Nat) (ins : Bool) : Nat → CellM := if ins = true then downF W y H (max n 1) blankC (paintF W H (fun _ => blankC)) else upF W y H (max n 1) blankC (paintF W H (fun _ => blankC))
theorem lines_row (W H y n j : Nat) (ins : Bool) (hj : j < H) (hy : y < H) (hH : H ≤ 20) : showL (rowL W (fun x => lineF W H y n ins (j * W + x))) = bytesN (List.replicate W (lineV H y (max n 1) ins j)) := by
  rw [tab_const]
  apply row_text
  intro i hi
  have hv : lineV H y (max n 1) ins j < 128 := by unfold lineV; split; omega; split <;> split <;> omega
  refine ⟨?_, hv⟩
  unfold lineF lineV
  cases ins
  · simp only [Bool.false_eq_true, if_false]
    rw [up_row i j _ _ hi]
    by_cases h1 : j < y
    · rw [if_neg (by omega), if_pos h1, paint_at i j H hi hj]
    · rw [if_pos ⟨by omega, hj⟩, if_neg h1]
      by_cases h2 : j + max n 1 < H
      · rw [if_pos h2, if_pos h2, paint_at i _ H hi h2]
      · rw [if_neg h2, if_neg h2]; rfl
  · simp only [if_true]
    rw [down_row i j _ _ hi]
    by_cases h1 : j < y
    · rw [if_neg (by omega), if_pos h1, paint_at i j H hi hj]
    · rw [if_pos ⟨by omega, hj⟩, if_neg h1]
      by_cases h2 : j < y + max n 1
      · rw [if_pos h2, if_pos h2]; rfl
      · rw [if_neg h2, if_neg h2, paint_at i _ H hi (by omega)]

set_option maxRecDepth 100000 in
set_option maxHeartbeats 1600000 in
theorem emuLines_early (x y c n : Int) (ins : Bool) (w : World) (h : n < 0 ∨ (¬ n < 0 ∧ n > 30)) :
    Calls Tryz.prog 8 #[.int .i64 x, .int .i64 y, .int .i64 c, .int .i64 n, .bool ins] w fun e w' => e = .returned (.bool true) ∧ Below w.heap.size w w' := by
  rcases h with h | ⟨h, h2⟩
  all_goals
    go_enter Tryz.func8, Tryz.ntmps8
    go_wp2_with fail
    refine (emu_alive _).mono ?_
    rintro e w1 ⟨rfl, hb⟩
    have HB := Lib.hid hb
    clear hb
    go_wp2_with fail
    go_ret
    exact ⟨rfl, HB.out⟩

set_option maxRecDepth 100000 in
set_option maxHeartbeats 6400000 in
theorem emuLines_false (x y c : Int) (n : Nat) (hn : n ≤ 30) (w : World) :
    Calls Tryz.prog 8 #[.int .i64 x, .int .i64 y, .int .i64 c, .int .i64 n, .bool false] w fun e w' => e = .returned (.bool true) ∧ Below w.heap.size w w' := by
  obtain ⟨W, hW⟩ : ∃ W : Nat, min (max x 2) 40 = (W : Int) := ⟨(min (max x 2) 40).toNat, by omega⟩
  obtain ⟨H, hH⟩ : ∃ H : Nat, min (max y 1) 20 = (H : Int) := ⟨(min (max y 1) 20).toNat, by omega⟩
  have HP := Lib.hid (fun V h0 => painted_is w V x y W H hW hH h0)
  have HWB : Hid ((2 ≤ W ∧ W ≤ 40) ∧ 1 ≤ H ∧ H ≤ 20) := Lib.hid (by omega)
  have g1 : (W : Int) ≤ 40 := by omega
  have g2 : (H : Int) ≤ 20 := by omega
  have g3 : (1 : Int) ≤ (H : Int) := by omega
  have n1 : ¬ (n : Int) < 0 := by omega
  have n2 : ¬ (n : Int) > 30 := by omega
  obtain ⟨tm, htm, tm1, tm2, q, hq, hql⟩ := rest_twice c H (by omega)
  obtain ⟨k, hk⟩ : ∃ k : Nat, max (n : Int) 1 = (k : Int) := ⟨max n 1, by omega⟩
  have HK : Hid (max n 1 = k ∧ k ≤ 30 ∧ 1 ≤ k) := Lib.hid (by omega)
  have k30 : (k : Int) ≤ 30 := by omega
  have HQ := Lib.hid hql
  have HD1 : Hid (∀ V, Calls Tryz.prog 17 #[.int .i64 ((q : Int) + 1)] V fun e w' => e = .returned (.string (bytesN (decN (q + 1)))) ∧ Below V.heap.size V w') := Lib.hid (fun V => digits_any (q + 1) (by omega) V)
  have HD2 := Lib.hid (fun V => digits_any n (by omega) V)
  clear hW hH
  go_enter Tryz.func8, Tryz.ntmps8
  go_wp2_with fail
  refine (emu_alive _).mono ?_
  rintro v w1 ⟨rfl, hb1⟩
  have HE1 := Lib.hid ((Ems.start w).quiet (Keep.of_below _ hb1))
  clear hb1
  go_wp2_with fail
  refine (HP.out _ HE1.out).mono ?_
  rintro v w2 ⟨e, L, x1, y1, late1, rfl, he2⟩
  have HE2 := Lib.hid he2
  clear he2 HE1 HP
  go_wp2_with fail
  refine (HD1.out _).mono ?_
  rintro v w3 ⟨rfl, hb3⟩
  have HE3 := Lib.hid (HE2.out.quiet (Keep.of_below _ hb3))
  clear hb3 HE2 HD1
  go_wp2_with fail
  refine (HD2.out _).mono ?_
  rintro v w4 ⟨rfl, hb4⟩
  have HF := Lib.hid (fed1 (k' := 20040) (m' := plM W H (lineF W H q n false) 0 q false 0 H) (o := []) (HE3.out.quiet (Keep.of_below _ hb4)) [⟨#[27, 91]⟩, bytesN (decN (q + 1)), ⟨#[59, 49, 72, 27, 91]⟩, bytesN (decN n), ⟨#[77]⟩] 5 rfl (by omega) (Nat.le_trans (lines_size q n _ (by have := HQ.out; have := HWB.out; omega) (by omega) rfl) (by omega)) (by omega) (by have := lines_size q n ⟨#[77]⟩ (by have := HQ.out; have := HWB.out; omega) (by omega) rfl; omega) (by
    rw [lines_nats q n false ⟨#[77]⟩ rfl, feedM_add, pl_go 0 q (by have := HWB.out; omega) HQ.out HWB.out.1.2 HWB.out.2.2]
    dsimp only
    rw [pl_lines n false (by omega) ⟨Nat.zero_le _, HQ.out⟩ (by have := HWB.out; omega) HQ.out]
    rfl))
  obtain ⟨d1, hd1⟩ : ∃ d1, bytesN (decN (q + 1)) = d1 := ⟨_, rfl⟩
  obtain ⟨d2, hd2⟩ : ∃ d2, bytesN (decN n) = d2 := ⟨_, rfl⟩
  rw [hd1, hd2] at HF
  rw [hd1, hd2]
  clear hb4 hd1 hd2 HD2 HE3
  go_wp2_with fail
  refine HF.out.mono ?_
  rintro v w5 ⟨rfl, L5, he5, -, -⟩
  have HE5 := Lib.hid he5
  have HT := Lib.hid (emu_text w5 e L5 _ he5.one.r)
  clear he5 HF
  go_wp2_with fail
  refine HT.out.mono ?_
  rintro v w6 ⟨r, rfl, hr, hb6⟩
  obtain ⟨g, c6, rfl, hgl, hg⟩ := text_cells (W := W) (H := H) (F := lineF W H q n false) (by have := HWB.out; omega) hr
  have HG : Hid (∀ j, j < H → w6.cell? ⟨g, j, none⟩ = some (.string (bytesN (List.replicate W (lineV H q k false j))))) := Lib.hid (fun j hj => by
    rw [← HK.out.1, ← lines_row W H q n j false hj HQ.out HWB.out.2.2]; exact hg j hj)
  have HGL := Lib.hid hgl
  have HB6 := Lib.hid (HE5.out.quiet (Keep.of_below _ hb6)).k
  have HL32 := Lib.hid (fun V => line_is W 32 (by omega) (by omega) V)
  obtain ⟨S32, hS32⟩ : ∃ S, bytesN (List.replicate W 32) = S := ⟨_, rfl⟩
  rw [hS32] at HL32
  have HS32 := Lib.hid hS32
  have hqi : (q : Int) < (H : Int) := by omega
  clear hr hb6 hg hgl hS32 HT HE5
  go_wp2_with fail
  go_loopw [15] (fun vj wr => ∃ j : Nat, vj = .int .i64 (j : Int) ∧ j ≤ H ∧ Hid (Keep (fun _ => False) w6 wr)) (fun vj _ => H - (intOf vj).toNat)
  case atStart => exact ⟨0, rfl, by omega, Keep.refl _ _⟩
  case round =>
    obtain ⟨j, rfl, hj, HKJ⟩ := hrel
    by_cases hlt : j < H
    · have hki : (j : Int) < (H : Int) := by omega
      have hk0 : (0 : Int) ≤ (j : Int) := by omega
      have HJ := Lib.hid hlt
      obtain ⟨T, hT⟩ : ∃ T, bytesN (List.replicate W (lineV H q k false j)) = T := ⟨_, rfl⟩
      have hc0 : Hid (w6.cell? ⟨g, j, none⟩ = some (.string T)) := Lib.hid (by rw [← hT]; exact HG.out j hlt)
      have HTT := Lib.hid hT
      clear hT hlt hj
      by_cases h1 : (j : Int) < (q : Int)
      · have h1b : ¬ (j : Int) ≥ (q : Int) := by omega
        obtain ⟨D, hD⟩ : ∃ D : Nat, D = 97 + j := ⟨_, rfl⟩
        have hdi : (97 : Int) + (j : Int) = (D : Int) := by omega
        have hf0 : (0 : Int) ≤ (j : Int) := by omega
        have hD256 : D < 256 := by have := HJ.out; have := HWB.out; omega
        have hd8 := u8_small hD256
        have HLD := Lib.hid (fun V => line_is W D (by omega) hD256 V)
        obtain ⟨SD, hSD⟩ : ∃ S, bytesN (List.replicate W D) = S := ⟨_, rfl⟩
        rw [hSD] at HLD
        have t1 : (T.toList == SD.toList) = true := by
          have e : T = SD := by rw [← HTT.out, ← hSD]; congr 2; unfold lineV; rw [if_pos (by omega)]; omega
          rw [e]; exact beq_self_eq_true _
        clear hD hD256 hSD
        go_wp2_with fail
        refine (HL32.out _).mono ?_
        rintro v w7 ⟨rfl, hb7⟩
        have K7 := HKJ.out.trans (Keep.of_below (fun _ => False) hb7) (fun _ _ x => x)
        have HK7 := Lib.hid K7
        clear hb7 K7
        go_wp2_with fail
        refine (HLD.out _).mono ?_
        rintro v w8 ⟨rfl, hb8⟩
        have K8 := HK7.out.trans (Keep.of_below (fun _ => False) hb8) (fun _ _ x => x)
        have HK8 := Lib.hid K8
        have g0 : w8.cell? ⟨g, j, none⟩ = some (.string T) := (K8.cell (p := ⟨g, j, none⟩) HGL.out (fun x => x)).trans hc0.out
        clear hb8 K8
        go_wp2_with fail
        go_roundw
        case rel => exact ⟨j + 1, by go_num, HJ.out, HK8.out⟩
        case measure => have := HJ.out; simp [intOf]; omega
      · have h1b : (j : Int) ≥ (q : Int) := by omega
        by_cases h2 : (j : Int) + (k : Int) < (H : Int)
        · have h2b : ¬ (j : Int) + (k : Int) ≥ (H : Int) := by omega
          obtain ⟨D, hD⟩ : ∃ D : Nat, D = 97 + (j + k) := ⟨_, rfl⟩
          have hdi : (97 : Int) + ((j : Int) + (k : Int)) = (D : Int) := by omega
          have hf0 : (0 : Int) ≤ ((j : Int) + (k : Int)) := by omega
          have hD256 : D < 256 := by have := HJ.out; have := HWB.out; omega
          have hd8 := u8_small hD256
          have HLD := Lib.hid (fun V => line_is W D (by omega) hD256 V)
          obtain ⟨SD, hSD⟩ : ∃ S, bytesN (List.replicate W D) = S := ⟨_, rfl⟩
          rw [hSD] at HLD
          have t1 : (T.toList == SD.toList) = true := by
            have e : T = SD := by rw [← HTT.out, ← hSD]; congr 2; unfold lineV; rw [if_neg (by omega), if_neg (by simp), if_pos (by omega)]; omega
            rw [e]; exact beq_self_eq_true _
          clear hD hD256 hSD
          go_wp2_with fail
          refine (HL32.out _).mono ?_
          rintro v w7 ⟨rfl, hb7⟩
          have K7 := HKJ.out.trans (Keep.of_below (fun _ => False) hb7) (fun _ _ x => x)
          have HK7 := Lib.hid K7
          clear hb7 K7
          go_wp2_with fail
          refine (HLD.out _).mono ?_
          rintro v w8 ⟨rfl, hb8⟩
          have K8 := HK7.out.trans (Keep.of_below (fun _ => False) hb8) (fun _ _ x => x)
          have HK8 := Lib.hid K8
          have g0 : w8.cell? ⟨g, j, none⟩ = some (.string T) := (K8.cell (p := ⟨g, j, none⟩) HGL.out (fun x => x)).trans hc0.out
          clear hb8 K8
          go_wp2_with fail
          go_roundw
          case rel => exact ⟨j + 1, by go_num, HJ.out, HK8.out⟩
          case measure => have := HJ.out; simp [intOf]; omega
        · have h2b : (j : Int) + (k : Int) ≥ (H : Int) := by omega
          have t1 : (T.toList == S32.toList) = true := by
            have e : T = S32 := by rw [← HTT.out, ← HS32.out]; congr 2; unfold lineV; rw [if_neg (by omega), if_neg (by simp), if_neg (by omega)]
            rw [e]; exact beq_self_eq_true _
          go_wp2_with fail
          refine (HL32.out _).mono ?_
          rintro v w7 ⟨rfl, hb7⟩
          have K7 := HKJ.out.trans (Keep.of_below (fun _ => False) hb7) (fun _ _ x => x)
          have HK7 := Lib.hid K7
          have g0 : w7.cell? ⟨g, j, none⟩ = some (.string T) := (K7.cell (p := ⟨g, j, none⟩) HGL.out (fun x => x)).trans hc0.out
          clear hb7 K7
          go_wp2_with fail
          go_roundw
          case rel => exact ⟨j + 1, by go_num, HJ.out, HK7.out⟩
          case measure => have := HJ.out; simp [intOf]; omega
    · obtain rfl : j = H := by omega
      have hki : ¬ (j : Int) < (j : Int) := by omega
      have HB : Hid (Below w.heap.size w wr) := Lib.hid ((HB6.out.trans HKJ.out (fun _ _ x => x)).below (Nat.le_refl _) (fun _ _ x => x))
      go_wp2_with fail
      go_ret
      exact ⟨rfl, HB.out⟩

set_option maxRecDepth 100000 in
set_option maxHeartbeats 6400000 in
theorem emuLines_true (x y c : Int) (n : Nat) (hn : n ≤ 30) (w : World) :
    Calls Tryz.prog 8 #[.int .i64 x, .int .i64 y, .int .i64 c, .int .i64 n, .bool true] w fun e w' => e = .returned (.bool true) ∧ Below w.heap.size w w' := by
  obtain ⟨W, hW⟩ : ∃ W : Nat, min (max x 2) 40 = (W : Int) := ⟨(min (max x 2) 40).toNat, by omega⟩
  obtain ⟨H, hH⟩ : ∃ H : Nat, min (max y 1) 20 = (H : Int) := ⟨(min (max y 1) 20).toNat, by omega⟩
  have HP := Lib.hid (fun V h0 => painted_is w V x y W H hW hH h0)
  have HWB : Hid ((2 ≤ W ∧ W ≤ 40) ∧ 1 ≤ H ∧ H ≤ 20) := Lib.hid (by omega)
  have g1 : (W : Int) ≤ 40 := by omega
  have g2 : (H : Int) ≤ 20 := by omega
  have g3 : (1 : Int) ≤ (H : Int) := by omega
  have n1 : ¬ (n : Int) < 0 := by omega
  have n2 : ¬ (n : Int) > 30 := by omega
  obtain ⟨tm, htm, tm1, tm2, q, hq, hql⟩ := rest_twice c H (by omega)
  obtain ⟨k, hk⟩ : ∃ k : Nat, max (n : Int) 1 = (k : Int) := ⟨max n 1, by omega⟩
  have HK : Hid (max n 1 = k ∧ k ≤ 30 ∧ 1 ≤ k) := Lib.hid (by omega)
  have k30 : (k : Int) ≤ 30 := by omega
  have HQ := Lib.hid hql
  have HD1 : Hid (∀ V, Calls Tryz.prog 17 #[.int .i64 ((q : Int) + 1)] V fun e w' => e = .returned (.string (bytesN (decN (q + 1)))) ∧ Below V.heap.size V w') := Lib.hid (fun V => digits_any (q + 1) (by omega) V)
  have HD2 := Lib.hid (fun V => digits_any n (by omega) V)
  clear hW hH
  go_enter Tryz.func8, Tryz.ntmps8
  go_wp2_with fail
  refine (emu_alive _).mono ?_
  rintro v w1 ⟨rfl, hb1⟩
  have HE1 := Lib.hid ((Ems.start w).quiet (Keep.of_below _ hb1))
  clear hb1
  go_wp2_with fail
  refine (HP.out _ HE1.out).mono ?_
  rintro v w2 ⟨e, L, x1, y1, late1, rfl, he2⟩
  have HE2 := Lib.hid he2
  clear he2 HE1 HP
  go_wp2_with fail
  refine (HD1.out _).mono ?_
  rintro v w3 ⟨rfl, hb3⟩
  have HE3 := Lib.hid (HE2.out.quiet (Keep.of_below _ hb3))
  clear hb3 HE2 HD1
  go_wp2_with fail
  refine (HD2.out _).mono ?_
  rintro v w4 ⟨rfl, hb4⟩
  have HF := Lib.hid (fed1 (k' := 20040) (m' := plM W H (lineF W H q n true) 0 q false 0 H) (o := []) (HE3.out.quiet (Keep.of_below _ hb4)) [⟨#[27, 91]⟩, bytesN (decN (q + 1)), ⟨#[59, 49, 72, 27, 91]⟩, bytesN (decN n), ⟨#[76]⟩] 5 rfl (by omega) (Nat.le_trans (lines_size q n _ (by have := HQ.out; have := HWB.out; omega) (by omega) rfl) (by omega)) (by omega) (by have := lines_size q n ⟨#[76]⟩ (by have := HQ.out; have := HWB.out; omega) (by omega) rfl; omega) (by
    rw [lines_nats q n true ⟨#[76]⟩ rfl, feedM_add, pl_go 0 q (by have := HWB.out; omega) HQ.out HWB.out.1.2 HWB.out.2.2]
    dsimp only
    rw [pl_lines n true (by omega) ⟨Nat.zero_le _, HQ.out⟩ (by have := HWB.out; omega) HQ.out]
    rfl))
  obtain ⟨d1, hd1⟩ : ∃ d1, bytesN (decN (q + 1)) = d1 := ⟨_, rfl⟩
  obtain ⟨d2, hd2⟩ : ∃ d2, bytesN (decN n) = d2 := ⟨_, rfl⟩
  rw [hd1, hd2] at HF
  rw [hd1, hd2]
  clear hb4 hd1 hd2 HD2 HE3
  go_wp2_with fail
  refine HF.out.mono ?_
  rintro v w5 ⟨rfl, L5, he5, -, -⟩
  have HE5 := Lib.hid he5
  have HT := Lib.hid (emu_text w5 e L5 _ he5.one.r)
  clear he5 HF
  go_wp2_with fail
  refine HT.out.mono ?_
  rintro v w6 ⟨r, rfl, hr, hb6⟩
  obtain ⟨g, c6, rfl, hgl, hg⟩ := text_cells (W := W) (H := H) (F := lineF W H q n true) (by have := HWB.out; omega) hr
  have HG : Hid (∀ j, j < H → w6.cell? ⟨g, j, none⟩ = some (.string (bytesN (List.replicate W (lineV H q k true j))))) := Lib.hid (fun j hj => by
    rw [← HK.out.1, ← lines_row W H q n j true hj HQ.out HWB.out.2.2]; exact hg j hj)
  have HGL := Lib.hid hgl
  have HB6 := Lib.hid (HE5.out.quiet (Keep.of_below _ hb6)).k
  have HL32 := Lib.hid (fun V => line_is W 32 (by omega) (by omega) V)
  obtain ⟨S32, hS32⟩ : ∃ S, bytesN (List.replicate W 32) = S := ⟨_, rfl⟩
  rw [hS32] at HL32
  have HS32 := Lib.hid hS32
  have hqi : (q : Int) < (H : Int) := by omega
  clear hr hb6 hg hgl hS32 HT HE5
  go_wp2_with fail
  go_loopw [15] (fun vj wr => ∃ j : Nat, vj = .int .i64 (j : Int) ∧ j ≤ H ∧ Hid (Keep (fun _ => False) w6 wr)) (fun vj _ => H - (intOf vj).toNat)
  case atStart => exact ⟨0, rfl, by omega, Keep.refl _ _⟩
  case round =>
    obtain ⟨j, rfl, hj, HKJ⟩ := hrel
    by_cases hlt : j < H
    · have hki : (j : Int) < (H : Int) := by omega
      have hk0 : (0 : Int) ≤ (j : Int) := by omega
      have HJ := Lib.hid hlt
      obtain ⟨T, hT⟩ : ∃ T, bytesN (List.replicate W (lineV H q k true j)) = T := ⟨_, rfl⟩
      have hc0 : Hid (w6.cell? ⟨g, j, none⟩ = some (.string T)) := Lib.hid (by rw [← hT]; exact HG.out j hlt)
      have HTT := Lib.hid hT
      clear hT hlt hj
      by_cases h1 : (j : Int) < (q : Int)
      · have h1b : ¬ (j : Int) ≥ (q : Int) := by omega
        obtain ⟨D, hD⟩ : ∃ D : Nat, D = 97 + j := ⟨_, rfl⟩
        have hdi : (97 : Int) + (j : Int) = (D : Int) := by omega
        have hf0 : (0 : Int) ≤ (j : Int) := by omega
        have hD256 : D < 256 := by have := HJ.out; have := HWB.out; omega
        have hd8 := u8_small hD256
        have HLD := Lib.hid (fun V => line_is W D (by omega) hD256 V)
        obtain ⟨SD, hSD⟩ : ∃ S, bytesN (List.replicate W D) = S := ⟨_, rfl⟩
        rw [hSD] at HLD
        have t1 : (T.toList == SD.toList) = true := by
          have e : T = SD := by rw [← HTT.out, ← hSD]; congr 2; unfold lineV; rw [if_pos (by omega)]; omega
          rw [e]; exact beq_self_eq_true _
        clear hD hD256 hSD
        go_wp2_with fail
        refine (HL32.out _).mono ?_
        rintro v w7 ⟨rfl, hb7⟩
        have K7 := HKJ.out.trans (Keep.of_below (fun _ => False) hb7) (fun _ _ x => x)
        have HK7 := Lib.hid K7
        clear hb7 K7
        go_wp2_with fail
        refine (HLD.out _).mono ?_
        rintro v w8 ⟨rfl, hb8⟩
        have K8 := HK7.out.trans (Keep.of_below (fun _ => False) hb8) (fun _ _ x => x)
        have HK8 := Lib.hid K8
        have g0 : w8.cell? ⟨g, j, none⟩ = some (.string T) := (K8.cell (p := ⟨g, j, none⟩) HGL.out (fun x => x)).trans hc0.out
        clear hb8 K8
        go_wp2_with fail
        go_roundw
        case rel => exact ⟨j + 1, by go_num, HJ.out, HK8.out⟩
        case measure => have := HJ.out; simp [intOf]; omega
      · have h1b : (j : Int) ≥ (q : Int) := by omega
        by_cases h2 : (j : Int) - (k : Int) < (q : Int)
        · skip
          have t1 : (T.toList == S32.toList) = true := by
            have e : T = S32 := by rw [← HTT.out, ← HS32.out]; congr 2; unfold lineV; rw [if_neg (by omega), if_pos rfl, if_pos (by omega)]
            rw [e]; exact beq_self_eq_true _
          go_wp2_with fail
          refine (HL32.out _).mono ?_
          rintro v w7 ⟨rfl, hb7⟩
          have K7 := HKJ.out.trans (Keep.of_below (fun _ => False) hb7) (fun _ _ x => x)
          have HK7 := Lib.hid K7
          have g0 : w7.cell? ⟨g, j, none⟩ = some (.string T) := (K7.cell (p := ⟨g, j, none⟩) HGL.out (fun x => x)).trans hc0.out
          clear hb7 K7
          go_wp2_with fail
          go_roundw
          case rel => exact ⟨j + 1, by go_num, HJ.out, HK7.out⟩
          case measure => have := HJ.out; simp [intOf]; omega
        · skip
          obtain ⟨D, hD⟩ : ∃ D : Nat, D = 97 + (j - k) := ⟨_, rfl⟩
          have hdi : (97 : Int) + ((j : Int) - (k : Int)) = (D : Int) := by omega
          have hf0 : (0 : Int) ≤ ((j : Int) - (k : Int)) := by omega
          have hD256 : D < 256 := by have := HJ.out; have := HWB.out; omega
          have hd8 := u8_small hD256
          have HLD := Lib.hid (fun V => line_is W D (by omega) hD256 V)
          obtain ⟨SD, hSD⟩ : ∃ S, bytesN (List.replicate W D) = S := ⟨_, rfl⟩
          rw [hSD] at HLD
          have t1 : (T.toList == SD.toList) = true := by
            have e : T = SD := by rw [← HTT.out, ← hSD]; congr 2; unfold lineV; rw [if_neg (by omega), if_pos rfl, if_neg (by omega)]; omega
            rw [e]; exact beq_self_eq_true _
          clear hD hD256 hSD
          go_wp2_with fail
          refine (HL32.out _).mono ?_
          rintro v w7 ⟨rfl, hb7⟩
          have K7 := HKJ.out.trans (Keep.of_below (fun _ => False) hb7) (fun _ _ x => x)
          have HK7 := Lib.hid K7
          clear hb7 K7
          go_wp2_with fail
          refine (HLD.out _).mono ?_
          rintro v w8 ⟨rfl, hb8⟩
          have K8 := HK7.out.trans (Keep.of_below (fun _ => False) hb8) (fun _ _ x => x)
          have HK8 := Lib.hid K8
          have g0 : w8.cell? ⟨g, j, none⟩ = some (.string T) := (K8.cell (p := ⟨g, j, none⟩) HGL.out (fun x => x)).trans hc0.out
          clear hb8 K8
          go_wp2_with fail
          go_roundw
          case rel => exact ⟨j + 1, by go_num, HJ.out, HK8.out⟩
          case measure => have := HJ.out; simp [intOf]; omega
    · obtain rfl : j = H := by omega
      have hki : ¬ (j : Int) < (j : Int) := by omega
      have HB : Hid (Below w.heap.size w wr) := Lib.hid ((HB6.out.trans HKJ.out (fun _ _ x => x)).below (Nat.le_refl _) (fun _ _ x => x))
      go_wp2_with fail
      go_ret
      exact ⟨rfl, HB.out⟩

theorem walk_EmuLines (x : Int) (wx : (Lit.int .i64 x).wf = true) (y : Int) (wy : (Lit.int .i64 y).wf = true) (c : Int) (wc : (Lit.int .i64 c).wf = true) (n : Int) (wn : (Lit.int .i64 n).wf = true) (ins : Bool) (w : World) :
    Calls Tryz.prog 8 #[.int .i64 x, .int .i64 y, .int .i64 c, .int .i64 n, .bool ins] w fun e w' => e = .returned (.bool true) ∧ Below w.heap.size w w' := by
  by_cases h1 : n < 0
  · exact emuLines_early x y c n ins w (.inl h1)
  by_cases h2 : n > 30
  · exact emuLines_early x y c n ins w (.inr ⟨h1, h2⟩)
  obtain ⟨n0, rfl⟩ : ∃ n0 : Nat, n = (n0 : Int) := ⟨n.toNat, by omega⟩
  cases ins
  · exact emuLines_false x y c n0 (by omega) w
  · exact emuLines_true x y c n0 (by omega) w

end Go.Proofs.YtpmnbfifpenlkaaGreatDoor
