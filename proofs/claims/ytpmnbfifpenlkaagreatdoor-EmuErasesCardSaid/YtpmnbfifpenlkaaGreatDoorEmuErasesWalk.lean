/- Law EmuErases: the walk. By program (rgn/XEmuErasesWalk.py). Own work. -/
import Derived.Test.YtpmnbfifpenlkaaGreatDoorEmuPaint
import Derived.Test.YtpmnbfifpenlkaaGreatDoorEmuRows
import Derived.Test.YtpmnbfifpenlkaaGreatDoorEmuRest
import Derived.Deep.QuietTactic
import Derived.BigQuiet
namespace Go.Proofs.YtpmnbfifpenlkaaGreatDoor
set_option linter.unusedVariables false
set_option linter.unusedSimpArgs false
open Go.RowKit

theorem erases_nats (y x how : Nat) (row : Bool) (B : ByteArray) (hB : natsOf B = [if row = true then 75 else 74]) : natsJ [⟨#[27, 91]⟩, bytesN (decN (y + 1)), ⟨#[59]⟩, bytesN (decN (x + 1)), ⟨#[72, 27, 91]⟩, bytesN (decN how), B] = goXY (y + 1) (x + 1) ++ oneL how (if row = true then 75 else 74) := by
  rw [natsJ_eq]
  simp only [List.flatMap_cons, List.flatMap_nil, List.append_nil]
  rw [natsOf_decN, natsOf_decN, natsOf_decN, hB, show natsOf ⟨#[27, 91]⟩ = [27, 91] from rfl, show natsOf ⟨#[59]⟩ = [59] from rfl, show natsOf ⟨#[72, 27, 91]⟩ = [72, 27, 91] from rfl]
  unfold goXY oneL
  simp
theorem erases_size (y x how : Nat) (B : ByteArray) (hy : y + 1 < 100) (hx : x + 1 < 100) (hh : how < 100) (hB : B.size = 1) : sum [⟨#[27, 91]⟩, bytesN (decN (y + 1)), ⟨#[59]⟩, bytesN (decN (x + 1)), ⟨#[72, 27, 91]⟩, bytesN (decN how), B] ≤ 20 := by
  have := two_decN hy
  have := two_decN hx
  have := two_decN hh
  simp only [sum, List.map_cons, List.map_nil, List.foldr_cons, List.foldr_nil, bytesN_size]
  show 2 + ((decN (y + 1)).length + (1 + ((decN (x + 1)).length + (3 + ((decN how).length + (B.size + 0)))))) ≤ 20
  omega
def goneB (W x y how j i : Nat) : Bool := (how == 0 && decide (y * W + x ≤ j * W + i)) || (how == 1 && decide (j * W + i ≤ y * W + x)) || how == 2
def eraseV (W x y how : Nat) (row : Bool) (j i : Nat) : Nat := if goneB W x y how j i = true ∧ (row = false ∨ j = y) then 32 else 97 + j
def eraseF (W H x y how : Nat) (row : Bool) : Nat → CellM := if how < 3 then fillF (from_ W x y how row) (upto_ W H x y how row) blankC (paintF W H (fun _ => blankC)) else paintF W H (fun _ => blankC)
theorem erases_row (W H x y how j : Nat) (row : Bool) (hj : j < H) (hx : x < W) (hy : y < H) (hh : how < 4) (hH : H ≤ 20) : showL (rowL W (fun i => eraseF W H x y how row (j * W + i))) = bytesN (tab W (eraseV W x y how row j)) := by
  apply row_text
  intro i hi
  have hv : eraseV W x y how row j i < 128 := by unfold eraseV; split <;> omega
  refine ⟨?_, hv⟩
  unfold eraseF eraseV
  by_cases h3 : how < 3
  · rw [if_pos h3, fill_at i j how row h3 hi hj hx hy (goneB W x y how j i) rfl]
    split
    · rfl
    · rw [paint_at i j H hi hj]
  · rw [if_neg h3, paint_at i j H hi hj]
    have e : how = 3 := by omega
    have : goneB W x y how j i = false := by rw [e]; rfl
    rw [this, if_neg (by simp)]
/-- A byte of a text that is told by numbers. -/
theorem text_byte {T : ByteArray} {W : Nat} {f : Nat → Nat} (hT : T = bytesN (tab W f)) (i : Nat) (hi : i < W) (hf : f i < 256) (h : i < T.size) : (T[i]).toNat = f i := by
  subst hT
  have e : (bytesN (tab W f))[i] = UInt8.ofNat (f i) := by
    show (bytesN (tab W f)).data[i] = _
    simp [bytesN, tab]
  rw [e, toNat_ofNat hf]

set_option maxRecDepth 100000 in
set_option maxHeartbeats 12800000 in
theorem emuErases_false (x y c d how : Int) (w : World) :
    Calls Tryz.prog 7 #[.int .i64 x, .int .i64 y, .int .i64 c, .int .i64 d, .int .i64 how, .bool false] w fun e w' => e = .returned (.bool true) ∧ Below w.heap.size w w' := by
  obtain ⟨W, hW⟩ : ∃ W : Nat, min (max x 2) 40 = (W : Int) := ⟨(min (max x 2) 40).toNat, by omega⟩
  obtain ⟨H, hH⟩ : ∃ H : Nat, min (max y 1) 20 = (H : Int) := ⟨(min (max y 1) 20).toNat, by omega⟩
  have HP := Lib.hid (fun V h0 => painted_is w V x y W H hW hH h0)
  have HWB : Hid ((2 ≤ W ∧ W ≤ 40) ∧ 1 ≤ H ∧ H ≤ 20) := Lib.hid (by omega)
  have g1 : (W : Int) ≤ 40 := by omega
  have g2 : (H : Int) ≤ 20 := by omega
  have g3 : (1 : Int) ≤ (H : Int) := by omega
  have g4 : (2 : Int) ≤ (W : Int) := by omega
  obtain ⟨tm, htm, tm1, tm2, p, hp, hpl⟩ := rest_twice c W (by omega)
  obtain ⟨tn, htn, tn1, tn2, q, hq, hql⟩ := rest_twice d H (by omega)
  obtain ⟨tp, htp, tp1, tp2, z, hz, hzl⟩ : ∃ tm : Int, how.tmod 4 = tm ∧ -4 < tm ∧ tm < 4 ∧ ∃ r : Nat, (tm + 4) % 4 = (r : Int) ∧ r < 4 := rest_twice how 4 (by omega)
  have HQ : Hid (p < W ∧ q < H ∧ z < 4) := Lib.hid ⟨hpl, hql, hzl⟩
  have HD1 : Hid (∀ V, Calls Tryz.prog 17 #[.int .i64 ((q : Int) + 1)] V fun e w' => e = .returned (.string (bytesN (decN (q + 1)))) ∧ Below V.heap.size V w') := Lib.hid (fun V => digits_any (q + 1) (by omega) V)
  have HD2 : Hid (∀ V, Calls Tryz.prog 17 #[.int .i64 ((p : Int) + 1)] V fun e w' => e = .returned (.string (bytesN (decN (p + 1)))) ∧ Below V.heap.size V w') := Lib.hid (fun V => digits_any (p + 1) (by omega) V)
  have HD3 := Lib.hid (fun V => digits_any z (by omega) V)
  have hpi : (p : Int) < (W : Int) := by omega
  have hqi : (q : Int) < (H : Int) := by omega
  clear hW hH hpl hql hzl
  go_enter Tryz.func7, Tryz.ntmps7
  go_wp2_with fail
  refine (emu_alive _).mono ?_
  rintro v w1 ⟨rfl, hb1⟩
  have HE1 := Lib.hid ((Ems.start w).quiet (Keep.of_below _ hb1))
  clear hb1
  go_wp2_with fail
  refine (HP.out _ HE1.out).mono ?_
  rintro v w2 ⟨e, L, x1, y1, late1, rfl, he2⟩
  have HE2 := Lib.hid he2
  clear he2 HE1 HP
  go_wp2_with fail
  go_quiet (fail)
  have HE2b := Lib.hid (HE2.out.quiet ((Keep.refl (fun _ => False) w2).drewN nq))
  clear HE2
  go_wp2_with fail
  refine (HD1.out _).mono ?_
  rintro v w3 ⟨rfl, hb3⟩
  have HE3 := Lib.hid (HE2b.out.quiet (Keep.of_below _ hb3))
  clear hb3 HE2b HD1
  go_wp2_with fail
  refine (HD2.out _).mono ?_
  rintro v w4 ⟨rfl, hb4⟩
  have HE4 := Lib.hid (HE3.out.quiet (Keep.of_below _ hb4))
  clear hb4 HE3 HD2
  go_wp2_with fail
  refine (HD3.out _).mono ?_
  rintro v w5 ⟨rfl, hb5⟩
  have HF := Lib.hid (fed1 (k' := 20040) (m' := plM W H (eraseF W H p q z false) p q false 0 H) (o := []) (HE4.out.quiet (Keep.of_below _ hb5)) [⟨#[27, 91]⟩, bytesN (decN (q + 1)), ⟨#[59]⟩, bytesN (decN (p + 1)), ⟨#[72, 27, 91]⟩, bytesN (decN z), ⟨#[74]⟩] 7 rfl (by omega) (Nat.le_trans (erases_size q p z _ (by have := HQ.out; have := HWB.out; omega) (by have := HQ.out; have := HWB.out; omega) (by have := HQ.out; omega) rfl) (by omega)) (by omega) (by have := erases_size q p z ⟨#[74]⟩ (by have := HQ.out; have := HWB.out; omega) (by have := HQ.out; have := HWB.out; omega) (by have := HQ.out; omega) rfl; omega) (by
    rw [erases_nats q p z false ⟨#[74]⟩ rfl, feedM_add, pl_go p q HQ.out.1 HQ.out.2.1 HWB.out.1.2 HWB.out.2.2]
    dsimp only
    rw [pl_erase z false HQ.out.2.2]
    unfold eraseF
    by_cases h3 : z < 3
    · simp only [if_pos h3]
      try rfl
    · simp only [if_neg h3]
      try rfl))
  obtain ⟨d1, hd1⟩ : ∃ d1, bytesN (decN (q + 1)) = d1 := ⟨_, rfl⟩
  obtain ⟨d2, hd2⟩ : ∃ d2, bytesN (decN (p + 1)) = d2 := ⟨_, rfl⟩
  obtain ⟨d3, hd3⟩ : ∃ d3, bytesN (decN z) = d3 := ⟨_, rfl⟩
  rw [hd1, hd2, hd3] at HF
  rw [hd1, hd2, hd3]
  clear hb5 hd1 hd2 hd3 HD3 HE4
  go_wp2_with fail
  refine HF.out.mono ?_
  rintro v w5b ⟨rfl, L5, he5, -, -⟩
  have HE5 := Lib.hid he5
  have HT := Lib.hid (emu_text w5b e L5 _ he5.one.r)
  clear he5 HF
  go_wp2_with fail
  refine HT.out.mono ?_
  rintro v w6 ⟨r, rfl, hr, hb6⟩
  obtain ⟨g, c6, rfl, hgl, hg⟩ := text_cells (W := W) (H := H) (F := eraseF W H p q z false) (by have := HWB.out; omega) hr
  have HG : Hid (∀ j, j < H → w6.cell? ⟨g, j, none⟩ = some (.string (bytesN (tab W (eraseV W p q z false j))))) := Lib.hid (fun j hj => by
    rw [← erases_row W H p q z j false hj HQ.out.1 HQ.out.2.1 HQ.out.2.2 HWB.out.2.2]; exact hg j hj)
  have HE6 := Lib.hid (HE5.out.quiet (Keep.of_below _ hb6))
  obtain ⟨PY, hPY⟩ : ∃ PY, PY = q * W := ⟨_, rfl⟩
  have hPYb : PY ≤ 800 := by rw [hPY]; exact Nat.le_trans (Nat.mul_le_mul (show q ≤ 20 by omega) (show W ≤ 40 by omega)) (by omega)
  have hPYi : (q : Int) * (W : Int) = (PY : Int) := by rw [hPY]; exact rfl
  have hPYj : (PY : Int) ≤ 800 := by omega
  have HPY := Lib.hid hPY
  clear hr hb6 hg hgl HT HE5 hPY hPYb
  go_wp2_with fail
  go_loopw [16] (fun vj wr => ∃ j : Nat, vj = .int .i64 (j : Int) ∧ j ≤ H ∧ wr = w6) (fun vj _ => H - (intOf vj).toNat)
  case atStart => exact ⟨0, rfl, by omega, rfl⟩
  case round =>
    obtain ⟨j, rfl, hj, rfl⟩ := hrel
    by_cases hlt : j < H
    · have hki : (j : Int) < (H : Int) := by omega
      have hk0 : (0 : Int) ≤ (j : Int) := by omega
      have HJ := Lib.hid hlt
      obtain ⟨T, hT⟩ : ∃ T, T = bytesN (tab W (eraseV W p q z false j)) := ⟨_, rfl⟩
      have g0 : wr.cell? ⟨g, j, none⟩ = some (.string T) := by rw [hT]; exact HG.out j hlt
      have hTs : T.size = W := by rw [hT, bytesN_size, tab_len]
      have HTT := Lib.hid hT
      obtain ⟨PJ, hPJ⟩ : ∃ PJ, PJ = j * W := ⟨_, rfl⟩
      have hPJb : PJ ≤ 800 := by rw [hPJ]; exact Nat.le_trans (Nat.mul_le_mul (show j ≤ 20 by omega) (show W ≤ 40 by omega)) (by omega)
      have hPJi : (j : Int) * (W : Int) = (PJ : Int) := by rw [hPJ]; exact rfl
      have hPJj : (PJ : Int) ≤ 800 := by omega
      have HPJ := Lib.hid hPJ
      obtain ⟨D, hD⟩ : ∃ D : Nat, D = 97 + j := ⟨_, rfl⟩
      have hdi : (97 : Int) + (j : Int) = (D : Int) := by omega
      have hD256 : D < 256 := by omega
      have hd8 := u8_small hD256
      have HD := Lib.hid hD
      have HTS := Lib.hid hTs
      clear hT hlt hj hPJ hPJb hD hD256
      go_wp2_with fail
      go_loopw [17] (fun vi wr2 => ∃ i : Nat, vi = .int .i64 (i : Int) ∧ i ≤ W ∧ wr2 = wr) (fun vi _ => W - (intOf vi).toNat)
      case atStart => exact ⟨0, rfl, by omega, rfl⟩
      case round =>
        obtain ⟨i, rfl, hi, rfl⟩ := hrel
        by_cases hlt : i < W
        · have hii : (i : Int) < (W : Int) := by omega
          have hi0 : (0 : Int) ≤ (i : Int) := by omega
          have HI := Lib.hid hlt
          have hiT : i < T.size := by rw [HTS.out]; exact hlt
          have hvb : eraseV W p q z false j i < 256 := by unfold eraseV; have := HJ.out; have := HWB.out; split <;> omega
          have hTi : (T[i]).toNat = eraseV W p q z false j i := text_byte HTT.out i hlt hvb hiT
          have hiff : (goneB W p q z j i = true ∧ (false = false ∨ j = q)) ↔ ((z = 0 ∧ PY + p ≤ PJ + i) ∨ (z = 1 ∧ PJ + i ≤ PY + p) ∨ z = 2) := by
            unfold goneB
            rw [← HPY.out, ← HPJ.out]
            simp [or_assoc]
          have HV : Hid (eraseV W p q z false j i = if ((z = 0 ∧ PY + p ≤ PJ + i) ∨ (z = 1 ∧ PJ + i ≤ PY + p) ∨ z = 2) then 32 else D) := Lib.hid (by
            unfold eraseV
            by_cases h : ((z = 0 ∧ PY + p ≤ PJ + i) ∨ (z = 1 ∧ PJ + i ≤ PY + p) ∨ z = 2)
            · rw [if_pos h, if_pos (hiff.2 h)]
            · rw [if_neg h, if_neg (fun e => h (hiff.1 e)), HD.out])
          clear hiff
          clear hi hvb
          rcases (show z = 0 ∨ z = 1 ∨ z = 2 ∨ z = 3 by have := HQ.out; omega) with hz0 | hz0 | hz0 | hz0
          · by_cases hcm : PY + p ≤ PJ + i
            · have z0 : (z : Int) = 0 := by omega
              have z1 : ¬ (z : Int) = 1 := by omega
              have z2 : ¬ (z : Int) = 2 := by omega
              have hcmi : ((PJ : Int) + (i : Int) ≥ (PY : Int) + (p : Int)) := by omega
              have hTv : ((T[i]).toNat : Int) = 32 := by rw [hTi, HV.out, if_pos (by omega)]; rfl
              clear hTi HV
              go_wp2_with fail
              go_roundw
              case rel => exact ⟨i + 1, by go_num, HI.out, trivial⟩
              case measure => have := HI.out; simp [intOf]; omega
            · have z0 : (z : Int) = 0 := by omega
              have z1 : ¬ (z : Int) = 1 := by omega
              have z2 : ¬ (z : Int) = 2 := by omega
              have hcmi : ¬ ((PJ : Int) + (i : Int) ≥ (PY : Int) + (p : Int)) := by omega
              have hTv : ((T[i]).toNat : Int) = (D : Int) := by rw [hTi, HV.out, if_neg (by omega)]
              clear hTi HV
              go_wp2_with fail
              go_roundw
              case rel => exact ⟨i + 1, by go_num, HI.out, trivial⟩
              case measure => have := HI.out; simp [intOf]; omega
          · by_cases hcm : PJ + i ≤ PY + p
            · have z0 : ¬ (z : Int) = 0 := by omega
              have z1 : (z : Int) = 1 := by omega
              have z2 : ¬ (z : Int) = 2 := by omega
              have hcmi : ((PJ : Int) + (i : Int) ≤ (PY : Int) + (p : Int)) := by omega
              have hTv : ((T[i]).toNat : Int) = 32 := by rw [hTi, HV.out, if_pos (by omega)]; rfl
              clear hTi HV
              go_wp2_with fail
              go_roundw
              case rel => exact ⟨i + 1, by go_num, HI.out, trivial⟩
              case measure => have := HI.out; simp [intOf]; omega
            · have z0 : ¬ (z : Int) = 0 := by omega
              have z1 : (z : Int) = 1 := by omega
              have z2 : ¬ (z : Int) = 2 := by omega
              have hcmi : ¬ ((PJ : Int) + (i : Int) ≤ (PY : Int) + (p : Int)) := by omega
              have hTv : ((T[i]).toNat : Int) = (D : Int) := by rw [hTi, HV.out, if_neg (by omega)]
              clear hTi HV
              go_wp2_with fail
              go_roundw
              case rel => exact ⟨i + 1, by go_num, HI.out, trivial⟩
              case measure => have := HI.out; simp [intOf]; omega
          · have z0 : ¬ (z : Int) = 0 := by omega
            have z1 : ¬ (z : Int) = 1 := by omega
            have z2 : (z : Int) = 2 := by omega
            have hTv : ((T[i]).toNat : Int) = 32 := by rw [hTi, HV.out, if_pos (by omega)]; rfl
            clear hTi HV
            go_wp2_with fail
            go_roundw
            case rel => exact ⟨i + 1, by go_num, HI.out, trivial⟩
            case measure => have := HI.out; simp [intOf]; omega
          · have z0 : ¬ (z : Int) = 0 := by omega
            have z1 : ¬ (z : Int) = 1 := by omega
            have z2 : ¬ (z : Int) = 2 := by omega
            have hTv : ((T[i]).toNat : Int) = (D : Int) := by rw [hTi, HV.out, if_neg (by omega)]
            clear hTi HV
            go_wp2_with fail
            go_roundw
            case rel => exact ⟨i + 1, by go_num, HI.out, trivial⟩
            case measure => have := HI.out; simp [intOf]; omega
        · obtain rfl : i = W := by omega
          have hii : ¬ (i : Int) < (i : Int) := by omega
          clear hi hlt
          go_wp2_with fail
          go_roundw
          case rel => exact ⟨j + 1, by go_num, HJ.out, trivial⟩
          case measure => have := HJ.out; simp [intOf]; omega
    · obtain rfl : j = H := by omega
      have hki : ¬ (j : Int) < (j : Int) := by omega
      have HS := Lib.hid (emu_screen wr e L5 _ HE6.out.one.r)
      go_wp2_with fail
      refine HS.out.mono ?_
      rintro v w7 ⟨g7, c7, rfl, -, -, -, -, hb7⟩
      have HB7 := Lib.hid ((HE6.out.quiet (Keep.of_below _ hb7)).quiet ((Keep.refl _ w7).alloc (.cells #[.int .i64 (W : Int), .int .i64 (j : Int), .slice (some ⟨g7, 0, none⟩) (W * j) c7, .int .i64 (p : Int), .int .i64 (q : Int), .bool false] 28))).below
      have hsv : scrV (plM W j (eraseF W j p q z false) p q false 0 j) (some ⟨g7, 0, none⟩) c7 = .agg #[.int .i64 (W : Int), .int .i64 (j : Int), .slice (some ⟨g7, 0, none⟩) (W * j) c7, .int .i64 (p : Int), .int .i64 (q : Int), .bool false] := rfl
      rw [hsv]
      clear hb7 HS hsv
      go_wp2_with fail
      go_ret
      exact ⟨rfl, HB7.out⟩

set_option maxRecDepth 100000 in
set_option maxHeartbeats 12800000 in
theorem emuErases_true (x y c d how : Int) (w : World) :
    Calls Tryz.prog 7 #[.int .i64 x, .int .i64 y, .int .i64 c, .int .i64 d, .int .i64 how, .bool true] w fun e w' => e = .returned (.bool true) ∧ Below w.heap.size w w' := by
  obtain ⟨W, hW⟩ : ∃ W : Nat, min (max x 2) 40 = (W : Int) := ⟨(min (max x 2) 40).toNat, by omega⟩
  obtain ⟨H, hH⟩ : ∃ H : Nat, min (max y 1) 20 = (H : Int) := ⟨(min (max y 1) 20).toNat, by omega⟩
  have HP := Lib.hid (fun V h0 => painted_is w V x y W H hW hH h0)
  have HWB : Hid ((2 ≤ W ∧ W ≤ 40) ∧ 1 ≤ H ∧ H ≤ 20) := Lib.hid (by omega)
  have g1 : (W : Int) ≤ 40 := by omega
  have g2 : (H : Int) ≤ 20 := by omega
  have g3 : (1 : Int) ≤ (H : Int) := by omega
  have g4 : (2 : Int) ≤ (W : Int) := by omega
  obtain ⟨tm, htm, tm1, tm2, p, hp, hpl⟩ := rest_twice c W (by omega)
  obtain ⟨tn, htn, tn1, tn2, q, hq, hql⟩ := rest_twice d H (by omega)
  obtain ⟨tp, htp, tp1, tp2, z, hz, hzl⟩ : ∃ tm : Int, how.tmod 4 = tm ∧ -4 < tm ∧ tm < 4 ∧ ∃ r : Nat, (tm + 4) % 4 = (r : Int) ∧ r < 4 := rest_twice how 4 (by omega)
  have HQ : Hid (p < W ∧ q < H ∧ z < 4) := Lib.hid ⟨hpl, hql, hzl⟩
  have HD1 : Hid (∀ V, Calls Tryz.prog 17 #[.int .i64 ((q : Int) + 1)] V fun e w' => e = .returned (.string (bytesN (decN (q + 1)))) ∧ Below V.heap.size V w') := Lib.hid (fun V => digits_any (q + 1) (by omega) V)
  have HD2 : Hid (∀ V, Calls Tryz.prog 17 #[.int .i64 ((p : Int) + 1)] V fun e w' => e = .returned (.string (bytesN (decN (p + 1)))) ∧ Below V.heap.size V w') := Lib.hid (fun V => digits_any (p + 1) (by omega) V)
  have HD3 := Lib.hid (fun V => digits_any z (by omega) V)
  have hpi : (p : Int) < (W : Int) := by omega
  have hqi : (q : Int) < (H : Int) := by omega
  clear hW hH hpl hql hzl
  go_enter Tryz.func7, Tryz.ntmps7
  go_wp2_with fail
  refine (emu_alive _).mono ?_
  rintro v w1 ⟨rfl, hb1⟩
  have HE1 := Lib.hid ((Ems.start w).quiet (Keep.of_below _ hb1))
  clear hb1
  go_wp2_with fail
  refine (HP.out _ HE1.out).mono ?_
  rintro v w2 ⟨e, L, x1, y1, late1, rfl, he2⟩
  have HE2 := Lib.hid he2
  clear he2 HE1 HP
  go_wp2_with fail
  go_quiet (fail)
  have HE2b := Lib.hid (HE2.out.quiet ((Keep.refl (fun _ => False) w2).drewN nq))
  clear HE2
  go_wp2_with fail
  refine (HD1.out _).mono ?_
  rintro v w3 ⟨rfl, hb3⟩
  have HE3 := Lib.hid (HE2b.out.quiet (Keep.of_below _ hb3))
  clear hb3 HE2b HD1
  go_wp2_with fail
  refine (HD2.out _).mono ?_
  rintro v w4 ⟨rfl, hb4⟩
  have HE4 := Lib.hid (HE3.out.quiet (Keep.of_below _ hb4))
  clear hb4 HE3 HD2
  go_wp2_with fail
  refine (HD3.out _).mono ?_
  rintro v w5 ⟨rfl, hb5⟩
  have HF := Lib.hid (fed1 (k' := 20040) (m' := plM W H (eraseF W H p q z true) p q false 0 H) (o := []) (HE4.out.quiet (Keep.of_below _ hb5)) [⟨#[27, 91]⟩, bytesN (decN (q + 1)), ⟨#[59]⟩, bytesN (decN (p + 1)), ⟨#[72, 27, 91]⟩, bytesN (decN z), ⟨#[75]⟩] 7 rfl (by omega) (Nat.le_trans (erases_size q p z _ (by have := HQ.out; have := HWB.out; omega) (by have := HQ.out; have := HWB.out; omega) (by have := HQ.out; omega) rfl) (by omega)) (by omega) (by have := erases_size q p z ⟨#[75]⟩ (by have := HQ.out; have := HWB.out; omega) (by have := HQ.out; have := HWB.out; omega) (by have := HQ.out; omega) rfl; omega) (by
    rw [erases_nats q p z true ⟨#[75]⟩ rfl, feedM_add, pl_go p q HQ.out.1 HQ.out.2.1 HWB.out.1.2 HWB.out.2.2]
    dsimp only
    rw [pl_erase z true HQ.out.2.2]
    unfold eraseF
    by_cases h3 : z < 3
    · simp only [if_pos h3]
      try rfl
    · simp only [if_neg h3]
      try rfl))
  obtain ⟨d1, hd1⟩ : ∃ d1, bytesN (decN (q + 1)) = d1 := ⟨_, rfl⟩
  obtain ⟨d2, hd2⟩ : ∃ d2, bytesN (decN (p + 1)) = d2 := ⟨_, rfl⟩
  obtain ⟨d3, hd3⟩ : ∃ d3, bytesN (decN z) = d3 := ⟨_, rfl⟩
  rw [hd1, hd2, hd3] at HF
  rw [hd1, hd2, hd3]
  clear hb5 hd1 hd2 hd3 HD3 HE4
  go_wp2_with fail
  refine HF.out.mono ?_
  rintro v w5b ⟨rfl, L5, he5, -, -⟩
  have HE5 := Lib.hid he5
  have HT := Lib.hid (emu_text w5b e L5 _ he5.one.r)
  clear he5 HF
  go_wp2_with fail
  refine HT.out.mono ?_
  rintro v w6 ⟨r, rfl, hr, hb6⟩
  obtain ⟨g, c6, rfl, hgl, hg⟩ := text_cells (W := W) (H := H) (F := eraseF W H p q z true) (by have := HWB.out; omega) hr
  have HG : Hid (∀ j, j < H → w6.cell? ⟨g, j, none⟩ = some (.string (bytesN (tab W (eraseV W p q z true j))))) := Lib.hid (fun j hj => by
    rw [← erases_row W H p q z j true hj HQ.out.1 HQ.out.2.1 HQ.out.2.2 HWB.out.2.2]; exact hg j hj)
  have HE6 := Lib.hid (HE5.out.quiet (Keep.of_below _ hb6))
  obtain ⟨PY, hPY⟩ : ∃ PY, PY = q * W := ⟨_, rfl⟩
  have hPYb : PY ≤ 800 := by rw [hPY]; exact Nat.le_trans (Nat.mul_le_mul (show q ≤ 20 by omega) (show W ≤ 40 by omega)) (by omega)
  have hPYi : (q : Int) * (W : Int) = (PY : Int) := by rw [hPY]; exact rfl
  have hPYj : (PY : Int) ≤ 800 := by omega
  have HPY := Lib.hid hPY
  clear hr hb6 hg hgl HT HE5 hPY hPYb
  go_wp2_with fail
  go_loopw [16] (fun vj wr => ∃ j : Nat, vj = .int .i64 (j : Int) ∧ j ≤ H ∧ wr = w6) (fun vj _ => H - (intOf vj).toNat)
  case atStart => exact ⟨0, rfl, by omega, rfl⟩
  case round =>
    obtain ⟨j, rfl, hj, rfl⟩ := hrel
    by_cases hlt : j < H
    · have hki : (j : Int) < (H : Int) := by omega
      have hk0 : (0 : Int) ≤ (j : Int) := by omega
      have HJ := Lib.hid hlt
      obtain ⟨T, hT⟩ : ∃ T, T = bytesN (tab W (eraseV W p q z true j)) := ⟨_, rfl⟩
      have g0 : wr.cell? ⟨g, j, none⟩ = some (.string T) := by rw [hT]; exact HG.out j hlt
      have hTs : T.size = W := by rw [hT, bytesN_size, tab_len]
      have HTT := Lib.hid hT
      obtain ⟨PJ, hPJ⟩ : ∃ PJ, PJ = j * W := ⟨_, rfl⟩
      have hPJb : PJ ≤ 800 := by rw [hPJ]; exact Nat.le_trans (Nat.mul_le_mul (show j ≤ 20 by omega) (show W ≤ 40 by omega)) (by omega)
      have hPJi : (j : Int) * (W : Int) = (PJ : Int) := by rw [hPJ]; exact rfl
      have hPJj : (PJ : Int) ≤ 800 := by omega
      have HPJ := Lib.hid hPJ
      obtain ⟨D, hD⟩ : ∃ D : Nat, D = 97 + j := ⟨_, rfl⟩
      have hdi : (97 : Int) + (j : Int) = (D : Int) := by omega
      have hD256 : D < 256 := by omega
      have hd8 := u8_small hD256
      have HD := Lib.hid hD
      have HTS := Lib.hid hTs
      clear hT hlt hj hPJ hPJb hD hD256
      go_wp2_with fail
      go_loopw [17] (fun vi wr2 => ∃ i : Nat, vi = .int .i64 (i : Int) ∧ i ≤ W ∧ wr2 = wr) (fun vi _ => W - (intOf vi).toNat)
      case atStart => exact ⟨0, rfl, by omega, rfl⟩
      case round =>
        obtain ⟨i, rfl, hi, rfl⟩ := hrel
        by_cases hlt : i < W
        · have hii : (i : Int) < (W : Int) := by omega
          have hi0 : (0 : Int) ≤ (i : Int) := by omega
          have HI := Lib.hid hlt
          have hiT : i < T.size := by rw [HTS.out]; exact hlt
          have hvb : eraseV W p q z true j i < 256 := by unfold eraseV; have := HJ.out; have := HWB.out; split <;> omega
          have hTi : (T[i]).toNat = eraseV W p q z true j i := text_byte HTT.out i hlt hvb hiT
          have hiff : (goneB W p q z j i = true ∧ (true = false ∨ j = q)) ↔ (((z = 0 ∧ PY + p ≤ PJ + i) ∨ (z = 1 ∧ PJ + i ≤ PY + p) ∨ z = 2) ∧ j = q) := by
            unfold goneB
            rw [← HPY.out, ← HPJ.out]
            simp [or_assoc]
          have HV : Hid (eraseV W p q z true j i = if (((z = 0 ∧ PY + p ≤ PJ + i) ∨ (z = 1 ∧ PJ + i ≤ PY + p) ∨ z = 2) ∧ j = q) then 32 else D) := Lib.hid (by
            unfold eraseV
            by_cases h : (((z = 0 ∧ PY + p ≤ PJ + i) ∨ (z = 1 ∧ PJ + i ≤ PY + p) ∨ z = 2) ∧ j = q)
            · rw [if_pos h, if_pos (hiff.2 h)]
            · rw [if_neg h, if_neg (fun e => h (hiff.1 e)), HD.out])
          clear hiff
          clear hi hvb
          rcases (show z = 0 ∨ z = 1 ∨ z = 2 ∨ z = 3 by have := HQ.out; omega) with hz0 | hz0 | hz0 | hz0
          · by_cases hcm : PY + p ≤ PJ + i
            · have z0 : (z : Int) = 0 := by omega
              have z1 : ¬ (z : Int) = 1 := by omega
              have z2 : ¬ (z : Int) = 2 := by omega
              have hcmi : ((PJ : Int) + (i : Int) ≥ (PY : Int) + (p : Int)) := by omega
              by_cases hjq : j = q
              · have hTv : ((T[i]).toNat : Int) = 32 := by rw [hTi, HV.out, if_pos (by omega)]; rfl
                have hpp : PJ = PY := by rw [HPJ.out, HPY.out, hjq]
                clear hTi HV
                subst hpp
                subst hjq
                go_wp2_with fail
                go_roundw
                case rel => exact ⟨i + 1, by go_num, HI.out, trivial⟩
                case measure => have := HI.out; simp [intOf]; omega
              · have hjqi : ¬ (j : Int) = (q : Int) := by omega
                have hjqb : ((j : Int) == (q : Int)) = false := by simp; omega
                have hTv : ((T[i]).toNat : Int) = (D : Int) := by rw [hTi, HV.out, if_neg (by omega)]
                clear hTi HV
                go_wp2_with fail
                go_roundw
                case rel => exact ⟨i + 1, by go_num, HI.out, trivial⟩
                case measure => have := HI.out; simp [intOf]; omega
            · have z0 : (z : Int) = 0 := by omega
              have z1 : ¬ (z : Int) = 1 := by omega
              have z2 : ¬ (z : Int) = 2 := by omega
              have hcmi : ¬ ((PJ : Int) + (i : Int) ≥ (PY : Int) + (p : Int)) := by omega
              have hTv : ((T[i]).toNat : Int) = (D : Int) := by rw [hTi, HV.out, if_neg (by omega)]
              clear hTi HV
              go_wp2_with fail
              go_roundw
              case rel => exact ⟨i + 1, by go_num, HI.out, trivial⟩
              case measure => have := HI.out; simp [intOf]; omega
          · by_cases hcm : PJ + i ≤ PY + p
            · have z0 : ¬ (z : Int) = 0 := by omega
              have z1 : (z : Int) = 1 := by omega
              have z2 : ¬ (z : Int) = 2 := by omega
              have hcmi : ((PJ : Int) + (i : Int) ≤ (PY : Int) + (p : Int)) := by omega
              by_cases hjq : j = q
              · have hTv : ((T[i]).toNat : Int) = 32 := by rw [hTi, HV.out, if_pos (by omega)]; rfl
                have hpp : PJ = PY := by rw [HPJ.out, HPY.out, hjq]
                clear hTi HV
                subst hpp
                subst hjq
                go_wp2_with fail
                go_roundw
                case rel => exact ⟨i + 1, by go_num, HI.out, trivial⟩
                case measure => have := HI.out; simp [intOf]; omega
              · have hjqi : ¬ (j : Int) = (q : Int) := by omega
                have hjqb : ((j : Int) == (q : Int)) = false := by simp; omega
                have hTv : ((T[i]).toNat : Int) = (D : Int) := by rw [hTi, HV.out, if_neg (by omega)]
                clear hTi HV
                go_wp2_with fail
                go_roundw
                case rel => exact ⟨i + 1, by go_num, HI.out, trivial⟩
                case measure => have := HI.out; simp [intOf]; omega
            · have z0 : ¬ (z : Int) = 0 := by omega
              have z1 : (z : Int) = 1 := by omega
              have z2 : ¬ (z : Int) = 2 := by omega
              have hcmi : ¬ ((PJ : Int) + (i : Int) ≤ (PY : Int) + (p : Int)) := by omega
              have hTv : ((T[i]).toNat : Int) = (D : Int) := by rw [hTi, HV.out, if_neg (by omega)]
              clear hTi HV
              go_wp2_with fail
              go_roundw
              case rel => exact ⟨i + 1, by go_num, HI.out, trivial⟩
              case measure => have := HI.out; simp [intOf]; omega
          · have z0 : ¬ (z : Int) = 0 := by omega
            have z1 : ¬ (z : Int) = 1 := by omega
            have z2 : (z : Int) = 2 := by omega
            by_cases hjq : j = q
            · have hTv : ((T[i]).toNat : Int) = 32 := by rw [hTi, HV.out, if_pos (by omega)]; rfl
              have hpp : PJ = PY := by rw [HPJ.out, HPY.out, hjq]
              clear hTi HV
              subst hpp
              subst hjq
              go_wp2_with fail
              go_roundw
              case rel => exact ⟨i + 1, by go_num, HI.out, trivial⟩
              case measure => have := HI.out; simp [intOf]; omega
            · have hjqi : ¬ (j : Int) = (q : Int) := by omega
              have hjqb : ((j : Int) == (q : Int)) = false := by simp; omega
              have hTv : ((T[i]).toNat : Int) = (D : Int) := by rw [hTi, HV.out, if_neg (by omega)]
              clear hTi HV
              go_wp2_with fail
              go_roundw
              case rel => exact ⟨i + 1, by go_num, HI.out, trivial⟩
              case measure => have := HI.out; simp [intOf]; omega
          · have z0 : ¬ (z : Int) = 0 := by omega
            have z1 : ¬ (z : Int) = 1 := by omega
            have z2 : ¬ (z : Int) = 2 := by omega
            have hTv : ((T[i]).toNat : Int) = (D : Int) := by rw [hTi, HV.out, if_neg (by omega)]
            clear hTi HV
            go_wp2_with fail
            go_roundw
            case rel => exact ⟨i + 1, by go_num, HI.out, trivial⟩
            case measure => have := HI.out; simp [intOf]; omega
        · obtain rfl : i = W := by omega
          have hii : ¬ (i : Int) < (i : Int) := by omega
          clear hi hlt
          go_wp2_with fail
          go_roundw
          case rel => exact ⟨j + 1, by go_num, HJ.out, trivial⟩
          case measure => have := HJ.out; simp [intOf]; omega
    · obtain rfl : j = H := by omega
      have hki : ¬ (j : Int) < (j : Int) := by omega
      have HS := Lib.hid (emu_screen wr e L5 _ HE6.out.one.r)
      go_wp2_with fail
      refine HS.out.mono ?_
      rintro v w7 ⟨g7, c7, rfl, -, -, -, -, hb7⟩
      have HB7 := Lib.hid ((HE6.out.quiet (Keep.of_below _ hb7)).quiet ((Keep.refl _ w7).alloc (.cells #[.int .i64 (W : Int), .int .i64 (j : Int), .slice (some ⟨g7, 0, none⟩) (W * j) c7, .int .i64 (p : Int), .int .i64 (q : Int), .bool false] 28))).below
      have hsv : scrV (plM W j (eraseF W j p q z true) p q false 0 j) (some ⟨g7, 0, none⟩) c7 = .agg #[.int .i64 (W : Int), .int .i64 (j : Int), .slice (some ⟨g7, 0, none⟩) (W * j) c7, .int .i64 (p : Int), .int .i64 (q : Int), .bool false] := rfl
      rw [hsv]
      clear hb7 HS hsv
      go_wp2_with fail
      go_ret
      exact ⟨rfl, HB7.out⟩

theorem walk_EmuErases (x : Int) (wx : (Lit.int .i64 x).wf = true) (y : Int) (wy : (Lit.int .i64 y).wf = true) (c : Int) (wc : (Lit.int .i64 c).wf = true) (d : Int) (wd : (Lit.int .i64 d).wf = true) (how : Int) (wh : (Lit.int .i64 how).wf = true) (row : Bool) (w : World) :
    Calls Tryz.prog 7 #[.int .i64 x, .int .i64 y, .int .i64 c, .int .i64 d, .int .i64 how, .bool row] w fun e w' => e = .returned (.bool true) ∧ Below w.heap.size w w' := by
  cases row
  · exact emuErases_false x y c d how w
  · exact emuErases_true x y c d how w

end Go.Proofs.YtpmnbfifpenlkaaGreatDoor
