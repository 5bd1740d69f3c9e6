/- Law EmuChars: the walk. By program (rgn/XEmuCharsWalk.py). Own work. -/
import Derived.Test.YtpmnbfifpenlkaaGreatDoorEmuPaintM
import Derived.Test.YtpmnbfifpenlkaaGreatDoorEmuRows
import Derived.Test.YtpmnbfifpenlkaaGreatDoorEmuLine
import Derived.Test.YtpmnbfifpenlkaaGreatDoorEmuRest
import Derived.Deep.QuietTactic
import Derived.BigQuiet
import Derived.IntWalk
namespace Go.Proofs.YtpmnbfifpenlkaaGreatDoor
set_option linter.unusedVariables false
set_option linter.unusedSimpArgs false
open Go.RowKit

theorem natsOf_slice (S : ByteArray) (p q : Nat) : natsOf (S.extract p q) = ((natsOf S).drop p).take (q - p) := by
  have e := extract_mk S.data.toList
  rw [mk_data] at e
  rw [e]
  simp [natsOf, List.map_drop, List.map_take, List.drop_take]
def editF (f W x n : Nat) : Nat → CellM := if f = 64 then rightF W x 0 (max n 1) blankC (letF W) else if f = 80 then leftF W x 0 (max n 1) blankC (letF W) else fillF (0 * W + x) (min (0 * W + x + max n 1) ((0 + 1) * W)) blankC (letF W)
theorem let_small (W i : Nat) (hW : W ≤ 40) : 0 ≤ (letF W i).r ∧ (letF W i).r < 128 := by
  unfold letF rowF
  split
  · show (0 : Int) ≤ ((65 + (i - 0) : Nat) : Int) ∧ ((65 + (i - 0) : Nat) : Int) < 128; omega
  · show (0 : Int) ≤ 32 ∧ (32 : Int) < 128; omega
theorem edit_small (f W x n i : Nat) (hW : W ≤ 40) : 0 ≤ (editF f W x n i).r ∧ (editF f W x n i).r < 128 := by
  have hb : 0 ≤ blankC.r ∧ blankC.r < 128 := by show (0 : Int) ≤ 32 ∧ (32 : Int) < 128; omega
  unfold editF
  split
  · unfold rightF; split
    · split
      · exact hb
      · exact let_small _ _ hW
    · exact let_small _ _ hW
  split
  · unfold leftF; split
    · split
      · exact let_small _ _ hW
      · exact hb
    · exact let_small _ _ hW
  · unfold fillF; split
    · exact hb
    · exact let_small _ _ hW
theorem edit_row0 (f W x n : Nat) (hx : x < W) (hW : W ≤ 40) (hf : f = 64 ∨ f = 80 ∨ f = 88) : showL (rowL W (fun i => editF f W x n (0 * W + i))) = bytesN (editW f W x (min (max n 1) (W - x))) := by
  rw [← chars_row f W x n hx hf]
  have := row_text (W := W) (F := editF f W x n) (j := 0) (f := fun i => (editF f W x n i).r.toNat) (fun i hi => by
    rw [Nat.zero_mul, Nat.zero_add]
    have := edit_small f W x n i hW
    show (editF f W x n i).r = (((editF f W x n i).r.toNat : Nat) : Int) ∧ (editF f W x n i).r.toNat < 128
    omega)
  rw [this]
  rfl
theorem edit_row1 (f W x n : Nat) (hW : W ≤ 40) : showL (rowL W (fun i => editF f W x n (1 * W + i))) = bytesN (List.replicate W 32) := by
  rw [tab_const]
  apply row_text
  intro i hi
  have hl : letF W (1 * W + i) = blankC := by unfold letF rowF; rw [if_neg (by omega)]
  refine ⟨?_, by omega⟩
  have e : editF f W x n (1 * W + i) = blankC := by
    unfold editF
    split
    · unfold rightF; rw [if_neg (by omega), hl]
    split
    · unfold leftF; rw [if_neg (by omega), hl]
    · unfold fillF; rw [if_neg (by omega), hl]
  rw [e]; rfl
theorem chars_nats (W x n f : Nat) (B : ByteArray) (hB : natsOf B = [f]) (hW : W ≤ 40) : natsJ [bytesN (lets W), ⟨#[27, 91, 49, 59]⟩, bytesN (decN (x + 1)), ⟨#[72, 27, 91]⟩, bytesN (decN n), B] = lets W ++ (goXY (0 + 1) (x + 1) ++ oneL n f) := by
  rw [natsJ_eq]
  simp only [List.flatMap_cons, List.flatMap_nil, List.append_nil]
  rw [natsOf_decN, natsOf_decN, hB, natsOf_bytesN _ (fun c hc => by obtain ⟨i, hi, rfl⟩ := tab_mem hc; omega), show natsOf ⟨#[27, 91, 49, 59]⟩ = [27, 91, 49, 59] from rfl, show natsOf ⟨#[72, 27, 91]⟩ = [72, 27, 91] from rfl]
  unfold goXY oneL
  rw [show decN (0 + 1) = [49] from by rw [decN, if_pos (by omega)]]
  simp
theorem chars_size (W x n : Nat) (B : ByteArray) (hx : x + 1 < 100) (hn : n < 100) (hB : B.size = 1) (hW : W ≤ 40) : sum [bytesN (lets W), ⟨#[27, 91, 49, 59]⟩, bytesN (decN (x + 1)), ⟨#[72, 27, 91]⟩, bytesN (decN n), B] ≤ 100 := by
  have := two_decN hx
  have := two_decN hn
  have : (lets W).length = W := tab_len _ _
  simp only [sum, List.map_cons, List.map_nil, List.foldr_cons, List.foldr_nil, bytesN_size]
  show (lets W).length + (4 + ((decN (x + 1)).length + (3 + ((decN n).length + (B.size + 0))))) ≤ 100
  omega
theorem chars_fed (W x n f : Nat) (hW : 2 ≤ W ∧ W ≤ 40) (hx : x < W) (hn : n ≤ 9999) (hf : f = 64 ∨ f = 80 ∨ f = 88) :
    feedM (pAt 0, EmM.new W 2) (lets W ++ (goXY (0 + 1) (x + 1) ++ oneL n f)) = ((pAt 0, plM W 2 (editF f W x n) x 0 false 0 2), []) := by
  have h := pl_text (W := W) (H := 2) (F := fun _ => blankC) (y := 0) (t := 0) (b := 2) (fun i => 65 + i) (by omega) hW.1 W (Nat.le_refl _) (fun i hi => by omega)
  rw [pl_new, feedM_add, show lets W = (List.range W).map (fun i => 65 + i) from rfl, h]
  dsimp only
  rw [feedM_add, pl_go x 0 hx (by omega) hW.2 (by omega)]
  dsimp only
  rw [pl_edit n f hn hf, Nat.zero_mul]
  unfold editF letF
  rw [Nat.zero_mul]
  rfl

set_option maxRecDepth 100000 in
set_option maxHeartbeats 1600000 in
theorem emuChars_early (x c n h0 : Int) (w : World) (h : n < 0 ∨ (¬ n < 0 ∧ n > 60)) :
    Calls Tryz.prog 9 #[.int .i64 x, .int .i64 c, .int .i64 n, .int .i64 h0] w fun e w' => e = .returned (.bool true) ∧ Below w.heap.size w w' := by
  rcases h with h | ⟨h, h2⟩
  all_goals
    go_enter Tryz.func9, Tryz.ntmps9
    go_wp2_with fail
    refine (emu_alive _).mono ?_
    rintro e w1 ⟨rfl, hb⟩
    have HB := Lib.hid hb
    clear hb
    go_wp2_with fail
    go_ret
    exact ⟨rfl, HB.out⟩

set_option maxRecDepth 100000 in
set_option maxHeartbeats 12800000 in
theorem emuChars_0 (x c h0 tz : Int) (n : Nat) (hn : n ≤ 60) (htz : h0.tmod 3 = tz) (tz1 : -3 < tz) (tz2 : tz < 3) (hz0 : (tz + 3) % 3 = ((0 : Nat) : Int)) (w : World) :
    Calls Tryz.prog 9 #[.int .i64 x, .int .i64 c, .int .i64 n, .int .i64 h0] w fun e w' => e = .returned (.bool true) ∧ Below w.heap.size w w' := by
  obtain ⟨W, hW⟩ : ∃ W : Nat, min (max x 2) 40 = (W : Int) := ⟨(min (max x 2) 40).toNat, by omega⟩
  have HEN := Lib.hid (ends_is x 2 W 2 hW rfl)
  have HN := Lib.hid (fun V => emu_newF V x 2 W 2 hW rfl)
  have hz : (tz + 3) % 3 = (0 : Int) := hz0
  have g1 : (2 : Int) ≤ (W : Int) := by omega
  have g2 : (W : Int) ≤ 40 := by omega
  have n1 : ¬ (n : Int) < 0 := by omega
  have n2 : ¬ (n : Int) > 60 := by omega
  obtain ⟨tm, htm, tm1, tm2, q, hq, hql⟩ := rest_twice c W (by omega)
  have hqi : (q : Int) < (W : Int) := by omega
  obtain ⟨m1, hm1⟩ : ∃ m1 : Nat, max (n : Int) 1 = (m1 : Int) := ⟨max n 1, by omega⟩
  obtain ⟨wx, hwx⟩ : ∃ wx : Nat, (W : Int) - (q : Int) = (wx : Int) := ⟨W - q, by omega⟩
  obtain ⟨k, hk⟩ : ∃ k : Nat, min (m1 : Int) (wx : Int) = (k : Int) := ⟨min m1 wx, by omega⟩
  have hk1 : (1 : Int) ≤ (k : Int) := by omega
  have hk2 : (q : Int) + (k : Int) ≤ (W : Int) := by omega
  have HK : Hid (k = min (max n 1) (W - q) ∧ q < W ∧ 2 ≤ W ∧ W ≤ 40 ∧ 1 ≤ k ∧ q + k ≤ W) := Lib.hid (by omega)
  have HD1 : Hid (∀ V, Calls Tryz.prog 17 #[.int .i64 ((q : Int) + 1)] V fun e w' => e = .returned (.string (bytesN (decN (q + 1)))) ∧ Below V.heap.size V w') := Lib.hid (fun V => digits_any (q + 1) (by omega) V)
  have HD2 := Lib.hid (fun V => digits_any n (by omega) V)
  have HLK := Lib.hid (fun V => line_is k 32 (by omega) (by omega) V)
  have HLW := Lib.hid (fun V => line_is W 32 (by omega) (by omega) V)
  clear hW hz0 hql
  go_enter Tryz.func9, Tryz.ntmps9
  go_wp2_with fail
  refine (emu_alive _).mono ?_
  rintro v w1 ⟨rfl, hb1⟩
  have HE1 := Lib.hid ((Ems.start w).quiet (Keep.of_below _ hb1))
  clear hb1
  go_wp2_with fail
  refine (HN.out _).mono ?_
  rintro v w2 h2
  obtain ⟨e, L, rfl, -, he2⟩ := HE1.out.add h2
  have HE2 : Hid (Ems w w2 [⟨e, L, 0, (pAt 0, EmM.new W 2)⟩]) := Lib.hid he2
  clear h2 he2 HE1 HN
  go_wp2_with fail
  refine (HEN.out _).mono ?_
  rintro v w3 ⟨rfl, rfl⟩
  go_wp2_with fail
  rw [hq]
  clear htm hq
  go_loopw [10, 11] (fun vs vi wr => ∃ i : Nat, vs = .string (bytesN (tab i (fun i => 65 + i))) ∧ vi = .int .i64 (i : Int) ∧ i ≤ W ∧ Hid (Ems w wr [⟨e, L, 0, (pAt 0, EmM.new W 2)⟩])) (fun _ vi _ => W - (intOf vi).toNat)
  case atStart => exact ⟨0, rfl, rfl, by omega, HE2.out⟩
  case round =>
    obtain ⟨i, rfl, rfl, hi, HE⟩ := hrel
    obtain ⟨A, hA⟩ : ∃ A, bytesN (tab i (fun i => 65 + i)) = A := ⟨_, rfl⟩
    have hAs : A.size = i := by rw [← hA, bytesN_size, tab_len]
    rw [hA]
    have HA := Lib.hid hA
    by_cases hlt : i < W
    · have hii : (i : Int) < (W : Int) := by omega
      have hi0 : (0 : Int) ≤ (i : Int) := by omega
      have HI := Lib.hid hlt
      obtain ⟨D, hD⟩ : ∃ D : Nat, D = 65 + i := ⟨_, rfl⟩
      have hdi : (65 : Int) + (i : Int) = (D : Int) := by omega
      have hD256 : D < 256 := by omega
      have hd8 := u8_small hD256
      have hcv := letter_str D hD256 wr
      have HNX : Hid (A ++ bytesN [D] = bytesN (tab (i + 1) (fun i => 65 + i))) := Lib.hid (by rw [tab_snoc, bytesN_add, HA.out, hD])
      have hsz : A.size + (bytesN [D]).size ≤ 9223372036854775807 := by rw [bytesN_size, hAs]; simp; omega
      have HE4 := Lib.hid (HE.out.quiet ((Keep.refl (fun _ => False) wr).alloc (.cells #[.int .u8 (D : Int)] 5)))
      clear hA hAs hlt hi hD hD256 HE
      go_wp2_with fail
      go_roundw
      case rel => exact ⟨i + 1, by rw [HNX.out], by go_num, HI.out, HE4.out⟩
      case measure => have := HI.out; simp [intOf]; omega
    · obtain rfl : i = W := by omega
      have hii : ¬ (i : Int) < (i : Int) := by omega
      have HAL : Hid (A = bytesN (lets i)) := Lib.hid hA.symm
      clear hA hlt hi
      go_upto_region 14 with fail
      obtain ⟨V5, hV5⟩ : ∃ V5, V5 = wr.alloc (.cells #[.string ⟨#[64]⟩, .string ⟨#[80]⟩, .string ⟨#[88]⟩] 9) := ⟨_, rfl⟩
      have HE5 : Hid (Ems w V5 [⟨e, L, 0, (pAt 0, EmM.new i 2)⟩]) := Lib.hid (by rw [hV5]; exact HE.out.quiet ((Keep.refl (fun _ => False) wr).alloc _))
      rw [← hV5]
      clear hV5 HE
      go_wp2_with fail
      refine (HD1.out _).mono ?_
      rintro v w6 ⟨rfl, hb6⟩
      have HE6 := Lib.hid (HE5.out.quiet (Keep.of_below _ hb6))
      clear hb6 HE5 HD1
      go_wp2_with fail
      refine (HD2.out _).mono ?_
      rintro v w7 ⟨rfl, hb7⟩
      have HF := Lib.hid (fed1 (k' := 300) (HE6.out.quiet (Keep.of_below _ hb7)) [bytesN (lets i), ⟨#[27, 91, 49, 59]⟩, bytesN (decN (q + 1)), ⟨#[72, 27, 91]⟩, bytesN (decN n), ⟨#[64]⟩] 6 rfl (by omega) (Nat.le_trans (chars_size i q n _ (by have := HK.out; omega) (by omega) rfl HK.out.2.2.2.1) (by omega)) (by omega) (by have := chars_size i q n ⟨#[64]⟩ (by have := HK.out; omega) (by omega) rfl HK.out.2.2.2.1; omega) ((congrArg (feedM (pAt 0, EmM.new i 2)) (chars_nats i q n 64 ⟨#[64]⟩ rfl HK.out.2.2.2.1)).trans (chars_fed i q n 64 ⟨HK.out.2.2.1, HK.out.2.2.2.1⟩ HK.out.2.1 (by omega) (by omega))))
      obtain ⟨d1, hd1⟩ : ∃ d1, bytesN (decN (q + 1)) = d1 := ⟨_, rfl⟩
      obtain ⟨d2, hd2⟩ : ∃ d2, bytesN (decN n) = d2 := ⟨_, rfl⟩
      rw [hd1, hd2, ← HAL.out] at HF
      rw [hd1, hd2]
      clear hb7 hd1 hd2 HD2 HE6
      go_wp2_with fail
      refine HF.out.mono ?_
      rintro v w8 ⟨rfl, L8, he8, -, -⟩
      have HE8 := Lib.hid he8
      clear he8 HF
      obtain ⟨B, hB⟩ : ∃ B, B = bytesN (List.replicate k 32) := ⟨_, rfl⟩
      have hBs : B.size = k := by rw [hB, bytesN_size]; simp
      rw [← hB] at HLK
      have HB := Lib.hid hB
      obtain ⟨xk, hxk⟩ : ∃ xk : Nat, (q : Int) + (k : Int) = (xk : Int) := ⟨q + k, by omega⟩
      obtain ⟨wk, hwk⟩ : ∃ wk : Nat, (i : Int) - (k : Int) = (wk : Int) := ⟨i - k, by omega⟩
      have HXW : Hid (xk = q + k ∧ wk = i - k) := Lib.hid (by have := HK.out; omega)
      have b1 : (q : Int) ≤ (i : Int) := by omega
      have b2 : (xk : Int) ≤ (i : Int) := by omega
      have b3 : (q : Int) ≤ (wk : Int) := by omega
      have b4 : (wk : Int) ≤ (i : Int) := by omega
      have b5 : (0 : Int) ≤ (q : Int) := by omega
      have b6 : (0 : Int) ≤ (xk : Int) := by omega
      have b7 : (0 : Int) ≤ (wk : Int) := by omega
      have b8 : (wk : Int) ≤ 40 := by omega
      have b9 : (xk : Int) ≤ 40 := by omega
      have b10 : IntKind.i64.wrap (wk : Int) = (wk : Int) := IntWalk.i64_in _ (by omega)
      have b11 : IntKind.i64.wrap (xk : Int) = (xk : Int) := IntWalk.i64_in _ (by omega)
      have hsl : ∀ p q : Nat, q ≤ i → (A.extract p q).size ≤ 40 := fun p q h => by
        have h1 := congrArg List.length (natsOf_slice A p q)
        rw [natsOf_len, List.length_take] at h1
        omega
      have z1 : (A.extract 0 q).size + B.size ≤ 9223372036854775807 := by have := hsl 0 q (by omega); omega
      have z2 : ((A.extract 0 q) ++ B).size + (A.extract q wk).size ≤ 9223372036854775807 := by rw [ByteArray.size_append]; have := hsl 0 q (by omega); have := hsl q wk (by omega); omega
      have z3 : ((A.extract 0 q) ++ B).size + (A.extract xk i).size ≤ 9223372036854775807 := by rw [ByteArray.size_append]; have := hsl 0 q (by omega); have := hsl xk i (by omega); omega
      have z4 : (A.extract 0 q).size + (A.extract xk i).size ≤ 9223372036854775807 := by have := hsl 0 q (by omega); have := hsl xk i (by omega); omega
      have z5 : ((A.extract 0 q) ++ (A.extract xk i)).size + B.size ≤ 9223372036854775807 := by rw [ByteArray.size_append]; have := hsl 0 q (by omega); have := hsl xk i (by omega); omega
      have y1 : ¬ 9223372036854775807 < min q i + B.size := by omega
      have y2 : ¬ 9223372036854775807 < min q i + B.size + (min wk i - q) := by omega
      have y3 : ¬ 9223372036854775807 < min q i + B.size + (i - xk) := by omega
      have y4 : ¬ 9223372036854775807 < min q i + (i - xk) := by omega
      have y5 : ¬ 9223372036854775807 < min q i + (i - xk) + B.size := by omega
      obtain ⟨T, hT⟩ : ∃ T, T = bytesN (editW 64 i q k) := ⟨_, rfl⟩
      have hTW : T = ((A.extract 0 q ++ B) ++ A.extract q wk) := by
        rw [hT]
        apply nats_ext
        have hl : natsOf A = lets i := by rw [HAL.out]; exact natsOf_bytesN _ (fun c hc => by obtain ⟨i2, hi2, rfl⟩ := tab_mem hc; have := HK.out; omega)
        have hb : natsOf B = List.replicate k 32 := by rw [HB.out]; exact natsOf_bytesN _ (by intro c hc; rw [List.eq_of_mem_replicate hc]; omega)
        rw [natsOf_add, natsOf_add, natsOf_slice, natsOf_slice, hl, hb, natsOf_bytesN _ (fun c hc => by
          have hm : c ∈ lets i ∨ c ∈ List.replicate k 32 := by
            unfold editW at hc
            simp only [List.mem_append, if_true, if_false, show ¬ (80 : Nat) = 64 from by omega, show ¬ (88 : Nat) = 64 from by omega, show ¬ (88 : Nat) = 80 from by omega] at hc
            rcases hc with (hc | hc) | hc <;> first | exact .inr hc | exact .inl (List.mem_of_mem_take hc) | exact .inl (List.mem_of_mem_drop hc) | exact .inl (List.mem_of_mem_drop (List.mem_of_mem_take hc))
          rcases hm with hm | hm
          · obtain ⟨i2, hi2, rfl⟩ := tab_mem hm; have := HK.out; omega
          · rw [List.eq_of_mem_replicate hm]; omega)]
        unfold editW
        simp only [if_true, if_false, show ¬ (80 : Nat) = 64 from by omega, show ¬ (88 : Nat) = 64 from by omega, show ¬ (88 : Nat) = 80 from by omega]
        have hll : (lets i).length = i := tab_len _ _
        simp only [HXW.out.1, HXW.out.2, List.drop_zero, Nat.sub_zero]
        try rfl
      have t1 : (T.toList == (((A.extract 0 q ++ B) ++ A.extract q wk)).toList) = true := by rw [hTW]; exact beq_self_eq_true _
      obtain ⟨Lw, hLw⟩ : ∃ Lw, Lw = bytesN (List.replicate i 32) := ⟨_, rfl⟩
      rw [← hLw] at HLW
      have t2 : (Lw.toList == Lw.toList) = true := by simp
      have HTT := Lib.hid (And.intro hT hLw)
      have HTX := Lib.hid (fun V (kk : Keep (fun _ => False) w8 V) => emu_text V e L8 _ (HE8.out.quiet kk).one.r)
      clear hT hTW hLw hB hBs hsl
      go_upto_region 20 with fail
      refine wp_region_noPanic ?_
      refine wp_region_held_drew (S := fun w' => True) (by kernel_rfl) trivial (fun hHeld => ?_)
      refine wpAnyH_take (i := 0) (oi := _) (v := ?vA0) rfl (by kernel_rfl) (by kernel_rfl) (by kernel_rfl) (fun _ _ _ h => h) (Or.inl ⟨by rfl, ?hyA0⟩) (by assumption) ?restA0
      case hyA0 => (intro w hSw; (try dsimp only at hSw); (try simp only [List.getElem_toArray, List.getElem_cons_zero, List.getElem_cons_succ]); go_simp; (try with_reducible rfl))
      (try simp only [Act.put, List.setIfInBounds_toArray, List.set_cons_zero, List.set_cons_succ, List.getElem_toArray, List.getElem_cons_zero, List.getElem_cons_succ])
      refine wpAnyH_take (i := 1) (oi := _) (v := ?vA1) rfl (by kernel_rfl) (by kernel_rfl) (by kernel_rfl) (fun _ _ _ h => h) (Or.inl ⟨by rfl, ?hyA1⟩) (by assumption) ?restA1
      case hyA1 => (intro w hSw; (try dsimp only at hSw); (try simp only [List.getElem_toArray, List.getElem_cons_zero, List.getElem_cons_succ]); go_simp; (try with_reducible rfl))
      (try simp only [Act.put, List.setIfInBounds_toArray, List.set_cons_zero, List.set_cons_succ, List.getElem_toArray, List.getElem_cons_zero, List.getElem_cons_succ])
      refine wpAnyH_take (i := 2) (oi := _) (v := ?vA2) rfl (by kernel_rfl) (by kernel_rfl) (by kernel_rfl) (fun _ _ _ h => h) (Or.inl ⟨by rfl, ?hyA2⟩) (by assumption) ?restA2
      case hyA2 => (intro w hSw; (try dsimp only at hSw); (try simp only [List.getElem_toArray, List.getElem_cons_zero, List.getElem_cons_succ]); go_simp; (try with_reducible rfl))
      (try simp only [Act.put, List.setIfInBounds_toArray, List.set_cons_zero, List.set_cons_succ, List.getElem_toArray, List.getElem_cons_zero, List.getElem_cons_succ])
      refine wpAnyH_take (i := 3) (oi := _) (v := ?vA3) rfl (by kernel_rfl) (by kernel_rfl) (by kernel_rfl) (fun _ _ _ h => h) (Or.inl ⟨by rfl, ?hyA3⟩) (by assumption) ?restA3
      case hyA3 => (intro w hSw; (try dsimp only at hSw); (try simp only [List.getElem_toArray, List.getElem_cons_zero, List.getElem_cons_succ]); go_simp; (try with_reducible rfl))
      (try simp only [Act.put, List.setIfInBounds_toArray, List.set_cons_zero, List.set_cons_succ, List.getElem_toArray, List.getElem_cons_zero, List.getElem_cons_succ])
      refine wpAnyH_take (i := 6) (oi := _) (v := ?vA6) rfl (by kernel_rfl) (by kernel_rfl) (by kernel_rfl) (fun _ _ _ h => h) (Or.inl ⟨by rfl, ?hyA6⟩) (by assumption) ?restA6
      case hyA6 => (intro w hSw; (try dsimp only at hSw); (try simp only [List.getElem_toArray, List.getElem_cons_zero, List.getElem_cons_succ]); go_simp; (try with_reducible rfl))
      (try simp only [Act.put, List.setIfInBounds_toArray, List.set_cons_zero, List.set_cons_succ, List.getElem_toArray, List.getElem_cons_zero, List.getElem_cons_succ])
      refine wpAnyH_take (i := 7) (oi := _) (v := ?vA7) rfl (by kernel_rfl) (by kernel_rfl) (by kernel_rfl) (fun _ _ _ h => h) (Or.inl ⟨by rfl, ?hyA7⟩) (by assumption) ?restA7
      case hyA7 => (intro w hSw; (try dsimp only at hSw); (try simp only [List.getElem_toArray, List.getElem_cons_zero, List.getElem_cons_succ]); go_simp; (try with_reducible rfl))
      (try simp only [Act.put, List.setIfInBounds_toArray, List.set_cons_zero, List.set_cons_succ, List.getElem_toArray, List.getElem_cons_zero, List.getElem_cons_succ])
      refine wpAnyH_take (i := 8) (oi := _) (v := ?vA8) rfl (by kernel_rfl) (by kernel_rfl) (by kernel_rfl) (fun _ _ _ h => h) (Or.inl ⟨by rfl, ?hyA8⟩) (by assumption) ?restA8
      case hyA8 => (intro w hSw; (try dsimp only at hSw); (try simp only [List.getElem_toArray, List.getElem_cons_zero, List.getElem_cons_succ]); go_simp; (try with_reducible rfl))
      (try simp only [Act.put, List.setIfInBounds_toArray, List.set_cons_zero, List.set_cons_succ, List.getElem_toArray, List.getElem_cons_zero, List.getElem_cons_succ])
      refine wpAnyH_take (i := 9) (oi := _) (v := ?vA9) rfl (by kernel_rfl) (by kernel_rfl) (by kernel_rfl) (fun _ _ _ h => h) (Or.inl ⟨by rfl, ?hyA9⟩) (by assumption) ?restA9
      case hyA9 => (intro w hSw; (try dsimp only at hSw); (try simp only [List.getElem_toArray, List.getElem_cons_zero, List.getElem_cons_succ]); go_simp; (try with_reducible rfl))
      (try simp only [Act.put, List.setIfInBounds_toArray, List.set_cons_zero, List.set_cons_succ, List.getElem_toArray, List.getElem_cons_zero, List.getElem_cons_succ])
      refine wpAnyH_take (i := 10) (oi := _) (v := ?vA10) rfl (by kernel_rfl) (by kernel_rfl) (by kernel_rfl) (fun _ _ _ h => h) (Or.inl ⟨by rfl, ?hyA10⟩) (by assumption) ?restA10
      case hyA10 => (intro w hSw; (try dsimp only at hSw); (try simp only [List.getElem_toArray, List.getElem_cons_zero, List.getElem_cons_succ]); go_simp; (try with_reducible rfl))
      (try simp only [Act.put, List.setIfInBounds_toArray, List.set_cons_zero, List.set_cons_succ, List.getElem_toArray, List.getElem_cons_zero, List.getElem_cons_succ])
      refine wpAnyH_take (i := 11) (oi := _) (v := ?vA11) rfl (by kernel_rfl) (by kernel_rfl) (by kernel_rfl) (fun _ _ _ h => h) (Or.inl ⟨by rfl, ?hyA11⟩) (by assumption) ?restA11
      case hyA11 => (intro w hSw; (try dsimp only at hSw); (try simp only [List.getElem_toArray, List.getElem_cons_zero, List.getElem_cons_succ]); go_simp; (try with_reducible rfl))
      (try simp only [Act.put, List.setIfInBounds_toArray, List.set_cons_zero, List.set_cons_succ, List.getElem_toArray, List.getElem_cons_zero, List.getElem_cons_succ])
      refine wpAnyH_ready (rs := [4]) (by kernel_rfl) (by simp) ?_
      refine AllReadyH.cons (o := _) rfl (fun K hK => ?_) AllReadyH.nil
      (try simp only [List.getElem_toArray, List.getElem_cons_zero, List.getElem_cons_succ])
      go_simp
      refine (HLK.out _).mono ?_
      rintro v wA ⟨rfl, hbA⟩
      have KA : Hid (Keep (fun _ => False) w8 wA) := Lib.hid (Keep.trans ((Keep.refl (fun _ => False) w8).drew) (Keep.of_below (fun _ => False) hbA) (fun _ _ x => x))
      clear hbA
      refine hK.out _ _ ?_ (fun hHeld => ?_)
      · trivial
      clear hK K
      (try simp only [Act.put, List.setIfInBounds_toArray, List.set_cons_zero, List.set_cons_succ, List.getElem_toArray, List.getElem_cons_zero, List.getElem_cons_succ])
      refine wpAnyH_take (i := 5) (oi := _) (v := ?vA5) rfl (by kernel_rfl) (by kernel_rfl) (by kernel_rfl) (fun _ _ _ h => h) (Or.inl ⟨by rfl, ?hyA5⟩) (by assumption) ?restA5
      case hyA5 => (intro w hSw; (try dsimp only at hSw); (try simp only [List.getElem_toArray, List.getElem_cons_zero, List.getElem_cons_succ]); go_simp; (try with_reducible rfl))
      (try simp only [Act.put, List.setIfInBounds_toArray, List.set_cons_zero, List.set_cons_succ, List.getElem_toArray, List.getElem_cons_zero, List.getElem_cons_succ])
      refine wpAnyH_take (i := 12) (oi := _) (v := ?vA12) rfl (by kernel_rfl) (by kernel_rfl) (by kernel_rfl) (fun _ _ _ h => h) (Or.inl ⟨by rfl, ?hyA12⟩) (by assumption) ?restA12
      case hyA12 => (intro w hSw; (try dsimp only at hSw); (try simp only [List.getElem_toArray, List.getElem_cons_zero, List.getElem_cons_succ]); go_simp; (try with_reducible rfl))
      (try simp only [Act.put, List.setIfInBounds_toArray, List.set_cons_zero, List.set_cons_succ, List.getElem_toArray, List.getElem_cons_zero, List.getElem_cons_succ])
      refine wpAnyH_take (i := 13) (oi := _) (v := ?vA13) rfl (by kernel_rfl) (by kernel_rfl) (by kernel_rfl) (fun _ _ _ h => h) (Or.inl ⟨by rfl, ?hyA13⟩) (by assumption) ?restA13
      case hyA13 => (intro w hSw; (try dsimp only at hSw); (try simp only [List.getElem_toArray, List.getElem_cons_zero, List.getElem_cons_succ]); go_simp; (try with_reducible rfl))
      (try simp only [Act.put, List.setIfInBounds_toArray, List.set_cons_zero, List.set_cons_succ, List.getElem_toArray, List.getElem_cons_zero, List.getElem_cons_succ])
      refine wpAnyH_done (by kernel_rfl) ?_ _
      refine NoPanic.normal ?_
      go_wp2_with fail
      refine (HTX.out _ KA.out).mono ?_
      rintro v w10 ⟨r, rfl, hr, hb10⟩
      obtain ⟨g, c10, rfl, hgl, hg⟩ := text_cells (W := i) (H := 2) (F := editF 64 i q n) (by omega) hr
      have K10 := KA.out.trans (Keep.of_below (fun _ => False) hb10) (fun _ _ x => x)
      have HE10 := Lib.hid (HE8.out.quiet K10)
      have HG : Hid (w10.cell? ⟨g, 0, none⟩ = some (.string T) ∧ w10.cell? ⟨g, 1, none⟩ = some (.string Lw)) := Lib.hid ⟨by rw [HTT.out.1, HK.out.1, ← edit_row0 64 i q n HK.out.2.1 HK.out.2.2.2.1 (by omega)]; exact hg 0 (by omega), by rw [HTT.out.2, ← edit_row1 64 i q n HK.out.2.2.2.1]; exact hg 1 (by omega)⟩
      have HGL := Lib.hid hgl
      have HS := Lib.hid (emu_screen w10 e L8 _ HE10.out.one.r)
      clear hr hb10 hgl hg K10 HTX HE8
      go_wp2_with fail
      refine HS.out.mono ?_
      rintro v w11 ⟨g7, c7, rfl, -, -, -, -, hb11⟩
      obtain ⟨ob, hob⟩ : ∃ ob : Obj, ob = .cells #[.int .i64 (i : Int), .int .i64 2, .slice (some ⟨g7, 0, none⟩) (i * 2) c7, .int .i64 (q : Int), .int .i64 0, .bool false] 28 := ⟨_, rfl⟩
      obtain ⟨V12, hV12⟩ : ∃ V12, V12 = w11.alloc ob := ⟨_, rfl⟩
      obtain ⟨p, hp⟩ : ∃ p, p = w11.heap.size := ⟨_, rfl⟩
      have hsv : scrV (plM i 2 (editF 64 i q n) q 0 false 0 2) (some ⟨g7, 0, none⟩) c7 = .agg #[.int .i64 (i : Int), .int .i64 2, .slice (some ⟨g7, 0, none⟩) (i * 2) c7, .int .i64 (q : Int), .int .i64 0, .bool false] := rfl
      rw [hsv]
      have K12 : Hid (Keep (fun _ => False) w10 V12) := Lib.hid (by rw [hV12]; exact (Keep.of_below (fun _ => False) hb11).trans ((Keep.refl _ w11).alloc ob) (fun _ _ x => x))
      have q12 : V12.heap[p]? = some ob := by rw [hV12, hp]; exact heap_alloc_new w11 _
      have q13 := q12
      rw [hob] at q12
      have s0 : V12.cell? ⟨g, 0, none⟩ = some (.string T) := (K12.out.cell (p := ⟨g, 0, none⟩) HGL.out (fun x => x)).trans HG.out.1
      have s1 : V12.cell? ⟨g, 1, none⟩ = some (.string Lw) := (K12.out.cell (p := ⟨g, 1, none⟩) HGL.out (fun x => x)).trans HG.out.2
      have s2 : V12.cell? ⟨p, 3, none⟩ = some (.int .i64 (q : Int)) := cell_at q12 3
      have s3 : V12.cell? ⟨p, 4, none⟩ = some (.int .i64 0) := cell_at q12 4
      have HSS := Lib.hid (And.intro s0 (And.intro s1 (And.intro s2 s3)))
      have HLT : Hid (g < V12.heap.size ∧ p < V12.heap.size) := Lib.hid ⟨Nat.lt_of_lt_of_le HGL.out K12.out.size, lt_heap q13⟩
      have HB12 : Hid (∀ V, Keep (fun _ => False) V12 V → Below w.heap.size w V) := Lib.hid (fun V kk => ((HE10.out.quiet K12.out).quiet kk).below)
      go_upto_region 25 with fail
      rw [← hp]
      rw [← hob]
      rw [← hV12]
      clear hob hV12 hp hsv q12 q13 hb11 HS HE10 K12
      refine wp_region_noPanic ?_
      refine wp_region_held_drew (S := fun w' => w'.cell? ⟨g, 0, none⟩ = some (.string T) ∧ w'.cell? ⟨g, 1, none⟩ = some (.string Lw) ∧ w'.cell? ⟨p, 3, none⟩ = some (.int .i64 (q : Int)) ∧ w'.cell? ⟨p, 4, none⟩ = some (.int .i64 0)) (by kernel_rfl) ⟨s0, s1, s2, s3⟩ (fun hHeld => ?_)
      refine wpAnyH_take (i := 0) (oi := _) (v := ?vZ0) rfl (by kernel_rfl) (by kernel_rfl) (by kernel_rfl) (fun _ _ _ h => h) (Or.inl ⟨by rfl, ?hyZ0⟩) (by assumption) ?restZ0
      case hyZ0 => (intro w hSw; (try dsimp only at hSw); (try simp only [List.getElem_toArray, List.getElem_cons_zero, List.getElem_cons_succ]); go_simp; (try with_reducible rfl))
      (try simp only [Act.put, List.setIfInBounds_toArray, List.set_cons_zero, List.set_cons_succ, List.getElem_toArray, List.getElem_cons_zero, List.getElem_cons_succ])
      refine wpAnyH_take (i := 1) (oi := _) (v := ?vZ1) rfl (by kernel_rfl) (by kernel_rfl) (by kernel_rfl) (fun _ _ _ h => h) (Or.inl ⟨by rfl, ?hyZ1⟩) (by assumption) ?restZ1
      case hyZ1 => (intro w hSw; (try dsimp only at hSw); (try simp only [List.getElem_toArray, List.getElem_cons_zero, List.getElem_cons_succ]); go_simp; (try with_reducible rfl))
      (try simp only [Act.put, List.setIfInBounds_toArray, List.set_cons_zero, List.set_cons_succ, List.getElem_toArray, List.getElem_cons_zero, List.getElem_cons_succ])
      refine wpAnyH_take (i := 2) (oi := _) (v := ?vZ2) rfl (by kernel_rfl) (by kernel_rfl) (by kernel_rfl) (fun _ _ _ h => h) (Or.inl ⟨by rfl, ?hyZ2⟩) (by assumption) ?restZ2
      case hyZ2 => (intro w hSw; (try dsimp only at hSw); (try simp only [List.getElem_toArray, List.getElem_cons_zero, List.getElem_cons_succ]); go_simp; (try with_reducible rfl))
      (try simp only [Act.put, List.setIfInBounds_toArray, List.set_cons_zero, List.set_cons_succ, List.getElem_toArray, List.getElem_cons_zero, List.getElem_cons_succ])
      refine wpAnyH_take (i := 3) (oi := _) (v := ?vZ3) rfl (by kernel_rfl) (by kernel_rfl) (by kernel_rfl) (fun _ _ _ h => h) (Or.inl ⟨by rfl, ?hyZ3⟩) (by assumption) ?restZ3
      case hyZ3 => (intro w hSw; (try dsimp only at hSw); (try simp only [List.getElem_toArray, List.getElem_cons_zero, List.getElem_cons_succ]); go_simp; (try with_reducible rfl))
      (try simp only [Act.put, List.setIfInBounds_toArray, List.set_cons_zero, List.set_cons_succ, List.getElem_toArray, List.getElem_cons_zero, List.getElem_cons_succ])
      refine wpAnyH_take (i := 4) (oi := _) (v := ?vZ4) rfl (by kernel_rfl) (by kernel_rfl) (by kernel_rfl) (fun _ _ _ h => h) (Or.inl ⟨by rfl, ?hyZ4⟩) (by assumption) ?restZ4
      case hyZ4 => (intro w hSw; (try dsimp only at hSw); (try simp only [List.getElem_toArray, List.getElem_cons_zero, List.getElem_cons_succ]); go_simp; (try with_reducible rfl))
      (try simp only [Act.put, List.setIfInBounds_toArray, List.set_cons_zero, List.set_cons_succ, List.getElem_toArray, List.getElem_cons_zero, List.getElem_cons_succ])
      refine wpAnyH_take (i := 5) (oi := _) (v := ?vZ5) rfl (by kernel_rfl) (by kernel_rfl) (by kernel_rfl) (fun _ _ _ h => h) (Or.inl ⟨by rfl, ?hyZ5⟩) (by assumption) ?restZ5
      case hyZ5 => (intro w hSw; (try dsimp only at hSw); (try simp only [List.getElem_toArray, List.getElem_cons_zero, List.getElem_cons_succ]); go_simp; (try with_reducible rfl))
      (try simp only [Act.put, List.setIfInBounds_toArray, List.set_cons_zero, List.set_cons_succ, List.getElem_toArray, List.getElem_cons_zero, List.getElem_cons_succ])
      refine wpAnyH_take (i := 6) (oi := _) (v := ?vZ6) rfl (by kernel_rfl) (by kernel_rfl) (by kernel_rfl) (fun _ _ _ h => h) (Or.inl ⟨by rfl, ?hyZ6⟩) (by assumption) ?restZ6
      case hyZ6 => (intro w hSw; (try dsimp only at hSw); (try simp only [List.getElem_toArray, List.getElem_cons_zero, List.getElem_cons_succ]); go_simp; (try with_reducible rfl))
      (try simp only [Act.put, List.setIfInBounds_toArray, List.set_cons_zero, List.set_cons_succ, List.getElem_toArray, List.getElem_cons_zero, List.getElem_cons_succ])
      refine wpAnyH_take (i := 7) (oi := _) (v := ?vZ7) rfl (by kernel_rfl) (by kernel_rfl) (by kernel_rfl) (fun _ _ _ h => h) (Or.inl ⟨by rfl, ?hyZ7⟩) (by assumption) ?restZ7
      case hyZ7 => (intro w hSw; (try dsimp only at hSw); (try simp only [List.getElem_toArray, List.getElem_cons_zero, List.getElem_cons_succ]); go_simp; (try with_reducible rfl))
      (try simp only [Act.put, List.setIfInBounds_toArray, List.set_cons_zero, List.set_cons_succ, List.getElem_toArray, List.getElem_cons_zero, List.getElem_cons_succ])
      refine wpAnyH_take (i := 8) (oi := _) (v := ?vZ8) rfl (by kernel_rfl) (by kernel_rfl) (by kernel_rfl) (fun _ _ _ h => h) (Or.inl ⟨by rfl, ?hyZ8⟩) (by assumption) ?restZ8
      case hyZ8 => (intro w hSw; (try dsimp only at hSw); (try simp only [List.getElem_toArray, List.getElem_cons_zero, List.getElem_cons_succ]); go_simp; (try with_reducible rfl))
      (try simp only [Act.put, List.setIfInBounds_toArray, List.set_cons_zero, List.set_cons_succ, List.getElem_toArray, List.getElem_cons_zero, List.getElem_cons_succ])
      refine wpAnyH_take (i := 9) (oi := _) (v := ?vZ9) rfl (by kernel_rfl) (by kernel_rfl) (by kernel_rfl) (fun _ _ _ h => h) (Or.inl ⟨by rfl, ?hyZ9⟩) (by assumption) ?restZ9
      case hyZ9 => (intro w hSw; (try dsimp only at hSw); (try simp only [List.getElem_toArray, List.getElem_cons_zero, List.getElem_cons_succ]); go_simp; (try with_reducible rfl))
      (try simp only [Act.put, List.setIfInBounds_toArray, List.set_cons_zero, List.set_cons_succ, List.getElem_toArray, List.getElem_cons_zero, List.getElem_cons_succ])
      refine wpAnyH_take (i := 10) (oi := _) (v := ?vZ10) rfl (by kernel_rfl) (by kernel_rfl) (by kernel_rfl) (fun _ _ _ h => h) (Or.inl ⟨by rfl, ?hyZ10⟩) (by assumption) ?restZ10
      case hyZ10 => (intro w hSw; (try dsimp only at hSw); (try simp only [List.getElem_toArray, List.getElem_cons_zero, List.getElem_cons_succ]); go_simp; (try with_reducible rfl))
      (try simp only [Act.put, List.setIfInBounds_toArray, List.set_cons_zero, List.set_cons_succ, List.getElem_toArray, List.getElem_cons_zero, List.getElem_cons_succ])
      refine wpAnyH_take (i := 11) (oi := _) (v := ?vZ11) rfl (by kernel_rfl) (by kernel_rfl) (by kernel_rfl) (fun _ _ _ h => h) (Or.inl ⟨by rfl, ?hyZ11⟩) (by assumption) ?restZ11
      case hyZ11 => (intro w hSw; (try dsimp only at hSw); (try simp only [List.getElem_toArray, List.getElem_cons_zero, List.getElem_cons_succ]); go_simp; (try with_reducible rfl))
      (try simp only [Act.put, List.setIfInBounds_toArray, List.set_cons_zero, List.set_cons_succ, List.getElem_toArray, List.getElem_cons_zero, List.getElem_cons_succ])
      refine wpAnyH_take (i := 12) (oi := _) (v := ?vZ12) rfl (by kernel_rfl) (by kernel_rfl) (by kernel_rfl) (fun _ _ _ h => h) (Or.inl ⟨by rfl, ?hyZ12⟩) (by assumption) ?restZ12
      case hyZ12 => (intro w hSw; (try dsimp only at hSw); (try simp only [List.getElem_toArray, List.getElem_cons_zero, List.getElem_cons_succ]); go_simp; (try with_reducible rfl))
      (try simp only [Act.put, List.setIfInBounds_toArray, List.set_cons_zero, List.set_cons_succ, List.getElem_toArray, List.getElem_cons_zero, List.getElem_cons_succ])
      refine wpAnyH_take (i := 13) (oi := _) (v := ?vZ13) rfl (by kernel_rfl) (by kernel_rfl) (by kernel_rfl) (fun _ _ _ h => h) (Or.inl ⟨by rfl, ?hyZ13⟩) (by assumption) ?restZ13
      case hyZ13 => (intro w hSw; (try dsimp only at hSw); (try simp only [List.getElem_toArray, List.getElem_cons_zero, List.getElem_cons_succ]); go_simp; (try with_reducible rfl))
      (try simp only [Act.put, List.setIfInBounds_toArray, List.set_cons_zero, List.set_cons_succ, List.getElem_toArray, List.getElem_cons_zero, List.getElem_cons_succ])
      refine wpAnyH_take (i := 14) (oi := _) (v := ?vZ14) rfl (by kernel_rfl) (by kernel_rfl) (by kernel_rfl) (fun _ _ _ h => h) (Or.inl ⟨by rfl, ?hyZ14⟩) (by assumption) ?restZ14
      case hyZ14 => (intro w hSw; (try dsimp only at hSw); (try simp only [List.getElem_toArray, List.getElem_cons_zero, List.getElem_cons_succ]); go_simp; (try with_reducible rfl))
      (try simp only [Act.put, List.setIfInBounds_toArray, List.set_cons_zero, List.set_cons_succ, List.getElem_toArray, List.getElem_cons_zero, List.getElem_cons_succ])
      refine wpAnyH_ready (rs := [15]) (by kernel_rfl) (by simp) ?_
      refine AllReadyH.cons (o := _) rfl (fun K hK => ?_) AllReadyH.nil
      (try simp only [List.getElem_toArray, List.getElem_cons_zero, List.getElem_cons_succ])
      go_simp
      refine (HLW.out _).mono ?_
      rintro v wB ⟨rfl, hbB⟩
      have KB : Hid (Keep (fun _ => False) V12 wB) := Lib.hid (Keep.trans ((Keep.refl (fun _ => False) V12).drew) (Keep.of_below (fun _ => False) hbB) (fun _ _ x => x))
      clear hbB
      refine hK.out _ _ ?_ (fun hHeld => ?_)
      · exact ⟨(KB.out.cell (p := ⟨g, 0, none⟩) HLT.out.1 (fun x => x)).trans HSS.out.1, (KB.out.cell (p := ⟨g, 1, none⟩) HLT.out.1 (fun x => x)).trans HSS.out.2.1, (KB.out.cell (p := ⟨p, 3, none⟩) HLT.out.2 (fun x => x)).trans HSS.out.2.2.1, (KB.out.cell (p := ⟨p, 4, none⟩) HLT.out.2 (fun x => x)).trans HSS.out.2.2.2⟩
      clear hK K
      (try simp only [Act.put, List.setIfInBounds_toArray, List.set_cons_zero, List.set_cons_succ, List.getElem_toArray, List.getElem_cons_zero, List.getElem_cons_succ])
      refine wpAnyH_take (i := 16) (oi := _) (v := ?vZ16) rfl (by kernel_rfl) (by kernel_rfl) (by kernel_rfl) (fun _ _ _ h => h) (Or.inl ⟨by rfl, ?hyZ16⟩) (by assumption) ?restZ16
      case hyZ16 => (intro w hSw; (try dsimp only at hSw); (try simp only [List.getElem_toArray, List.getElem_cons_zero, List.getElem_cons_succ]); go_simp; (try with_reducible rfl))
      (try simp only [Act.put, List.setIfInBounds_toArray, List.set_cons_zero, List.set_cons_succ, List.getElem_toArray, List.getElem_cons_zero, List.getElem_cons_succ])
      refine wpAnyH_take (i := 17) (oi := _) (v := ?vZ17) rfl (by kernel_rfl) (by kernel_rfl) (by kernel_rfl) (fun _ _ _ h => h) (Or.inl ⟨by rfl, ?hyZ17⟩) (by assumption) ?restZ17
      case hyZ17 => (intro w hSw; (try dsimp only at hSw); (try simp only [List.getElem_toArray, List.getElem_cons_zero, List.getElem_cons_succ]); go_simp; (try with_reducible rfl))
      (try simp only [Act.put, List.setIfInBounds_toArray, List.set_cons_zero, List.set_cons_succ, List.getElem_toArray, List.getElem_cons_zero, List.getElem_cons_succ])
      refine wpAnyH_take (i := 18) (oi := _) (v := ?vZ18) rfl (by kernel_rfl) (by kernel_rfl) (by kernel_rfl) (fun _ _ _ h => h) (Or.inl ⟨by rfl, ?hyZ18⟩) (by assumption) ?restZ18
      case hyZ18 => (intro w hSw; (try dsimp only at hSw); (try simp only [List.getElem_toArray, List.getElem_cons_zero, List.getElem_cons_succ]); go_simp; (try with_reducible rfl))
      (try simp only [Act.put, List.setIfInBounds_toArray, List.set_cons_zero, List.set_cons_succ, List.getElem_toArray, List.getElem_cons_zero, List.getElem_cons_succ])
      refine wpAnyH_take (i := 19) (oi := _) (v := ?vZ19) rfl (by kernel_rfl) (by kernel_rfl) (by kernel_rfl) (fun _ _ _ h => h) (Or.inl ⟨by rfl, ?hyZ19⟩) (by assumption) ?restZ19
      case hyZ19 => (intro w hSw; (try dsimp only at hSw); (try simp only [List.getElem_toArray, List.getElem_cons_zero, List.getElem_cons_succ]); go_simp; (try with_reducible rfl))
      (try simp only [Act.put, List.setIfInBounds_toArray, List.set_cons_zero, List.set_cons_succ, List.getElem_toArray, List.getElem_cons_zero, List.getElem_cons_succ])
      refine wpAnyH_take (i := 20) (oi := _) (v := ?vZ20) rfl (by kernel_rfl) (by kernel_rfl) (by kernel_rfl) (fun _ _ _ h => h) (Or.inl ⟨by rfl, ?hyZ20⟩) (by assumption) ?restZ20
      case hyZ20 => (intro w hSw; (try dsimp only at hSw); (try simp only [List.getElem_toArray, List.getElem_cons_zero, List.getElem_cons_succ]); go_simp; (try with_reducible rfl))
      (try simp only [Act.put, List.setIfInBounds_toArray, List.set_cons_zero, List.set_cons_succ, List.getElem_toArray, List.getElem_cons_zero, List.getElem_cons_succ])
      refine wpAnyH_take (i := 21) (oi := _) (v := ?vZ21) rfl (by kernel_rfl) (by kernel_rfl) (by kernel_rfl) (fun _ _ _ h => h) (Or.inl ⟨by rfl, ?hyZ21⟩) (by assumption) ?restZ21
      case hyZ21 => (intro w hSw; (try dsimp only at hSw); (try simp only [List.getElem_toArray, List.getElem_cons_zero, List.getElem_cons_succ]); go_simp; (try with_reducible rfl))
      (try simp only [Act.put, List.setIfInBounds_toArray, List.set_cons_zero, List.set_cons_succ, List.getElem_toArray, List.getElem_cons_zero, List.getElem_cons_succ])
      refine wpAnyH_take (i := 22) (oi := _) (v := ?vZ22) rfl (by kernel_rfl) (by kernel_rfl) (by kernel_rfl) (fun _ _ _ h => h) (Or.inl ⟨by rfl, ?hyZ22⟩) (by assumption) ?restZ22
      case hyZ22 => (intro w hSw; (try dsimp only at hSw); (try simp only [List.getElem_toArray, List.getElem_cons_zero, List.getElem_cons_succ]); go_simp; (try with_reducible rfl))
      (try simp only [Act.put, List.setIfInBounds_toArray, List.set_cons_zero, List.set_cons_succ, List.getElem_toArray, List.getElem_cons_zero, List.getElem_cons_succ])
      refine wpAnyH_take (i := 23) (oi := _) (v := ?vZ23) rfl (by kernel_rfl) (by kernel_rfl) (by kernel_rfl) (fun _ _ _ h => h) (Or.inl ⟨by rfl, ?hyZ23⟩) (by assumption) ?restZ23
      case hyZ23 => (intro w hSw; (try dsimp only at hSw); (try simp only [List.getElem_toArray, List.getElem_cons_zero, List.getElem_cons_succ]); go_simp; (try with_reducible rfl))
      (try simp only [Act.put, List.setIfInBounds_toArray, List.set_cons_zero, List.set_cons_succ, List.getElem_toArray, List.getElem_cons_zero, List.getElem_cons_succ])
      refine wpAnyH_take (i := 24) (oi := _) (v := ?vZ24) rfl (by kernel_rfl) (by kernel_rfl) (by kernel_rfl) (fun _ _ _ h => h) (Or.inl ⟨by rfl, ?hyZ24⟩) (by assumption) ?restZ24
      case hyZ24 => (intro w hSw; (try dsimp only at hSw); (try simp only [List.getElem_toArray, List.getElem_cons_zero, List.getElem_cons_succ]); go_simp; (try with_reducible rfl))
      (try simp only [Act.put, List.setIfInBounds_toArray, List.set_cons_zero, List.set_cons_succ, List.getElem_toArray, List.getElem_cons_zero, List.getElem_cons_succ])
      refine wpAnyH_take (i := 25) (oi := _) (v := ?vZ25) rfl (by kernel_rfl) (by kernel_rfl) (by kernel_rfl) (fun _ _ _ h => h) (Or.inl ⟨by rfl, ?hyZ25⟩) (by assumption) ?restZ25
      case hyZ25 => (intro w hSw; (try dsimp only at hSw); (try simp only [List.getElem_toArray, List.getElem_cons_zero, List.getElem_cons_succ]); go_simp; (try with_reducible rfl))
      (try simp only [Act.put, List.setIfInBounds_toArray, List.set_cons_zero, List.set_cons_succ, List.getElem_toArray, List.getElem_cons_zero, List.getElem_cons_succ])
      refine wpAnyH_take (i := 26) (oi := _) (v := ?vZ26) rfl (by kernel_rfl) (by kernel_rfl) (by kernel_rfl) (fun _ _ _ h => h) (Or.inl ⟨by rfl, ?hyZ26⟩) (by assumption) ?restZ26
      case hyZ26 => (intro w hSw; (try dsimp only at hSw); (try simp only [List.getElem_toArray, List.getElem_cons_zero, List.getElem_cons_succ]); go_simp; (try with_reducible rfl))
      (try simp only [Act.put, List.setIfInBounds_toArray, List.set_cons_zero, List.set_cons_succ, List.getElem_toArray, List.getElem_cons_zero, List.getElem_cons_succ])
      refine wpAnyH_take (i := 27) (oi := _) (v := ?vZ27) rfl (by kernel_rfl) (by kernel_rfl) (by kernel_rfl) (fun _ _ _ h => h) (Or.inl ⟨by rfl, ?hyZ27⟩) (by assumption) ?restZ27
      case hyZ27 => (intro w hSw; (try dsimp only at hSw); (try simp only [List.getElem_toArray, List.getElem_cons_zero, List.getElem_cons_succ]); go_simp; (try with_reducible rfl))
      (try simp only [Act.put, List.setIfInBounds_toArray, List.set_cons_zero, List.set_cons_succ, List.getElem_toArray, List.getElem_cons_zero, List.getElem_cons_succ])
      refine wpAnyH_take (i := 28) (oi := _) (v := ?vZ28) rfl (by kernel_rfl) (by kernel_rfl) (by kernel_rfl) (fun _ _ _ h => h) (Or.inl ⟨by rfl, ?hyZ28⟩) (by assumption) ?restZ28
      case hyZ28 => (intro w hSw; (try dsimp only at hSw); (try simp only [List.getElem_toArray, List.getElem_cons_zero, List.getElem_cons_succ]); go_simp; (try with_reducible rfl))
      (try simp only [Act.put, List.setIfInBounds_toArray, List.set_cons_zero, List.set_cons_succ, List.getElem_toArray, List.getElem_cons_zero, List.getElem_cons_succ])
      refine wpAnyH_take (i := 29) (oi := _) (v := ?vZ29) rfl (by kernel_rfl) (by kernel_rfl) (by kernel_rfl) (fun _ _ _ h => h) (Or.inl ⟨by rfl, ?hyZ29⟩) (by assumption) ?restZ29
      case hyZ29 => (intro w hSw; (try dsimp only at hSw); (try simp only [List.getElem_toArray, List.getElem_cons_zero, List.getElem_cons_succ]); go_simp; (try with_reducible rfl))
      (try simp only [Act.put, List.setIfInBounds_toArray, List.set_cons_zero, List.set_cons_succ, List.getElem_toArray, List.getElem_cons_zero, List.getElem_cons_succ])
      refine wpAnyH_done (by kernel_rfl) ?_ _
      refine NoPanic.normal ?_
      go_wp2_with fail
      go_ret
      exact ⟨rfl, HB12.out _ KB.out⟩

set_option maxRecDepth 100000 in
set_option maxHeartbeats 12800000 in
theorem emuChars_1 (x c h0 tz : Int) (n : Nat) (hn : n ≤ 60) (htz : h0.tmod 3 = tz) (tz1 : -3 < tz) (tz2 : tz < 3) (hz0 : (tz + 3) % 3 = ((1 : Nat) : Int)) (w : World) :
    Calls Tryz.prog 9 #[.int .i64 x, .int .i64 c, .int .i64 n, .int .i64 h0] w fun e w' => e = .returned (.bool true) ∧ Below w.heap.size w w' := by
  obtain ⟨W, hW⟩ : ∃ W : Nat, min (max x 2) 40 = (W : Int) := ⟨(min (max x 2) 40).toNat, by omega⟩
  have HEN := Lib.hid (ends_is x 2 W 2 hW rfl)
  have HN := Lib.hid (fun V => emu_newF V x 2 W 2 hW rfl)
  have hz : (tz + 3) % 3 = (1 : Int) := hz0
  have g1 : (2 : Int) ≤ (W : Int) := by omega
  have g2 : (W : Int) ≤ 40 := by omega
  have n1 : ¬ (n : Int) < 0 := by omega
  have n2 : ¬ (n : Int) > 60 := by omega
  obtain ⟨tm, htm, tm1, tm2, q, hq, hql⟩ := rest_twice c W (by omega)
  have hqi : (q : Int) < (W : Int) := by omega
  obtain ⟨m1, hm1⟩ : ∃ m1 : Nat, max (n : Int) 1 = (m1 : Int) := ⟨max n 1, by omega⟩
  obtain ⟨wx, hwx⟩ : ∃ wx : Nat, (W : Int) - (q : Int) = (wx : Int) := ⟨W - q, by omega⟩
  obtain ⟨k, hk⟩ : ∃ k : Nat, min (m1 : Int) (wx : Int) = (k : Int) := ⟨min m1 wx, by omega⟩
  have hk1 : (1 : Int) ≤ (k : Int) := by omega
  have hk2 : (q : Int) + (k : Int) ≤ (W : Int) := by omega
  have HK : Hid (k = min (max n 1) (W - q) ∧ q < W ∧ 2 ≤ W ∧ W ≤ 40 ∧ 1 ≤ k ∧ q + k ≤ W) := Lib.hid (by omega)
  have HD1 : Hid (∀ V, Calls Tryz.prog 17 #[.int .i64 ((q : Int) + 1)] V fun e w' => e = .returned (.string (bytesN (decN (q + 1)))) ∧ Below V.heap.size V w') := Lib.hid (fun V => digits_any (q + 1) (by omega) V)
  have HD2 := Lib.hid (fun V => digits_any n (by omega) V)
  have HLK := Lib.hid (fun V => line_is k 32 (by omega) (by omega) V)
  have HLW := Lib.hid (fun V => line_is W 32 (by omega) (by omega) V)
  clear hW hz0 hql
  go_enter Tryz.func9, Tryz.ntmps9
  go_wp2_with fail
  refine (emu_alive _).mono ?_
  rintro v w1 ⟨rfl, hb1⟩
  have HE1 := Lib.hid ((Ems.start w).quiet (Keep.of_below _ hb1))
  clear hb1
  go_wp2_with fail
  refine (HN.out _).mono ?_
  rintro v w2 h2
  obtain ⟨e, L, rfl, -, he2⟩ := HE1.out.add h2
  have HE2 : Hid (Ems w w2 [⟨e, L, 0, (pAt 0, EmM.new W 2)⟩]) := Lib.hid he2
  clear h2 he2 HE1 HN
  go_wp2_with fail
  refine (HEN.out _).mono ?_
  rintro v w3 ⟨rfl, rfl⟩
  go_wp2_with fail
  rw [hq]
  clear htm hq
  go_loopw [10, 11] (fun vs vi wr => ∃ i : Nat, vs = .string (bytesN (tab i (fun i => 65 + i))) ∧ vi = .int .i64 (i : Int) ∧ i ≤ W ∧ Hid (Ems w wr [⟨e, L, 0, (pAt 0, EmM.new W 2)⟩])) (fun _ vi _ => W - (intOf vi).toNat)
  case atStart => exact ⟨0, rfl, rfl, by omega, HE2.out⟩
  case round =>
    obtain ⟨i, rfl, rfl, hi, HE⟩ := hrel
    obtain ⟨A, hA⟩ : ∃ A, bytesN (tab i (fun i => 65 + i)) = A := ⟨_, rfl⟩
    have hAs : A.size = i := by rw [← hA, bytesN_size, tab_len]
    rw [hA]
    have HA := Lib.hid hA
    by_cases hlt : i < W
    · have hii : (i : Int) < (W : Int) := by omega
      have hi0 : (0 : Int) ≤ (i : Int) := by omega
      have HI := Lib.hid hlt
      obtain ⟨D, hD⟩ : ∃ D : Nat, D = 65 + i := ⟨_, rfl⟩
      have hdi : (65 : Int) + (i : Int) = (D : Int) := by omega
      have hD256 : D < 256 := by omega
      have hd8 := u8_small hD256
      have hcv := letter_str D hD256 wr
      have HNX : Hid (A ++ bytesN [D] = bytesN (tab (i + 1) (fun i => 65 + i))) := Lib.hid (by rw [tab_snoc, bytesN_add, HA.out, hD])
      have hsz : A.size + (bytesN [D]).size ≤ 9223372036854775807 := by rw [bytesN_size, hAs]; simp; omega
      have HE4 := Lib.hid (HE.out.quiet ((Keep.refl (fun _ => False) wr).alloc (.cells #[.int .u8 (D : Int)] 5)))
      clear hA hAs hlt hi hD hD256 HE
      go_wp2_with fail
      go_roundw
      case rel => exact ⟨i + 1, by rw [HNX.out], by go_num, HI.out, HE4.out⟩
      case measure => have := HI.out; simp [intOf]; omega
    · obtain rfl : i = W := by omega
      have hii : ¬ (i : Int) < (i : Int) := by omega
      have HAL : Hid (A = bytesN (lets i)) := Lib.hid hA.symm
      clear hA hlt hi
      go_upto_region 14 with fail
      obtain ⟨V5, hV5⟩ : ∃ V5, V5 = wr.alloc (.cells #[.string ⟨#[64]⟩, .string ⟨#[80]⟩, .string ⟨#[88]⟩] 9) := ⟨_, rfl⟩
      have HE5 : Hid (Ems w V5 [⟨e, L, 0, (pAt 0, EmM.new i 2)⟩]) := Lib.hid (by rw [hV5]; exact HE.out.quiet ((Keep.refl (fun _ => False) wr).alloc _))
      rw [← hV5]
      clear hV5 HE
      go_wp2_with fail
      refine (HD1.out _).mono ?_
      rintro v w6 ⟨rfl, hb6⟩
      have HE6 := Lib.hid (HE5.out.quiet (Keep.of_below _ hb6))
      clear hb6 HE5 HD1
      go_wp2_with fail
      refine (HD2.out _).mono ?_
      rintro v w7 ⟨rfl, hb7⟩
      have HF := Lib.hid (fed1 (k' := 300) (HE6.out.quiet (Keep.of_below _ hb7)) [bytesN (lets i), ⟨#[27, 91, 49, 59]⟩, bytesN (decN (q + 1)), ⟨#[72, 27, 91]⟩, bytesN (decN n), ⟨#[80]⟩] 6 rfl (by omega) (Nat.le_trans (chars_size i q n _ (by have := HK.out; omega) (by omega) rfl HK.out.2.2.2.1) (by omega)) (by omega) (by have := chars_size i q n ⟨#[80]⟩ (by have := HK.out; omega) (by omega) rfl HK.out.2.2.2.1; omega) ((congrArg (feedM (pAt 0, EmM.new i 2)) (chars_nats i q n 80 ⟨#[80]⟩ rfl HK.out.2.2.2.1)).trans (chars_fed i q n 80 ⟨HK.out.2.2.1, HK.out.2.2.2.1⟩ HK.out.2.1 (by omega) (by omega))))
      obtain ⟨d1, hd1⟩ : ∃ d1, bytesN (decN (q + 1)) = d1 := ⟨_, rfl⟩
      obtain ⟨d2, hd2⟩ : ∃ d2, bytesN (decN n) = d2 := ⟨_, rfl⟩
      rw [hd1, hd2, ← HAL.out] at HF
      rw [hd1, hd2]
      clear hb7 hd1 hd2 HD2 HE6
      go_wp2_with fail
      refine HF.out.mono ?_
      rintro v w8 ⟨rfl, L8, he8, -, -⟩
      have HE8 := Lib.hid he8
      clear he8 HF
      obtain ⟨B, hB⟩ : ∃ B, B = bytesN (List.replicate k 32) := ⟨_, rfl⟩
      have hBs : B.size = k := by rw [hB, bytesN_size]; simp
      rw [← hB] at HLK
      have HB := Lib.hid hB
      obtain ⟨xk, hxk⟩ : ∃ xk : Nat, (q : Int) + (k : Int) = (xk : Int) := ⟨q + k, by omega⟩
      obtain ⟨wk, hwk⟩ : ∃ wk : Nat, (i : Int) - (k : Int) = (wk : Int) := ⟨i - k, by omega⟩
      have HXW : Hid (xk = q + k ∧ wk = i - k) := Lib.hid (by have := HK.out; omega)
      have b1 : (q : Int) ≤ (i : Int) := by omega
      have b2 : (xk : Int) ≤ (i : Int) := by omega
      have b3 : (q : Int) ≤ (wk : Int) := by omega
      have b4 : (wk : Int) ≤ (i : Int) := by omega
      have b5 : (0 : Int) ≤ (q : Int) := by omega
      have b6 : (0 : Int) ≤ (xk : Int) := by omega
      have b7 : (0 : Int) ≤ (wk : Int) := by omega
      have b8 : (wk : Int) ≤ 40 := by omega
      have b9 : (xk : Int) ≤ 40 := by omega
      have b10 : IntKind.i64.wrap (wk : Int) = (wk : Int) := IntWalk.i64_in _ (by omega)
      have b11 : IntKind.i64.wrap (xk : Int) = (xk : Int) := IntWalk.i64_in _ (by omega)
      have hsl : ∀ p q : Nat, q ≤ i → (A.extract p q).size ≤ 40 := fun p q h => by
        have h1 := congrArg List.length (natsOf_slice A p q)
        rw [natsOf_len, List.length_take] at h1
        omega
      have z1 : (A.extract 0 q).size + B.size ≤ 9223372036854775807 := by have := hsl 0 q (by omega); omega
      have z2 : ((A.extract 0 q) ++ B).size + (A.extract q wk).size ≤ 9223372036854775807 := by rw [ByteArray.size_append]; have := hsl 0 q (by omega); have := hsl q wk (by omega); omega
      have z3 : ((A.extract 0 q) ++ B).size + (A.extract xk i).size ≤ 9223372036854775807 := by rw [ByteArray.size_append]; have := hsl 0 q (by omega); have := hsl xk i (by omega); omega
      have z4 : (A.extract 0 q).size + (A.extract xk i).size ≤ 9223372036854775807 := by have := hsl 0 q (by omega); have := hsl xk i (by omega); omega
      have z5 : ((A.extract 0 q) ++ (A.extract xk i)).size + B.size ≤ 9223372036854775807 := by rw [ByteArray.size_append]; have := hsl 0 q (by omega); have := hsl xk i (by omega); omega
      have y1 : ¬ 9223372036854775807 < min q i + B.size := by omega
      have y2 : ¬ 9223372036854775807 < min q i + B.size + (min wk i - q) := by omega
      have y3 : ¬ 9223372036854775807 < min q i + B.size + (i - xk) := by omega
      have y4 : ¬ 9223372036854775807 < min q i + (i - xk) := by omega
      have y5 : ¬ 9223372036854775807 < min q i + (i - xk) + B.size := by omega
      obtain ⟨T, hT⟩ : ∃ T, T = bytesN (editW 80 i q k) := ⟨_, rfl⟩
      have hTW : T = ((A.extract 0 q ++ A.extract xk i) ++ B) := by
        rw [hT]
        apply nats_ext
        have hl : natsOf A = lets i := by rw [HAL.out]; exact natsOf_bytesN _ (fun c hc => by obtain ⟨i2, hi2, rfl⟩ := tab_mem hc; have := HK.out; omega)
        have hb : natsOf B = List.replicate k 32 := by rw [HB.out]; exact natsOf_bytesN _ (by intro c hc; rw [List.eq_of_mem_replicate hc]; omega)
        rw [natsOf_add, natsOf_add, natsOf_slice, natsOf_slice, hl, hb, natsOf_bytesN _ (fun c hc => by
          have hm : c ∈ lets i ∨ c ∈ List.replicate k 32 := by
            unfold editW at hc
            simp only [List.mem_append, if_true, if_false, show ¬ (80 : Nat) = 64 from by omega, show ¬ (88 : Nat) = 64 from by omega, show ¬ (88 : Nat) = 80 from by omega] at hc
            rcases hc with (hc | hc) | hc <;> first | exact .inr hc | exact .inl (List.mem_of_mem_take hc) | exact .inl (List.mem_of_mem_drop hc) | exact .inl (List.mem_of_mem_drop (List.mem_of_mem_take hc))
          rcases hm with hm | hm
          · obtain ⟨i2, hi2, rfl⟩ := tab_mem hm; have := HK.out; omega
          · rw [List.eq_of_mem_replicate hm]; omega)]
        unfold editW
        simp only [if_true, if_false, show ¬ (80 : Nat) = 64 from by omega, show ¬ (88 : Nat) = 64 from by omega, show ¬ (88 : Nat) = 80 from by omega]
        have hll : (lets i).length = i := tab_len _ _
        simp only [HXW.out.1, HXW.out.2, List.drop_zero, Nat.sub_zero]
        rw [List.take_of_length_le (l := (lets i).drop (q + k)) (by rw [List.length_drop]; omega)]
      have t1 : (T.toList == (((A.extract 0 q ++ A.extract xk i) ++ B)).toList) = true := by rw [hTW]; exact beq_self_eq_true _
      obtain ⟨Lw, hLw⟩ : ∃ Lw, Lw = bytesN (List.replicate i 32) := ⟨_, rfl⟩
      rw [← hLw] at HLW
      have t2 : (Lw.toList == Lw.toList) = true := by simp
      have HTT := Lib.hid (And.intro hT hLw)
      have HTX := Lib.hid (fun V (kk : Keep (fun _ => False) w8 V) => emu_text V e L8 _ (HE8.out.quiet kk).one.r)
      clear hT hTW hLw hB hBs hsl
      go_upto_region 22 with fail
      refine wp_region_noPanic ?_
      refine wp_region_held_drew (S := fun w' => True) (by kernel_rfl) trivial (fun hHeld => ?_)
      refine wpAnyH_take (i := 0) (oi := _) (v := ?vA0) rfl (by kernel_rfl) (by kernel_rfl) (by kernel_rfl) (fun _ _ _ h => h) (Or.inl ⟨by rfl, ?hyA0⟩) (by assumption) ?restA0
      case hyA0 => (intro w hSw; (try dsimp only at hSw); (try simp only [List.getElem_toArray, List.getElem_cons_zero, List.getElem_cons_succ]); go_simp; (try with_reducible rfl))
      (try simp only [Act.put, List.setIfInBounds_toArray, List.set_cons_zero, List.set_cons_succ, List.getElem_toArray, List.getElem_cons_zero, List.getElem_cons_succ])
      refine wpAnyH_take (i := 1) (oi := _) (v := ?vA1) rfl (by kernel_rfl) (by kernel_rfl) (by kernel_rfl) (fun _ _ _ h => h) (Or.inl ⟨by rfl, ?hyA1⟩) (by assumption) ?restA1
      case hyA1 => (intro w hSw; (try dsimp only at hSw); (try simp only [List.getElem_toArray, List.getElem_cons_zero, List.getElem_cons_succ]); go_simp; (try with_reducible rfl))
      (try simp only [Act.put, List.setIfInBounds_toArray, List.set_cons_zero, List.set_cons_succ, List.getElem_toArray, List.getElem_cons_zero, List.getElem_cons_succ])
      refine wpAnyH_take (i := 2) (oi := _) (v := ?vA2) rfl (by kernel_rfl) (by kernel_rfl) (by kernel_rfl) (fun _ _ _ h => h) (Or.inl ⟨by rfl, ?hyA2⟩) (by assumption) ?restA2
      case hyA2 => (intro w hSw; (try dsimp only at hSw); (try simp only [List.getElem_toArray, List.getElem_cons_zero, List.getElem_cons_succ]); go_simp; (try with_reducible rfl))
      (try simp only [Act.put, List.setIfInBounds_toArray, List.set_cons_zero, List.set_cons_succ, List.getElem_toArray, List.getElem_cons_zero, List.getElem_cons_succ])
      refine wpAnyH_take (i := 3) (oi := _) (v := ?vA3) rfl (by kernel_rfl) (by kernel_rfl) (by kernel_rfl) (fun _ _ _ h => h) (Or.inl ⟨by rfl, ?hyA3⟩) (by assumption) ?restA3
      case hyA3 => (intro w hSw; (try dsimp only at hSw); (try simp only [List.getElem_toArray, List.getElem_cons_zero, List.getElem_cons_succ]); go_simp; (try with_reducible rfl))
      (try simp only [Act.put, List.setIfInBounds_toArray, List.set_cons_zero, List.set_cons_succ, List.getElem_toArray, List.getElem_cons_zero, List.getElem_cons_succ])
      refine wpAnyH_take (i := 4) (oi := _) (v := ?vA4) rfl (by kernel_rfl) (by kernel_rfl) (by kernel_rfl) (fun _ _ _ h => h) (Or.inl ⟨by rfl, ?hyA4⟩) (by assumption) ?restA4
      case hyA4 => (intro w hSw; (try dsimp only at hSw); (try simp only [List.getElem_toArray, List.getElem_cons_zero, List.getElem_cons_succ]); go_simp; (try with_reducible rfl))
      (try simp only [Act.put, List.setIfInBounds_toArray, List.set_cons_zero, List.set_cons_succ, List.getElem_toArray, List.getElem_cons_zero, List.getElem_cons_succ])
      refine wpAnyH_take (i := 5) (oi := _) (v := ?vA5) rfl (by kernel_rfl) (by kernel_rfl) (by kernel_rfl) (fun _ _ _ h => h) (Or.inl ⟨by rfl, ?hyA5⟩) (by assumption) ?restA5
      case hyA5 => (intro w hSw; (try dsimp only at hSw); (try simp only [List.getElem_toArray, List.getElem_cons_zero, List.getElem_cons_succ]); go_simp; (try with_reducible rfl))
      (try simp only [Act.put, List.setIfInBounds_toArray, List.set_cons_zero, List.set_cons_succ, List.getElem_toArray, List.getElem_cons_zero, List.getElem_cons_succ])
      refine wpAnyH_take (i := 6) (oi := _) (v := ?vA6) rfl (by kernel_rfl) (by kernel_rfl) (by kernel_rfl) (fun _ _ _ h => h) (Or.inl ⟨by rfl, ?hyA6⟩) (by assumption) ?restA6
      case hyA6 => (intro w hSw; (try dsimp only at hSw); (try simp only [List.getElem_toArray, List.getElem_cons_zero, List.getElem_cons_succ]); go_simp; (try with_reducible rfl))
      (try simp only [Act.put, List.setIfInBounds_toArray, List.set_cons_zero, List.set_cons_succ, List.getElem_toArray, List.getElem_cons_zero, List.getElem_cons_succ])
      refine wpAnyH_take (i := 7) (oi := _) (v := ?vA7) rfl (by kernel_rfl) (by kernel_rfl) (by kernel_rfl) (fun _ _ _ h => h) (Or.inl ⟨by rfl, ?hyA7⟩) (by assumption) ?restA7
      case hyA7 => (intro w hSw; (try dsimp only at hSw); (try simp only [List.getElem_toArray, List.getElem_cons_zero, List.getElem_cons_succ]); go_simp; (try with_reducible rfl))
      (try simp only [Act.put, List.setIfInBounds_toArray, List.set_cons_zero, List.set_cons_succ, List.getElem_toArray, List.getElem_cons_zero, List.getElem_cons_succ])
      refine wpAnyH_take (i := 8) (oi := _) (v := ?vA8) rfl (by kernel_rfl) (by kernel_rfl) (by kernel_rfl) (fun _ _ _ h => h) (Or.inl ⟨by rfl, ?hyA8⟩) (by assumption) ?restA8
      case hyA8 => (intro w hSw; (try dsimp only at hSw); (try simp only [List.getElem_toArray, List.getElem_cons_zero, List.getElem_cons_succ]); go_simp; (try with_reducible rfl))
      (try simp only [Act.put, List.setIfInBounds_toArray, List.set_cons_zero, List.set_cons_succ, List.getElem_toArray, List.getElem_cons_zero, List.getElem_cons_succ])
      refine wpAnyH_take (i := 9) (oi := _) (v := ?vA9) rfl (by kernel_rfl) (by kernel_rfl) (by kernel_rfl) (fun _ _ _ h => h) (Or.inl ⟨by rfl, ?hyA9⟩) (by assumption) ?restA9
      case hyA9 => (intro w hSw; (try dsimp only at hSw); (try simp only [List.getElem_toArray, List.getElem_cons_zero, List.getElem_cons_succ]); go_simp; (try with_reducible rfl))
      (try simp only [Act.put, List.setIfInBounds_toArray, List.set_cons_zero, List.set_cons_succ, List.getElem_toArray, List.getElem_cons_zero, List.getElem_cons_succ])
      refine wpAnyH_ready (rs := [10]) (by kernel_rfl) (by simp) ?_
      refine AllReadyH.cons (o := _) rfl (fun K hK => ?_) AllReadyH.nil
      (try simp only [List.getElem_toArray, List.getElem_cons_zero, List.getElem_cons_succ])
      go_simp
      refine (HLK.out _).mono ?_
      rintro v wA ⟨rfl, hbA⟩
      have KA : Hid (Keep (fun _ => False) w8 wA) := Lib.hid (Keep.trans ((Keep.refl (fun _ => False) w8).drew) (Keep.of_below (fun _ => False) hbA) (fun _ _ x => x))
      clear hbA
      refine hK.out _ _ ?_ (fun hHeld => ?_)
      · trivial
      clear hK K
      (try simp only [Act.put, List.setIfInBounds_toArray, List.set_cons_zero, List.set_cons_succ, List.getElem_toArray, List.getElem_cons_zero, List.getElem_cons_succ])
      refine wpAnyH_take (i := 11) (oi := _) (v := ?vA11) rfl (by kernel_rfl) (by kernel_rfl) (by kernel_rfl) (fun _ _ _ h => h) (Or.inl ⟨by rfl, ?hyA11⟩) (by assumption) ?restA11
      case hyA11 => (intro w hSw; (try dsimp only at hSw); (try simp only [List.getElem_toArray, List.getElem_cons_zero, List.getElem_cons_succ]); go_simp; (try with_reducible rfl))
      (try simp only [Act.put, List.setIfInBounds_toArray, List.set_cons_zero, List.set_cons_succ, List.getElem_toArray, List.getElem_cons_zero, List.getElem_cons_succ])
      refine wpAnyH_take (i := 12) (oi := _) (v := ?vA12) rfl (by kernel_rfl) (by kernel_rfl) (by kernel_rfl) (fun _ _ _ h => h) (Or.inl ⟨by rfl, ?hyA12⟩) (by assumption) ?restA12
      case hyA12 => (intro w hSw; (try dsimp only at hSw); (try simp only [List.getElem_toArray, List.getElem_cons_zero, List.getElem_cons_succ]); go_simp; (try with_reducible rfl))
      (try simp only [Act.put, List.setIfInBounds_toArray, List.set_cons_zero, List.set_cons_succ, List.getElem_toArray, List.getElem_cons_zero, List.getElem_cons_succ])
      refine wpAnyH_done (by kernel_rfl) ?_ _
      refine NoPanic.normal ?_
      go_wp2_with fail
      refine (HTX.out _ KA.out).mono ?_
      rintro v w10 ⟨r, rfl, hr, hb10⟩
      obtain ⟨g, c10, rfl, hgl, hg⟩ := text_cells (W := i) (H := 2) (F := editF 80 i q n) (by omega) hr
      have K10 := KA.out.trans (Keep.of_below (fun _ => False) hb10) (fun _ _ x => x)
      have HE10 := Lib.hid (HE8.out.quiet K10)
      have HG : Hid (w10.cell? ⟨g, 0, none⟩ = some (.string T) ∧ w10.cell? ⟨g, 1, none⟩ = some (.string Lw)) := Lib.hid ⟨by rw [HTT.out.1, HK.out.1, ← edit_row0 80 i q n HK.out.2.1 HK.out.2.2.2.1 (by omega)]; exact hg 0 (by omega), by rw [HTT.out.2, ← edit_row1 80 i q n HK.out.2.2.2.1]; exact hg 1 (by omega)⟩
      have HGL := Lib.hid hgl
      have HS := Lib.hid (emu_screen w10 e L8 _ HE10.out.one.r)
      clear hr hb10 hgl hg K10 HTX HE8
      go_wp2_with fail
      refine HS.out.mono ?_
      rintro v w11 ⟨g7, c7, rfl, -, -, -, -, hb11⟩
      obtain ⟨ob, hob⟩ : ∃ ob : Obj, ob = .cells #[.int .i64 (i : Int), .int .i64 2, .slice (some ⟨g7, 0, none⟩) (i * 2) c7, .int .i64 (q : Int), .int .i64 0, .bool false] 28 := ⟨_, rfl⟩
      obtain ⟨V12, hV12⟩ : ∃ V12, V12 = w11.alloc ob := ⟨_, rfl⟩
      obtain ⟨p, hp⟩ : ∃ p, p = w11.heap.size := ⟨_, rfl⟩
      have hsv : scrV (plM i 2 (editF 80 i q n) q 0 false 0 2) (some ⟨g7, 0, none⟩) c7 = .agg #[.int .i64 (i : Int), .int .i64 2, .slice (some ⟨g7, 0, none⟩) (i * 2) c7, .int .i64 (q : Int), .int .i64 0, .bool false] := rfl
      rw [hsv]
      have K12 : Hid (Keep (fun _ => False) w10 V12) := Lib.hid (by rw [hV12]; exact (Keep.of_below (fun _ => False) hb11).trans ((Keep.refl _ w11).alloc ob) (fun _ _ x => x))
      have q12 : V12.heap[p]? = some ob := by rw [hV12, hp]; exact heap_alloc_new w11 _
      have q13 := q12
      rw [hob] at q12
      have s0 : V12.cell? ⟨g, 0, none⟩ = some (.string T) := (K12.out.cell (p := ⟨g, 0, none⟩) HGL.out (fun x => x)).trans HG.out.1
      have s1 : V12.cell? ⟨g, 1, none⟩ = some (.string Lw) := (K12.out.cell (p := ⟨g, 1, none⟩) HGL.out (fun x => x)).trans HG.out.2
      have s2 : V12.cell? ⟨p, 3, none⟩ = some (.int .i64 (q : Int)) := cell_at q12 3
      have s3 : V12.cell? ⟨p, 4, none⟩ = some (.int .i64 0) := cell_at q12 4
      have HSS := Lib.hid (And.intro s0 (And.intro s1 (And.intro s2 s3)))
      have HLT : Hid (g < V12.heap.size ∧ p < V12.heap.size) := Lib.hid ⟨Nat.lt_of_lt_of_le HGL.out K12.out.size, lt_heap q13⟩
      have HB12 : Hid (∀ V, Keep (fun _ => False) V12 V → Below w.heap.size w V) := Lib.hid (fun V kk => ((HE10.out.quiet K12.out).quiet kk).below)
      go_upto_region 25 with fail
      rw [← hp]
      rw [← hob]
      rw [← hV12]
      clear hob hV12 hp hsv q12 q13 hb11 HS HE10 K12
      refine wp_region_noPanic ?_
      refine wp_region_held_drew (S := fun w' => w'.cell? ⟨g, 0, none⟩ = some (.string T) ∧ w'.cell? ⟨g, 1, none⟩ = some (.string Lw) ∧ w'.cell? ⟨p, 3, none⟩ = some (.int .i64 (q : Int)) ∧ w'.cell? ⟨p, 4, none⟩ = some (.int .i64 0)) (by kernel_rfl) ⟨s0, s1, s2, s3⟩ (fun hHeld => ?_)
      refine wpAnyH_take (i := 0) (oi := _) (v := ?vZ0) rfl (by kernel_rfl) (by kernel_rfl) (by kernel_rfl) (fun _ _ _ h => h) (Or.inl ⟨by rfl, ?hyZ0⟩) (by assumption) ?restZ0
      case hyZ0 => (intro w hSw; (try dsimp only at hSw); (try simp only [List.getElem_toArray, List.getElem_cons_zero, List.getElem_cons_succ]); go_simp; (try with_reducible rfl))
      (try simp only [Act.put, List.setIfInBounds_toArray, List.set_cons_zero, List.set_cons_succ, List.getElem_toArray, List.getElem_cons_zero, List.getElem_cons_succ])
      refine wpAnyH_take (i := 1) (oi := _) (v := ?vZ1) rfl (by kernel_rfl) (by kernel_rfl) (by kernel_rfl) (fun _ _ _ h => h) (Or.inl ⟨by rfl, ?hyZ1⟩) (by assumption) ?restZ1
      case hyZ1 => (intro w hSw; (try dsimp only at hSw); (try simp only [List.getElem_toArray, List.getElem_cons_zero, List.getElem_cons_succ]); go_simp; (try with_reducible rfl))
      (try simp only [Act.put, List.setIfInBounds_toArray, List.set_cons_zero, List.set_cons_succ, List.getElem_toArray, List.getElem_cons_zero, List.getElem_cons_succ])
      refine wpAnyH_take (i := 2) (oi := _) (v := ?vZ2) rfl (by kernel_rfl) (by kernel_rfl) (by kernel_rfl) (fun _ _ _ h => h) (Or.inl ⟨by rfl, ?hyZ2⟩) (by assumption) ?restZ2
      case hyZ2 => (intro w hSw; (try dsimp only at hSw); (try simp only [List.getElem_toArray, List.getElem_cons_zero, List.getElem_cons_succ]); go_simp; (try with_reducible rfl))
      (try simp only [Act.put, List.setIfInBounds_toArray, List.set_cons_zero, List.set_cons_succ, List.getElem_toArray, List.getElem_cons_zero, List.getElem_cons_succ])
      refine wpAnyH_take (i := 3) (oi := _) (v := ?vZ3) rfl (by kernel_rfl) (by kernel_rfl) (by kernel_rfl) (fun _ _ _ h => h) (Or.inl ⟨by rfl, ?hyZ3⟩) (by assumption) ?restZ3
      case hyZ3 => (intro w hSw; (try dsimp only at hSw); (try simp only [List.getElem_toArray, List.getElem_cons_zero, List.getElem_cons_succ]); go_simp; (try with_reducible rfl))
      (try simp only [Act.put, List.setIfInBounds_toArray, List.set_cons_zero, List.set_cons_succ, List.getElem_toArray, List.getElem_cons_zero, List.getElem_cons_succ])
      refine wpAnyH_take (i := 4) (oi := _) (v := ?vZ4) rfl (by kernel_rfl) (by kernel_rfl) (by kernel_rfl) (fun _ _ _ h => h) (Or.inl ⟨by rfl, ?hyZ4⟩) (by assumption) ?restZ4
      case hyZ4 => (intro w hSw; (try dsimp only at hSw); (try simp only [List.getElem_toArray, List.getElem_cons_zero, List.getElem_cons_succ]); go_simp; (try with_reducible rfl))
      (try simp only [Act.put, List.setIfInBounds_toArray, List.set_cons_zero, List.set_cons_succ, List.getElem_toArray, List.getElem_cons_zero, List.getElem_cons_succ])
      refine wpAnyH_take (i := 5) (oi := _) (v := ?vZ5) rfl (by kernel_rfl) (by kernel_rfl) (by kernel_rfl) (fun _ _ _ h => h) (Or.inl ⟨by rfl, ?hyZ5⟩) (by assumption) ?restZ5
      case hyZ5 => (intro w hSw; (try dsimp only at hSw); (try simp only [List.getElem_toArray, List.getElem_cons_zero, List.getElem_cons_succ]); go_simp; (try with_reducible rfl))
      (try simp only [Act.put, List.setIfInBounds_toArray, List.set_cons_zero, List.set_cons_succ, List.getElem_toArray, List.getElem_cons_zero, List.getElem_cons_succ])
      refine wpAnyH_take (i := 6) (oi := _) (v := ?vZ6) rfl (by kernel_rfl) (by kernel_rfl) (by kernel_rfl) (fun _ _ _ h => h) (Or.inl ⟨by rfl, ?hyZ6⟩) (by assumption) ?restZ6
      case hyZ6 => (intro w hSw; (try dsimp only at hSw); (try simp only [List.getElem_toArray, List.getElem_cons_zero, List.getElem_cons_succ]); go_simp; (try with_reducible rfl))
      (try simp only [Act.put, List.setIfInBounds_toArray, List.set_cons_zero, List.set_cons_succ, List.getElem_toArray, List.getElem_cons_zero, List.getElem_cons_succ])
      refine wpAnyH_take (i := 7) (oi := _) (v := ?vZ7) rfl (by kernel_rfl) (by kernel_rfl) (by kernel_rfl) (fun _ _ _ h => h) (Or.inl ⟨by rfl, ?hyZ7⟩) (by assumption) ?restZ7
      case hyZ7 => (intro w hSw; (try dsimp only at hSw); (try simp only [List.getElem_toArray, List.getElem_cons_zero, List.getElem_cons_succ]); go_simp; (try with_reducible rfl))
      (try simp only [Act.put, List.setIfInBounds_toArray, List.set_cons_zero, List.set_cons_succ, List.getElem_toArray, List.getElem_cons_zero, List.getElem_cons_succ])
      refine wpAnyH_take (i := 8) (oi := _) (v := ?vZ8) rfl (by kernel_rfl) (by kernel_rfl) (by kernel_rfl) (fun _ _ _ h => h) (Or.inl ⟨by rfl, ?hyZ8⟩) (by assumption) ?restZ8
      case hyZ8 => (intro w hSw; (try dsimp only at hSw); (try simp only [List.getElem_toArray, List.getElem_cons_zero, List.getElem_cons_succ]); go_simp; (try with_reducible rfl))
      (try simp only [Act.put, List.setIfInBounds_toArray, List.set_cons_zero, List.set_cons_succ, List.getElem_toArray, List.getElem_cons_zero, List.getElem_cons_succ])
      refine wpAnyH_take (i := 9) (oi := _) (v := ?vZ9) rfl (by kernel_rfl) (by kernel_rfl) (by kernel_rfl) (fun _ _ _ h => h) (Or.inl ⟨by rfl, ?hyZ9⟩) (by assumption) ?restZ9
      case hyZ9 => (intro w hSw; (try dsimp only at hSw); (try simp only [List.getElem_toArray, List.getElem_cons_zero, List.getElem_cons_succ]); go_simp; (try with_reducible rfl))
      (try simp only [Act.put, List.setIfInBounds_toArray, List.set_cons_zero, List.set_cons_succ, List.getElem_toArray, List.getElem_cons_zero, List.getElem_cons_succ])
      refine wpAnyH_take (i := 10) (oi := _) (v := ?vZ10) rfl (by kernel_rfl) (by kernel_rfl) (by kernel_rfl) (fun _ _ _ h => h) (Or.inl ⟨by rfl, ?hyZ10⟩) (by assumption) ?restZ10
      case hyZ10 => (intro w hSw; (try dsimp only at hSw); (try simp only [List.getElem_toArray, List.getElem_cons_zero, List.getElem_cons_succ]); go_simp; (try with_reducible rfl))
      (try simp only [Act.put, List.setIfInBounds_toArray, List.set_cons_zero, List.set_cons_succ, List.getElem_toArray, List.getElem_cons_zero, List.getElem_cons_succ])
      refine wpAnyH_take (i := 11) (oi := _) (v := ?vZ11) rfl (by kernel_rfl) (by kernel_rfl) (by kernel_rfl) (fun _ _ _ h => h) (Or.inl ⟨by rfl, ?hyZ11⟩) (by assumption) ?restZ11
      case hyZ11 => (intro w hSw; (try dsimp only at hSw); (try simp only [List.getElem_toArray, List.getElem_cons_zero, List.getElem_cons_succ]); go_simp; (try with_reducible rfl))
      (try simp only [Act.put, List.setIfInBounds_toArray, List.set_cons_zero, List.set_cons_succ, List.getElem_toArray, List.getElem_cons_zero, List.getElem_cons_succ])
      refine wpAnyH_take (i := 12) (oi := _) (v := ?vZ12) rfl (by kernel_rfl) (by kernel_rfl) (by kernel_rfl) (fun _ _ _ h => h) (Or.inl ⟨by rfl, ?hyZ12⟩) (by assumption) ?restZ12
      case hyZ12 => (intro w hSw; (try dsimp only at hSw); (try simp only [List.getElem_toArray, List.getElem_cons_zero, List.getElem_cons_succ]); go_simp; (try with_reducible rfl))
      (try simp only [Act.put, List.setIfInBounds_toArray, List.set_cons_zero, List.set_cons_succ, List.getElem_toArray, List.getElem_cons_zero, List.getElem_cons_succ])
      refine wpAnyH_take (i := 13) (oi := _) (v := ?vZ13) rfl (by kernel_rfl) (by kernel_rfl) (by kernel_rfl) (fun _ _ _ h => h) (Or.inl ⟨by rfl, ?hyZ13⟩) (by assumption) ?restZ13
      case hyZ13 => (intro w hSw; (try dsimp only at hSw); (try simp only [List.getElem_toArray, List.getElem_cons_zero, List.getElem_cons_succ]); go_simp; (try with_reducible rfl))
      (try simp only [Act.put, List.setIfInBounds_toArray, List.set_cons_zero, List.set_cons_succ, List.getElem_toArray, List.getElem_cons_zero, List.getElem_cons_succ])
      refine wpAnyH_take (i := 14) (oi := _) (v := ?vZ14) rfl (by kernel_rfl) (by kernel_rfl) (by kernel_rfl) (fun _ _ _ h => h) (Or.inl ⟨by rfl, ?hyZ14⟩) (by assumption) ?restZ14
      case hyZ14 => (intro w hSw; (try dsimp only at hSw); (try simp only [List.getElem_toArray, List.getElem_cons_zero, List.getElem_cons_succ]); go_simp; (try with_reducible rfl))
      (try simp only [Act.put, List.setIfInBounds_toArray, List.set_cons_zero, List.set_cons_succ, List.getElem_toArray, List.getElem_cons_zero, List.getElem_cons_succ])
      refine wpAnyH_ready (rs := [15]) (by kernel_rfl) (by simp) ?_
      refine AllReadyH.cons (o := _) rfl (fun K hK => ?_) AllReadyH.nil
      (try simp only [List.getElem_toArray, List.getElem_cons_zero, List.getElem_cons_succ])
      go_simp
      refine (HLW.out _).mono ?_
      rintro v wB ⟨rfl, hbB⟩
      have KB : Hid (Keep (fun _ => False) V12 wB) := Lib.hid (Keep.trans ((Keep.refl (fun _ => False) V12).drew) (Keep.of_below (fun _ => False) hbB) (fun _ _ x => x))
      clear hbB
      refine hK.out _ _ ?_ (fun hHeld => ?_)
      · exact ⟨(KB.out.cell (p := ⟨g, 0, none⟩) HLT.out.1 (fun x => x)).trans HSS.out.1, (KB.out.cell (p := ⟨g, 1, none⟩) HLT.out.1 (fun x => x)).trans HSS.out.2.1, (KB.out.cell (p := ⟨p, 3, none⟩) HLT.out.2 (fun x => x)).trans HSS.out.2.2.1, (KB.out.cell (p := ⟨p, 4, none⟩) HLT.out.2 (fun x => x)).trans HSS.out.2.2.2⟩
      clear hK K
      (try simp only [Act.put, List.setIfInBounds_toArray, List.set_cons_zero, List.set_cons_succ, List.getElem_toArray, List.getElem_cons_zero, List.getElem_cons_succ])
      refine wpAnyH_take (i := 16) (oi := _) (v := ?vZ16) rfl (by kernel_rfl) (by kernel_rfl) (by kernel_rfl) (fun _ _ _ h => h) (Or.inl ⟨by rfl, ?hyZ16⟩) (by assumption) ?restZ16
      case hyZ16 => (intro w hSw; (try dsimp only at hSw); (try simp only [List.getElem_toArray, List.getElem_cons_zero, List.getElem_cons_succ]); go_simp; (try with_reducible rfl))
      (try simp only [Act.put, List.setIfInBounds_toArray, List.set_cons_zero, List.set_cons_succ, List.getElem_toArray, List.getElem_cons_zero, List.getElem_cons_succ])
      refine wpAnyH_take (i := 17) (oi := _) (v := ?vZ17) rfl (by kernel_rfl) (by kernel_rfl) (by kernel_rfl) (fun _ _ _ h => h) (Or.inl ⟨by rfl, ?hyZ17⟩) (by assumption) ?restZ17
      case hyZ17 => (intro w hSw; (try dsimp only at hSw); (try simp only [List.getElem_toArray, List.getElem_cons_zero, List.getElem_cons_succ]); go_simp; (try with_reducible rfl))
      (try simp only [Act.put, List.setIfInBounds_toArray, List.set_cons_zero, List.set_cons_succ, List.getElem_toArray, List.getElem_cons_zero, List.getElem_cons_succ])
      refine wpAnyH_take (i := 18) (oi := _) (v := ?vZ18) rfl (by kernel_rfl) (by kernel_rfl) (by kernel_rfl) (fun _ _ _ h => h) (Or.inl ⟨by rfl, ?hyZ18⟩) (by assumption) ?restZ18
      case hyZ18 => (intro w hSw; (try dsimp only at hSw); (try simp only [List.getElem_toArray, List.getElem_cons_zero, List.getElem_cons_succ]); go_simp; (try with_reducible rfl))
      (try simp only [Act.put, List.setIfInBounds_toArray, List.set_cons_zero, List.set_cons_succ, List.getElem_toArray, List.getElem_cons_zero, List.getElem_cons_succ])
      refine wpAnyH_take (i := 19) (oi := _) (v := ?vZ19) rfl (by kernel_rfl) (by kernel_rfl) (by kernel_rfl) (fun _ _ _ h => h) (Or.inl ⟨by rfl, ?hyZ19⟩) (by assumption) ?restZ19
      case hyZ19 => (intro w hSw; (try dsimp only at hSw); (try simp only [List.getElem_toArray, List.getElem_cons_zero, List.getElem_cons_succ]); go_simp; (try with_reducible rfl))
      (try simp only [Act.put, List.setIfInBounds_toArray, List.set_cons_zero, List.set_cons_succ, List.getElem_toArray, List.getElem_cons_zero, List.getElem_cons_succ])
      refine wpAnyH_take (i := 20) (oi := _) (v := ?vZ20) rfl (by kernel_rfl) (by kernel_rfl) (by kernel_rfl) (fun _ _ _ h => h) (Or.inl ⟨by rfl, ?hyZ20⟩) (by assumption) ?restZ20
      case hyZ20 => (intro w hSw; (try dsimp only at hSw); (try simp only [List.getElem_toArray, List.getElem_cons_zero, List.getElem_cons_succ]); go_simp; (try with_reducible rfl))
      (try simp only [Act.put, List.setIfInBounds_toArray, List.set_cons_zero, List.set_cons_succ, List.getElem_toArray, List.getElem_cons_zero, List.getElem_cons_succ])
      refine wpAnyH_take (i := 21) (oi := _) (v := ?vZ21) rfl (by kernel_rfl) (by kernel_rfl) (by kernel_rfl) (fun _ _ _ h => h) (Or.inl ⟨by rfl, ?hyZ21⟩) (by assumption) ?restZ21
      case hyZ21 => (intro w hSw; (try dsimp only at hSw); (try simp only [List.getElem_toArray, List.getElem_cons_zero, List.getElem_cons_succ]); go_simp; (try with_reducible rfl))
      (try simp only [Act.put, List.setIfInBounds_toArray, List.set_cons_zero, List.set_cons_succ, List.getElem_toArray, List.getElem_cons_zero, List.getElem_cons_succ])
      refine wpAnyH_take (i := 22) (oi := _) (v := ?vZ22) rfl (by kernel_rfl) (by kernel_rfl) (by kernel_rfl) (fun _ _ _ h => h) (Or.inl ⟨by rfl, ?hyZ22⟩) (by assumption) ?restZ22
      case hyZ22 => (intro w hSw; (try dsimp only at hSw); (try simp only [List.getElem_toArray, List.getElem_cons_zero, List.getElem_cons_succ]); go_simp; (try with_reducible rfl))
      (try simp only [Act.put, List.setIfInBounds_toArray, List.set_cons_zero, List.set_cons_succ, List.getElem_toArray, List.getElem_cons_zero, List.getElem_cons_succ])
      refine wpAnyH_take (i := 23) (oi := _) (v := ?vZ23) rfl (by kernel_rfl) (by kernel_rfl) (by kernel_rfl) (fun _ _ _ h => h) (Or.inl ⟨by rfl, ?hyZ23⟩) (by assumption) ?restZ23
      case hyZ23 => (intro w hSw; (try dsimp only at hSw); (try simp only [List.getElem_toArray, List.getElem_cons_zero, List.getElem_cons_succ]); go_simp; (try with_reducible rfl))
      (try simp only [Act.put, List.setIfInBounds_toArray, List.set_cons_zero, List.set_cons_succ, List.getElem_toArray, List.getElem_cons_zero, List.getElem_cons_succ])
      refine wpAnyH_take (i := 24) (oi := _) (v := ?vZ24) rfl (by kernel_rfl) (by kernel_rfl) (by kernel_rfl) (fun _ _ _ h => h) (Or.inl ⟨by rfl, ?hyZ24⟩) (by assumption) ?restZ24
      case hyZ24 => (intro w hSw; (try dsimp only at hSw); (try simp only [List.getElem_toArray, List.getElem_cons_zero, List.getElem_cons_succ]); go_simp; (try with_reducible rfl))
      (try simp only [Act.put, List.setIfInBounds_toArray, List.set_cons_zero, List.set_cons_succ, List.getElem_toArray, List.getElem_cons_zero, List.getElem_cons_succ])
      refine wpAnyH_take (i := 25) (oi := _) (v := ?vZ25) rfl (by kernel_rfl) (by kernel_rfl) (by kernel_rfl) (fun _ _ _ h => h) (Or.inl ⟨by rfl, ?hyZ25⟩) (by assumption) ?restZ25
      case hyZ25 => (intro w hSw; (try dsimp only at hSw); (try simp only [List.getElem_toArray, List.getElem_cons_zero, List.getElem_cons_succ]); go_simp; (try with_reducible rfl))
      (try simp only [Act.put, List.setIfInBounds_toArray, List.set_cons_zero, List.set_cons_succ, List.getElem_toArray, List.getElem_cons_zero, List.getElem_cons_succ])
      refine wpAnyH_take (i := 26) (oi := _) (v := ?vZ26) rfl (by kernel_rfl) (by kernel_rfl) (by kernel_rfl) (fun _ _ _ h => h) (Or.inl ⟨by rfl, ?hyZ26⟩) (by assumption) ?restZ26
      case hyZ26 => (intro w hSw; (try dsimp only at hSw); (try simp only [List.getElem_toArray, List.getElem_cons_zero, List.getElem_cons_succ]); go_simp; (try with_reducible rfl))
      (try simp only [Act.put, List.setIfInBounds_toArray, List.set_cons_zero, List.set_cons_succ, List.getElem_toArray, List.getElem_cons_zero, List.getElem_cons_succ])
      refine wpAnyH_take (i := 27) (oi := _) (v := ?vZ27) rfl (by kernel_rfl) (by kernel_rfl) (by kernel_rfl) (fun _ _ _ h => h) (Or.inl ⟨by rfl, ?hyZ27⟩) (by assumption) ?restZ27
      case hyZ27 => (intro w hSw; (try dsimp only at hSw); (try simp only [List.getElem_toArray, List.getElem_cons_zero, List.getElem_cons_succ]); go_simp; (try with_reducible rfl))
      (try simp only [Act.put, List.setIfInBounds_toArray, List.set_cons_zero, List.set_cons_succ, List.getElem_toArray, List.getElem_cons_zero, List.getElem_cons_succ])
      refine wpAnyH_take (i := 28) (oi := _) (v := ?vZ28) rfl (by kernel_rfl) (by kernel_rfl) (by kernel_rfl) (fun _ _ _ h => h) (Or.inl ⟨by rfl, ?hyZ28⟩) (by assumption) ?restZ28
      case hyZ28 => (intro w hSw; (try dsimp only at hSw); (try simp only [List.getElem_toArray, List.getElem_cons_zero, List.getElem_cons_succ]); go_simp; (try with_reducible rfl))
      (try simp only [Act.put, List.setIfInBounds_toArray, List.set_cons_zero, List.set_cons_succ, List.getElem_toArray, List.getElem_cons_zero, List.getElem_cons_succ])
      refine wpAnyH_take (i := 29) (oi := _) (v := ?vZ29) rfl (by kernel_rfl) (by kernel_rfl) (by kernel_rfl) (fun _ _ _ h => h) (Or.inl ⟨by rfl, ?hyZ29⟩) (by assumption) ?restZ29
      case hyZ29 => (intro w hSw; (try dsimp only at hSw); (try simp only [List.getElem_toArray, List.getElem_cons_zero, List.getElem_cons_succ]); go_simp; (try with_reducible rfl))
      (try simp only [Act.put, List.setIfInBounds_toArray, List.set_cons_zero, List.set_cons_succ, List.getElem_toArray, List.getElem_cons_zero, List.getElem_cons_succ])
      refine wpAnyH_done (by kernel_rfl) ?_ _
      refine NoPanic.normal ?_
      go_wp2_with fail
      go_ret
      exact ⟨rfl, HB12.out _ KB.out⟩

set_option maxRecDepth 100000 in
set_option maxHeartbeats 12800000 in
theorem emuChars_2 (x c h0 tz : Int) (n : Nat) (hn : n ≤ 60) (htz : h0.tmod 3 = tz) (tz1 : -3 < tz) (tz2 : tz < 3) (hz0 : (tz + 3) % 3 = ((2 : Nat) : Int)) (w : World) :
    Calls Tryz.prog 9 #[.int .i64 x, .int .i64 c, .int .i64 n, .int .i64 h0] w fun e w' => e = .returned (.bool true) ∧ Below w.heap.size w w' := by
  obtain ⟨W, hW⟩ : ∃ W : Nat, min (max x 2) 40 = (W : Int) := ⟨(min (max x 2) 40).toNat, by omega⟩
  have HEN := Lib.hid (ends_is x 2 W 2 hW rfl)
  have HN := Lib.hid (fun V => emu_newF V x 2 W 2 hW rfl)
  have hz : (tz + 3) % 3 = (2 : Int) := hz0
  have g1 : (2 : Int) ≤ (W : Int) := by omega
  have g2 : (W : Int) ≤ 40 := by omega
  have n1 : ¬ (n : Int) < 0 := by omega
  have n2 : ¬ (n : Int) > 60 := by omega
  obtain ⟨tm, htm, tm1, tm2, q, hq, hql⟩ := rest_twice c W (by omega)
  have hqi : (q : Int) < (W : Int) := by omega
  obtain ⟨m1, hm1⟩ : ∃ m1 : Nat, max (n : Int) 1 = (m1 : Int) := ⟨max n 1, by omega⟩
  obtain ⟨wx, hwx⟩ : ∃ wx : Nat, (W : Int) - (q : Int) = (wx : Int) := ⟨W - q, by omega⟩
  obtain ⟨k, hk⟩ : ∃ k : Nat, min (m1 : Int) (wx : Int) = (k : Int) := ⟨min m1 wx, by omega⟩
  have hk1 : (1 : Int) ≤ (k : Int) := by omega
  have hk2 : (q : Int) + (k : Int) ≤ (W : Int) := by omega
  have HK : Hid (k = min (max n 1) (W - q) ∧ q < W ∧ 2 ≤ W ∧ W ≤ 40 ∧ 1 ≤ k ∧ q + k ≤ W) := Lib.hid (by omega)
  have HD1 : Hid (∀ V, Calls Tryz.prog 17 #[.int .i64 ((q : Int) + 1)] V fun e w' => e = .returned (.string (bytesN (decN (q + 1)))) ∧ Below V.heap.size V w') := Lib.hid (fun V => digits_any (q + 1) (by omega) V)
  have HD2 := Lib.hid (fun V => digits_any n (by omega) V)
  have HLK := Lib.hid (fun V => line_is k 32 (by omega) (by omega) V)
  have HLW := Lib.hid (fun V => line_is W 32 (by omega) (by omega) V)
  clear hW hz0 hql
  go_enter Tryz.func9, Tryz.ntmps9
  go_wp2_with fail
  refine (emu_alive _).mono ?_
  rintro v w1 ⟨rfl, hb1⟩
  have HE1 := Lib.hid ((Ems.start w).quiet (Keep.of_below _ hb1))
  clear hb1
  go_wp2_with fail
  refine (HN.out _).mono ?_
  rintro v w2 h2
  obtain ⟨e, L, rfl, -, he2⟩ := HE1.out.add h2
  have HE2 : Hid (Ems w w2 [⟨e, L, 0, (pAt 0, EmM.new W 2)⟩]) := Lib.hid he2
  clear h2 he2 HE1 HN
  go_wp2_with fail
  refine (HEN.out _).mono ?_
  rintro v w3 ⟨rfl, rfl⟩
  go_wp2_with fail
  rw [hq]
  clear htm hq
  go_loopw [10, 11] (fun vs vi wr => ∃ i : Nat, vs = .string (bytesN (tab i (fun i => 65 + i))) ∧ vi = .int .i64 (i : Int) ∧ i ≤ W ∧ Hid (Ems w wr [⟨e, L, 0, (pAt 0, EmM.new W 2)⟩])) (fun _ vi _ => W - (intOf vi).toNat)
  case atStart => exact ⟨0, rfl, rfl, by omega, HE2.out⟩
  case round =>
    obtain ⟨i, rfl, rfl, hi, HE⟩ := hrel
    obtain ⟨A, hA⟩ : ∃ A, bytesN (tab i (fun i => 65 + i)) = A := ⟨_, rfl⟩
    have hAs : A.size = i := by rw [← hA, bytesN_size, tab_len]
    rw [hA]
    have HA := Lib.hid hA
    by_cases hlt : i < W
    · have hii : (i : Int) < (W : Int) := by omega
      have hi0 : (0 : Int) ≤ (i : Int) := by omega
      have HI := Lib.hid hlt
      obtain ⟨D, hD⟩ : ∃ D : Nat, D = 65 + i := ⟨_, rfl⟩
      have hdi : (65 : Int) + (i : Int) = (D : Int) := by omega
      have hD256 : D < 256 := by omega
      have hd8 := u8_small hD256
      have hcv := letter_str D hD256 wr
      have HNX : Hid (A ++ bytesN [D] = bytesN (tab (i + 1) (fun i => 65 + i))) := Lib.hid (by rw [tab_snoc, bytesN_add, HA.out, hD])
      have hsz : A.size + (bytesN [D]).size ≤ 9223372036854775807 := by rw [bytesN_size, hAs]; simp; omega
      have HE4 := Lib.hid (HE.out.quiet ((Keep.refl (fun _ => False) wr).alloc (.cells #[.int .u8 (D : Int)] 5)))
      clear hA hAs hlt hi hD hD256 HE
      go_wp2_with fail
      go_roundw
      case rel => exact ⟨i + 1, by rw [HNX.out], by go_num, HI.out, HE4.out⟩
      case measure => have := HI.out; simp [intOf]; omega
    · obtain rfl : i = W := by omega
      have hii : ¬ (i : Int) < (i : Int) := by omega
      have HAL : Hid (A = bytesN (lets i)) := Lib.hid hA.symm
      clear hA hlt hi
      go_upto_region 14 with fail
      obtain ⟨V5, hV5⟩ : ∃ V5, V5 = wr.alloc (.cells #[.string ⟨#[64]⟩, .string ⟨#[80]⟩, .string ⟨#[88]⟩] 9) := ⟨_, rfl⟩
      have HE5 : Hid (Ems w V5 [⟨e, L, 0, (pAt 0, EmM.new i 2)⟩]) := Lib.hid (by rw [hV5]; exact HE.out.quiet ((Keep.refl (fun _ => False) wr).alloc _))
      rw [← hV5]
      clear hV5 HE
      go_wp2_with fail
      refine (HD1.out _).mono ?_
      rintro v w6 ⟨rfl, hb6⟩
      have HE6 := Lib.hid (HE5.out.quiet (Keep.of_below _ hb6))
      clear hb6 HE5 HD1
      go_wp2_with fail
      refine (HD2.out _).mono ?_
      rintro v w7 ⟨rfl, hb7⟩
      have HF := Lib.hid (fed1 (k' := 300) (HE6.out.quiet (Keep.of_below _ hb7)) [bytesN (lets i), ⟨#[27, 91, 49, 59]⟩, bytesN (decN (q + 1)), ⟨#[72, 27, 91]⟩, bytesN (decN n), ⟨#[88]⟩] 6 rfl (by omega) (Nat.le_trans (chars_size i q n _ (by have := HK.out; omega) (by omega) rfl HK.out.2.2.2.1) (by omega)) (by omega) (by have := chars_size i q n ⟨#[88]⟩ (by have := HK.out; omega) (by omega) rfl HK.out.2.2.2.1; omega) ((congrArg (feedM (pAt 0, EmM.new i 2)) (chars_nats i q n 88 ⟨#[88]⟩ rfl HK.out.2.2.2.1)).trans (chars_fed i q n 88 ⟨HK.out.2.2.1, HK.out.2.2.2.1⟩ HK.out.2.1 (by omega) (by omega))))
      obtain ⟨d1, hd1⟩ : ∃ d1, bytesN (decN (q + 1)) = d1 := ⟨_, rfl⟩
      obtain ⟨d2, hd2⟩ : ∃ d2, bytesN (decN n) = d2 := ⟨_, rfl⟩
      rw [hd1, hd2, ← HAL.out] at HF
      rw [hd1, hd2]
      clear hb7 hd1 hd2 HD2 HE6
      go_wp2_with fail
      refine HF.out.mono ?_
      rintro v w8 ⟨rfl, L8, he8, -, -⟩
      have HE8 := Lib.hid he8
      clear he8 HF
      obtain ⟨B, hB⟩ : ∃ B, B = bytesN (List.replicate k 32) := ⟨_, rfl⟩
      have hBs : B.size = k := by rw [hB, bytesN_size]; simp
      rw [← hB] at HLK
      have HB := Lib.hid hB
      obtain ⟨xk, hxk⟩ : ∃ xk : Nat, (q : Int) + (k : Int) = (xk : Int) := ⟨q + k, by omega⟩
      obtain ⟨wk, hwk⟩ : ∃ wk : Nat, (i : Int) - (k : Int) = (wk : Int) := ⟨i - k, by omega⟩
      have HXW : Hid (xk = q + k ∧ wk = i - k) := Lib.hid (by have := HK.out; omega)
      have b1 : (q : Int) ≤ (i : Int) := by omega
      have b2 : (xk : Int) ≤ (i : Int) := by omega
      have b3 : (q : Int) ≤ (wk : Int) := by omega
      have b4 : (wk : Int) ≤ (i : Int) := by omega
      have b5 : (0 : Int) ≤ (q : Int) := by omega
      have b6 : (0 : Int) ≤ (xk : Int) := by omega
      have b7 : (0 : Int) ≤ (wk : Int) := by omega
      have b8 : (wk : Int) ≤ 40 := by omega
      have b9 : (xk : Int) ≤ 40 := by omega
      have b10 : IntKind.i64.wrap (wk : Int) = (wk : Int) := IntWalk.i64_in _ (by omega)
      have b11 : IntKind.i64.wrap (xk : Int) = (xk : Int) := IntWalk.i64_in _ (by omega)
      have hsl : ∀ p q : Nat, q ≤ i → (A.extract p q).size ≤ 40 := fun p q h => by
        have h1 := congrArg List.length (natsOf_slice A p q)
        rw [natsOf_len, List.length_take] at h1
        omega
      have z1 : (A.extract 0 q).size + B.size ≤ 9223372036854775807 := by have := hsl 0 q (by omega); omega
      have z2 : ((A.extract 0 q) ++ B).size + (A.extract q wk).size ≤ 9223372036854775807 := by rw [ByteArray.size_append]; have := hsl 0 q (by omega); have := hsl q wk (by omega); omega
      have z3 : ((A.extract 0 q) ++ B).size + (A.extract xk i).size ≤ 9223372036854775807 := by rw [ByteArray.size_append]; have := hsl 0 q (by omega); have := hsl xk i (by omega); omega
      have z4 : (A.extract 0 q).size + (A.extract xk i).size ≤ 9223372036854775807 := by have := hsl 0 q (by omega); have := hsl xk i (by omega); omega
      have z5 : ((A.extract 0 q) ++ (A.extract xk i)).size + B.size ≤ 9223372036854775807 := by rw [ByteArray.size_append]; have := hsl 0 q (by omega); have := hsl xk i (by omega); omega
      have y1 : ¬ 9223372036854775807 < min q i + B.size := by omega
      have y2 : ¬ 9223372036854775807 < min q i + B.size + (min wk i - q) := by omega
      have y3 : ¬ 9223372036854775807 < min q i + B.size + (i - xk) := by omega
      have y4 : ¬ 9223372036854775807 < min q i + (i - xk) := by omega
      have y5 : ¬ 9223372036854775807 < min q i + (i - xk) + B.size := by omega
      obtain ⟨T, hT⟩ : ∃ T, T = bytesN (editW 88 i q k) := ⟨_, rfl⟩
      have hTW : T = ((A.extract 0 q ++ B) ++ A.extract xk i) := by
        rw [hT]
        apply nats_ext
        have hl : natsOf A = lets i := by rw [HAL.out]; exact natsOf_bytesN _ (fun c hc => by obtain ⟨i2, hi2, rfl⟩ := tab_mem hc; have := HK.out; omega)
        have hb : natsOf B = List.replicate k 32 := by rw [HB.out]; exact natsOf_bytesN _ (by intro c hc; rw [List.eq_of_mem_replicate hc]; omega)
        rw [natsOf_add, natsOf_add, natsOf_slice, natsOf_slice, hl, hb, natsOf_bytesN _ (fun c hc => by
          have hm : c ∈ lets i ∨ c ∈ List.replicate k 32 := by
            unfold editW at hc
            simp only [List.mem_append, if_true, if_false, show ¬ (80 : Nat) = 64 from by omega, show ¬ (88 : Nat) = 64 from by omega, show ¬ (88 : Nat) = 80 from by omega] at hc
            rcases hc with (hc | hc) | hc <;> first | exact .inr hc | exact .inl (List.mem_of_mem_take hc) | exact .inl (List.mem_of_mem_drop hc) | exact .inl (List.mem_of_mem_drop (List.mem_of_mem_take hc))
          rcases hm with hm | hm
          · obtain ⟨i2, hi2, rfl⟩ := tab_mem hm; have := HK.out; omega
          · rw [List.eq_of_mem_replicate hm]; omega)]
        unfold editW
        simp only [if_true, if_false, show ¬ (80 : Nat) = 64 from by omega, show ¬ (88 : Nat) = 64 from by omega, show ¬ (88 : Nat) = 80 from by omega]
        have hll : (lets i).length = i := tab_len _ _
        simp only [HXW.out.1, HXW.out.2, List.drop_zero, Nat.sub_zero]
        rw [List.take_of_length_le (l := (lets i).drop (q + k)) (by rw [List.length_drop]; omega)]
      have t1 : (T.toList == (((A.extract 0 q ++ B) ++ A.extract xk i)).toList) = true := by rw [hTW]; exact beq_self_eq_true _
      obtain ⟨Lw, hLw⟩ : ∃ Lw, Lw = bytesN (List.replicate i 32) := ⟨_, rfl⟩
      rw [← hLw] at HLW
      have t2 : (Lw.toList == Lw.toList) = true := by simp
      have HTT := Lib.hid (And.intro hT hLw)
      have HTX := Lib.hid (fun V (kk : Keep (fun _ => False) w8 V) => emu_text V e L8 _ (HE8.out.quiet kk).one.r)
      clear hT hTW hLw hB hBs hsl
      go_upto_region 18 with fail
      refine wp_region_noPanic ?_
      refine wp_region_held_drew (S := fun w' => True) (by kernel_rfl) trivial (fun hHeld => ?_)
      refine wpAnyH_take (i := 0) (oi := _) (v := ?vA0) rfl (by kernel_rfl) (by kernel_rfl) (by kernel_rfl) (fun _ _ _ h => h) (Or.inl ⟨by rfl, ?hyA0⟩) (by assumption) ?restA0
      case hyA0 => (intro w hSw; (try dsimp only at hSw); (try simp only [List.getElem_toArray, List.getElem_cons_zero, List.getElem_cons_succ]); go_simp; (try with_reducible rfl))
      (try simp only [Act.put, List.setIfInBounds_toArray, List.set_cons_zero, List.set_cons_succ, List.getElem_toArray, List.getElem_cons_zero, List.getElem_cons_succ])
      refine wpAnyH_take (i := 1) (oi := _) (v := ?vA1) rfl (by kernel_rfl) (by kernel_rfl) (by kernel_rfl) (fun _ _ _ h => h) (Or.inl ⟨by rfl, ?hyA1⟩) (by assumption) ?restA1
      case hyA1 => (intro w hSw; (try dsimp only at hSw); (try simp only [List.getElem_toArray, List.getElem_cons_zero, List.getElem_cons_succ]); go_simp; (try with_reducible rfl))
      (try simp only [Act.put, List.setIfInBounds_toArray, List.set_cons_zero, List.set_cons_succ, List.getElem_toArray, List.getElem_cons_zero, List.getElem_cons_succ])
      refine wpAnyH_take (i := 2) (oi := _) (v := ?vA2) rfl (by kernel_rfl) (by kernel_rfl) (by kernel_rfl) (fun _ _ _ h => h) (Or.inl ⟨by rfl, ?hyA2⟩) (by assumption) ?restA2
      case hyA2 => (intro w hSw; (try dsimp only at hSw); (try simp only [List.getElem_toArray, List.getElem_cons_zero, List.getElem_cons_succ]); go_simp; (try with_reducible rfl))
      (try simp only [Act.put, List.setIfInBounds_toArray, List.set_cons_zero, List.set_cons_succ, List.getElem_toArray, List.getElem_cons_zero, List.getElem_cons_succ])
      refine wpAnyH_take (i := 3) (oi := _) (v := ?vA3) rfl (by kernel_rfl) (by kernel_rfl) (by kernel_rfl) (fun _ _ _ h => h) (Or.inl ⟨by rfl, ?hyA3⟩) (by assumption) ?restA3
      case hyA3 => (intro w hSw; (try dsimp only at hSw); (try simp only [List.getElem_toArray, List.getElem_cons_zero, List.getElem_cons_succ]); go_simp; (try with_reducible rfl))
      (try simp only [Act.put, List.setIfInBounds_toArray, List.set_cons_zero, List.set_cons_succ, List.getElem_toArray, List.getElem_cons_zero, List.getElem_cons_succ])
      refine wpAnyH_take (i := 6) (oi := _) (v := ?vA6) rfl (by kernel_rfl) (by kernel_rfl) (by kernel_rfl) (fun _ _ _ h => h) (Or.inl ⟨by rfl, ?hyA6⟩) (by assumption) ?restA6
      case hyA6 => (intro w hSw; (try dsimp only at hSw); (try simp only [List.getElem_toArray, List.getElem_cons_zero, List.getElem_cons_succ]); go_simp; (try with_reducible rfl))
      (try simp only [Act.put, List.setIfInBounds_toArray, List.set_cons_zero, List.set_cons_succ, List.getElem_toArray, List.getElem_cons_zero, List.getElem_cons_succ])
      refine wpAnyH_take (i := 7) (oi := _) (v := ?vA7) rfl (by kernel_rfl) (by kernel_rfl) (by kernel_rfl) (fun _ _ _ h => h) (Or.inl ⟨by rfl, ?hyA7⟩) (by assumption) ?restA7
      case hyA7 => (intro w hSw; (try dsimp only at hSw); (try simp only [List.getElem_toArray, List.getElem_cons_zero, List.getElem_cons_succ]); go_simp; (try with_reducible rfl))
      (try simp only [Act.put, List.setIfInBounds_toArray, List.set_cons_zero, List.set_cons_succ, List.getElem_toArray, List.getElem_cons_zero, List.getElem_cons_succ])
      refine wpAnyH_take (i := 8) (oi := _) (v := ?vA8) rfl (by kernel_rfl) (by kernel_rfl) (by kernel_rfl) (fun _ _ _ h => h) (Or.inl ⟨by rfl, ?hyA8⟩) (by assumption) ?restA8
      case hyA8 => (intro w hSw; (try dsimp only at hSw); (try simp only [List.getElem_toArray, List.getElem_cons_zero, List.getElem_cons_succ]); go_simp; (try with_reducible rfl))
      (try simp only [Act.put, List.setIfInBounds_toArray, List.set_cons_zero, List.set_cons_succ, List.getElem_toArray, List.getElem_cons_zero, List.getElem_cons_succ])
      refine wpAnyH_take (i := 9) (oi := _) (v := ?vA9) rfl (by kernel_rfl) (by kernel_rfl) (by kernel_rfl) (fun _ _ _ h => h) (Or.inl ⟨by rfl, ?hyA9⟩) (by assumption) ?restA9
      case hyA9 => (intro w hSw; (try dsimp only at hSw); (try simp only [List.getElem_toArray, List.getElem_cons_zero, List.getElem_cons_succ]); go_simp; (try with_reducible rfl))
      (try simp only [Act.put, List.setIfInBounds_toArray, List.set_cons_zero, List.set_cons_succ, List.getElem_toArray, List.getElem_cons_zero, List.getElem_cons_succ])
      refine wpAnyH_take (i := 10) (oi := _) (v := ?vA10) rfl (by kernel_rfl) (by kernel_rfl) (by kernel_rfl) (fun _ _ _ h => h) (Or.inl ⟨by rfl, ?hyA10⟩) (by assumption) ?restA10
      case hyA10 => (intro w hSw; (try dsimp only at hSw); (try simp only [List.getElem_toArray, List.getElem_cons_zero, List.getElem_cons_succ]); go_simp; (try with_reducible rfl))
      (try simp only [Act.put, List.setIfInBounds_toArray, List.set_cons_zero, List.set_cons_succ, List.getElem_toArray, List.getElem_cons_zero, List.getElem_cons_succ])
      refine wpAnyH_ready (rs := [4]) (by kernel_rfl) (by simp) ?_
      refine AllReadyH.cons (o := _) rfl (fun K hK => ?_) AllReadyH.nil
      (try simp only [List.getElem_toArray, List.getElem_cons_zero, List.getElem_cons_succ])
      go_simp
      refine (HLK.out _).mono ?_
      rintro v wA ⟨rfl, hbA⟩
      have KA : Hid (Keep (fun _ => False) w8 wA) := Lib.hid (Keep.trans ((Keep.refl (fun _ => False) w8).drew) (Keep.of_below (fun _ => False) hbA) (fun _ _ x => x))
      clear hbA
      refine hK.out _ _ ?_ (fun hHeld => ?_)
      · trivial
      clear hK K
      (try simp only [Act.put, List.setIfInBounds_toArray, List.set_cons_zero, List.set_cons_succ, List.getElem_toArray, List.getElem_cons_zero, List.getElem_cons_succ])
      refine wpAnyH_take (i := 5) (oi := _) (v := ?vA5) rfl (by kernel_rfl) (by kernel_rfl) (by kernel_rfl) (fun _ _ _ h => h) (Or.inl ⟨by rfl, ?hyA5⟩) (by assumption) ?restA5
      case hyA5 => (intro w hSw; (try dsimp only at hSw); (try simp only [List.getElem_toArray, List.getElem_cons_zero, List.getElem_cons_succ]); go_simp; (try with_reducible rfl))
      (try simp only [Act.put, List.setIfInBounds_toArray, List.set_cons_zero, List.set_cons_succ, List.getElem_toArray, List.getElem_cons_zero, List.getElem_cons_succ])
      refine wpAnyH_take (i := 11) (oi := _) (v := ?vA11) rfl (by kernel_rfl) (by kernel_rfl) (by kernel_rfl) (fun _ _ _ h => h) (Or.inl ⟨by rfl, ?hyA11⟩) (by assumption) ?restA11
      case hyA11 => (intro w hSw; (try dsimp only at hSw); (try simp only [List.getElem_toArray, List.getElem_cons_zero, List.getElem_cons_succ]); go_simp; (try with_reducible rfl))
      (try simp only [Act.put, List.setIfInBounds_toArray, List.set_cons_zero, List.set_cons_succ, List.getElem_toArray, List.getElem_cons_zero, List.getElem_cons_succ])
      refine wpAnyH_take (i := 12) (oi := _) (v := ?vA12) rfl (by kernel_rfl) (by kernel_rfl) (by kernel_rfl) (fun _ _ _ h => h) (Or.inl ⟨by rfl, ?hyA12⟩) (by assumption) ?restA12
      case hyA12 => (intro w hSw; (try dsimp only at hSw); (try simp only [List.getElem_toArray, List.getElem_cons_zero, List.getElem_cons_succ]); go_simp; (try with_reducible rfl))
      (try simp only [Act.put, List.setIfInBounds_toArray, List.set_cons_zero, List.set_cons_succ, List.getElem_toArray, List.getElem_cons_zero, List.getElem_cons_succ])
      refine wpAnyH_done (by kernel_rfl) ?_ _
      refine NoPanic.normal ?_
      go_wp2_with fail
      refine (HTX.out _ KA.out).mono ?_
      rintro v w10 ⟨r, rfl, hr, hb10⟩
      obtain ⟨g, c10, rfl, hgl, hg⟩ := text_cells (W := i) (H := 2) (F := editF 88 i q n) (by omega) hr
      have K10 := KA.out.trans (Keep.of_below (fun _ => False) hb10) (fun _ _ x => x)
      have HE10 := Lib.hid (HE8.out.quiet K10)
      have HG : Hid (w10.cell? ⟨g, 0, none⟩ = some (.string T) ∧ w10.cell? ⟨g, 1, none⟩ = some (.string Lw)) := Lib.hid ⟨by rw [HTT.out.1, HK.out.1, ← edit_row0 88 i q n HK.out.2.1 HK.out.2.2.2.1 (by omega)]; exact hg 0 (by omega), by rw [HTT.out.2, ← edit_row1 88 i q n HK.out.2.2.2.1]; exact hg 1 (by omega)⟩
      have HGL := Lib.hid hgl
      have HS := Lib.hid (emu_screen w10 e L8 _ HE10.out.one.r)
      clear hr hb10 hgl hg K10 HTX HE8
      go_wp2_with fail
      refine HS.out.mono ?_
      rintro v w11 ⟨g7, c7, rfl, -, -, -, -, hb11⟩
      obtain ⟨ob, hob⟩ : ∃ ob : Obj, ob = .cells #[.int .i64 (i : Int), .int .i64 2, .slice (some ⟨g7, 0, none⟩) (i * 2) c7, .int .i64 (q : Int), .int .i64 0, .bool false] 28 := ⟨_, rfl⟩
      obtain ⟨V12, hV12⟩ : ∃ V12, V12 = w11.alloc ob := ⟨_, rfl⟩
      obtain ⟨p, hp⟩ : ∃ p, p = w11.heap.size := ⟨_, rfl⟩
      have hsv : scrV (plM i 2 (editF 88 i q n) q 0 false 0 2) (some ⟨g7, 0, none⟩) c7 = .agg #[.int .i64 (i : Int), .int .i64 2, .slice (some ⟨g7, 0, none⟩) (i * 2) c7, .int .i64 (q : Int), .int .i64 0, .bool false] := rfl
      rw [hsv]
      have K12 : Hid (Keep (fun _ => False) w10 V12) := Lib.hid (by rw [hV12]; exact (Keep.of_below (fun _ => False) hb11).trans ((Keep.refl _ w11).alloc ob) (fun _ _ x => x))
      have q12 : V12.heap[p]? = some ob := by rw [hV12, hp]; exact heap_alloc_new w11 _
      have q13 := q12
      rw [hob] at q12
      have s0 : V12.cell? ⟨g, 0, none⟩ = some (.string T) := (K12.out.cell (p := ⟨g, 0, none⟩) HGL.out (fun x => x)).trans HG.out.1
      have s1 : V12.cell? ⟨g, 1, none⟩ = some (.string Lw) := (K12.out.cell (p := ⟨g, 1, none⟩) HGL.out (fun x => x)).trans HG.out.2
      have s2 : V12.cell? ⟨p, 3, none⟩ = some (.int .i64 (q : Int)) := cell_at q12 3
      have s3 : V12.cell? ⟨p, 4, none⟩ = some (.int .i64 0) := cell_at q12 4
      have HSS := Lib.hid (And.intro s0 (And.intro s1 (And.intro s2 s3)))
      have HLT : Hid (g < V12.heap.size ∧ p < V12.heap.size) := Lib.hid ⟨Nat.lt_of_lt_of_le HGL.out K12.out.size, lt_heap q13⟩
      have HB12 : Hid (∀ V, Keep (fun _ => False) V12 V → Below w.heap.size w V) := Lib.hid (fun V kk => ((HE10.out.quiet K12.out).quiet kk).below)
      go_upto_region 25 with fail
      rw [← hp]
      rw [← hob]
      rw [← hV12]
      clear hob hV12 hp hsv q12 q13 hb11 HS HE10 K12
      refine wp_region_noPanic ?_
      refine wp_region_held_drew (S := fun w' => w'.cell? ⟨g, 0, none⟩ = some (.string T) ∧ w'.cell? ⟨g, 1, none⟩ = some (.string Lw) ∧ w'.cell? ⟨p, 3, none⟩ = some (.int .i64 (q : Int)) ∧ w'.cell? ⟨p, 4, none⟩ = some (.int .i64 0)) (by kernel_rfl) ⟨s0, s1, s2, s3⟩ (fun hHeld => ?_)
      refine wpAnyH_take (i := 0) (oi := _) (v := ?vZ0) rfl (by kernel_rfl) (by kernel_rfl) (by kernel_rfl) (fun _ _ _ h => h) (Or.inl ⟨by rfl, ?hyZ0⟩) (by assumption) ?restZ0
      case hyZ0 => (intro w hSw; (try dsimp only at hSw); (try simp only [List.getElem_toArray, List.getElem_cons_zero, List.getElem_cons_succ]); go_simp; (try with_reducible rfl))
      (try simp only [Act.put, List.setIfInBounds_toArray, List.set_cons_zero, List.set_cons_succ, List.getElem_toArray, List.getElem_cons_zero, List.getElem_cons_succ])
      refine wpAnyH_take (i := 1) (oi := _) (v := ?vZ1) rfl (by kernel_rfl) (by kernel_rfl) (by kernel_rfl) (fun _ _ _ h => h) (Or.inl ⟨by rfl, ?hyZ1⟩) (by assumption) ?restZ1
      case hyZ1 => (intro w hSw; (try dsimp only at hSw); (try simp only [List.getElem_toArray, List.getElem_cons_zero, List.getElem_cons_succ]); go_simp; (try with_reducible rfl))
      (try simp only [Act.put, List.setIfInBounds_toArray, List.set_cons_zero, List.set_cons_succ, List.getElem_toArray, List.getElem_cons_zero, List.getElem_cons_succ])
      refine wpAnyH_take (i := 2) (oi := _) (v := ?vZ2) rfl (by kernel_rfl) (by kernel_rfl) (by kernel_rfl) (fun _ _ _ h => h) (Or.inl ⟨by rfl, ?hyZ2⟩) (by assumption) ?restZ2
      case hyZ2 => (intro w hSw; (try dsimp only at hSw); (try simp only [List.getElem_toArray, List.getElem_cons_zero, List.getElem_cons_succ]); go_simp; (try with_reducible rfl))
      (try simp only [Act.put, List.setIfInBounds_toArray, List.set_cons_zero, List.set_cons_succ, List.getElem_toArray, List.getElem_cons_zero, List.getElem_cons_succ])
      refine wpAnyH_take (i := 3) (oi := _) (v := ?vZ3) rfl (by kernel_rfl) (by kernel_rfl) (by kernel_rfl) (fun _ _ _ h => h) (Or.inl ⟨by rfl, ?hyZ3⟩) (by assumption) ?restZ3
      case hyZ3 => (intro w hSw; (try dsimp only at hSw); (try simp only [List.getElem_toArray, List.getElem_cons_zero, List.getElem_cons_succ]); go_simp; (try with_reducible rfl))
      (try simp only [Act.put, List.setIfInBounds_toArray, List.set_cons_zero, List.set_cons_succ, List.getElem_toArray, List.getElem_cons_zero, List.getElem_cons_succ])
      refine wpAnyH_take (i := 4) (oi := _) (v := ?vZ4) rfl (by kernel_rfl) (by kernel_rfl) (by kernel_rfl) (fun _ _ _ h => h) (Or.inl ⟨by rfl, ?hyZ4⟩) (by assumption) ?restZ4
      case hyZ4 => (intro w hSw; (try dsimp only at hSw); (try simp only [List.getElem_toArray, List.getElem_cons_zero, List.getElem_cons_succ]); go_simp; (try with_reducible rfl))
      (try simp only [Act.put, List.setIfInBounds_toArray, List.set_cons_zero, List.set_cons_succ, List.getElem_toArray, List.getElem_cons_zero, List.getElem_cons_succ])
      refine wpAnyH_take (i := 5) (oi := _) (v := ?vZ5) rfl (by kernel_rfl) (by kernel_rfl) (by kernel_rfl) (fun _ _ _ h => h) (Or.inl ⟨by rfl, ?hyZ5⟩) (by assumption) ?restZ5
      case hyZ5 => (intro w hSw; (try dsimp only at hSw); (try simp only [List.getElem_toArray, List.getElem_cons_zero, List.getElem_cons_succ]); go_simp; (try with_reducible rfl))
      (try simp only [Act.put, List.setIfInBounds_toArray, List.set_cons_zero, List.set_cons_succ, List.getElem_toArray, List.getElem_cons_zero, List.getElem_cons_succ])
      refine wpAnyH_take (i := 6) (oi := _) (v := ?vZ6) rfl (by kernel_rfl) (by kernel_rfl) (by kernel_rfl) (fun _ _ _ h => h) (Or.inl ⟨by rfl, ?hyZ6⟩) (by assumption) ?restZ6
      case hyZ6 => (intro w hSw; (try dsimp only at hSw); (try simp only [List.getElem_toArray, List.getElem_cons_zero, List.getElem_cons_succ]); go_simp; (try with_reducible rfl))
      (try simp only [Act.put, List.setIfInBounds_toArray, List.set_cons_zero, List.set_cons_succ, List.getElem_toArray, List.getElem_cons_zero, List.getElem_cons_succ])
      refine wpAnyH_take (i := 7) (oi := _) (v := ?vZ7) rfl (by kernel_rfl) (by kernel_rfl) (by kernel_rfl) (fun _ _ _ h => h) (Or.inl ⟨by rfl, ?hyZ7⟩) (by assumption) ?restZ7
      case hyZ7 => (intro w hSw; (try dsimp only at hSw); (try simp only [List.getElem_toArray, List.getElem_cons_zero, List.getElem_cons_succ]); go_simp; (try with_reducible rfl))
      (try simp only [Act.put, List.setIfInBounds_toArray, List.set_cons_zero, List.set_cons_succ, List.getElem_toArray, List.getElem_cons_zero, List.getElem_cons_succ])
      refine wpAnyH_take (i := 8) (oi := _) (v := ?vZ8) rfl (by kernel_rfl) (by kernel_rfl) (by kernel_rfl) (fun _ _ _ h => h) (Or.inl ⟨by rfl, ?hyZ8⟩) (by assumption) ?restZ8
      case hyZ8 => (intro w hSw; (try dsimp only at hSw); (try simp only [List.getElem_toArray, List.getElem_cons_zero, List.getElem_cons_succ]); go_simp; (try with_reducible rfl))
      (try simp only [Act.put, List.setIfInBounds_toArray, List.set_cons_zero, List.set_cons_succ, List.getElem_toArray, List.getElem_cons_zero, List.getElem_cons_succ])
      refine wpAnyH_take (i := 9) (oi := _) (v := ?vZ9) rfl (by kernel_rfl) (by kernel_rfl) (by kernel_rfl) (fun _ _ _ h => h) (Or.inl ⟨by rfl, ?hyZ9⟩) (by assumption) ?restZ9
      case hyZ9 => (intro w hSw; (try dsimp only at hSw); (try simp only [List.getElem_toArray, List.getElem_cons_zero, List.getElem_cons_succ]); go_simp; (try with_reducible rfl))
      (try simp only [Act.put, List.setIfInBounds_toArray, List.set_cons_zero, List.set_cons_succ, List.getElem_toArray, List.getElem_cons_zero, List.getElem_cons_succ])
      refine wpAnyH_take (i := 10) (oi := _) (v := ?vZ10) rfl (by kernel_rfl) (by kernel_rfl) (by kernel_rfl) (fun _ _ _ h => h) (Or.inl ⟨by rfl, ?hyZ10⟩) (by assumption) ?restZ10
      case hyZ10 => (intro w hSw; (try dsimp only at hSw); (try simp only [List.getElem_toArray, List.getElem_cons_zero, List.getElem_cons_succ]); go_simp; (try with_reducible rfl))
      (try simp only [Act.put, List.setIfInBounds_toArray, List.set_cons_zero, List.set_cons_succ, List.getElem_toArray, List.getElem_cons_zero, List.getElem_cons_succ])
      refine wpAnyH_take (i := 11) (oi := _) (v := ?vZ11) rfl (by kernel_rfl) (by kernel_rfl) (by kernel_rfl) (fun _ _ _ h => h) (Or.inl ⟨by rfl, ?hyZ11⟩) (by assumption) ?restZ11
      case hyZ11 => (intro w hSw; (try dsimp only at hSw); (try simp only [List.getElem_toArray, List.getElem_cons_zero, List.getElem_cons_succ]); go_simp; (try with_reducible rfl))
      (try simp only [Act.put, List.setIfInBounds_toArray, List.set_cons_zero, List.set_cons_succ, List.getElem_toArray, List.getElem_cons_zero, List.getElem_cons_succ])
      refine wpAnyH_take (i := 12) (oi := _) (v := ?vZ12) rfl (by kernel_rfl) (by kernel_rfl) (by kernel_rfl) (fun _ _ _ h => h) (Or.inl ⟨by rfl, ?hyZ12⟩) (by assumption) ?restZ12
      case hyZ12 => (intro w hSw; (try dsimp only at hSw); (try simp only [List.getElem_toArray, List.getElem_cons_zero, List.getElem_cons_succ]); go_simp; (try with_reducible rfl))
      (try simp only [Act.put, List.setIfInBounds_toArray, List.set_cons_zero, List.set_cons_succ, List.getElem_toArray, List.getElem_cons_zero, List.getElem_cons_succ])
      refine wpAnyH_take (i := 13) (oi := _) (v := ?vZ13) rfl (by kernel_rfl) (by kernel_rfl) (by kernel_rfl) (fun _ _ _ h => h) (Or.inl ⟨by rfl, ?hyZ13⟩) (by assumption) ?restZ13
      case hyZ13 => (intro w hSw; (try dsimp only at hSw); (try simp only [List.getElem_toArray, List.getElem_cons_zero, List.getElem_cons_succ]); go_simp; (try with_reducible rfl))
      (try simp only [Act.put, List.setIfInBounds_toArray, List.set_cons_zero, List.set_cons_succ, List.getElem_toArray, List.getElem_cons_zero, List.getElem_cons_succ])
      refine wpAnyH_take (i := 14) (oi := _) (v := ?vZ14) rfl (by kernel_rfl) (by kernel_rfl) (by kernel_rfl) (fun _ _ _ h => h) (Or.inl ⟨by rfl, ?hyZ14⟩) (by assumption) ?restZ14
      case hyZ14 => (intro w hSw; (try dsimp only at hSw); (try simp only [List.getElem_toArray, List.getElem_cons_zero, List.getElem_cons_succ]); go_simp; (try with_reducible rfl))
      (try simp only [Act.put, List.setIfInBounds_toArray, List.set_cons_zero, List.set_cons_succ, List.getElem_toArray, List.getElem_cons_zero, List.getElem_cons_succ])
      refine wpAnyH_ready (rs := [15]) (by kernel_rfl) (by simp) ?_
      refine AllReadyH.cons (o := _) rfl (fun K hK => ?_) AllReadyH.nil
      (try simp only [List.getElem_toArray, List.getElem_cons_zero, List.getElem_cons_succ])
      go_simp
      refine (HLW.out _).mono ?_
      rintro v wB ⟨rfl, hbB⟩
      have KB : Hid (Keep (fun _ => False) V12 wB) := Lib.hid (Keep.trans ((Keep.refl (fun _ => False) V12).drew) (Keep.of_below (fun _ => False) hbB) (fun _ _ x => x))
      clear hbB
      refine hK.out _ _ ?_ (fun hHeld => ?_)
      · exact ⟨(KB.out.cell (p := ⟨g, 0, none⟩) HLT.out.1 (fun x => x)).trans HSS.out.1, (KB.out.cell (p := ⟨g, 1, none⟩) HLT.out.1 (fun x => x)).trans HSS.out.2.1, (KB.out.cell (p := ⟨p, 3, none⟩) HLT.out.2 (fun x => x)).trans HSS.out.2.2.1, (KB.out.cell (p := ⟨p, 4, none⟩) HLT.out.2 (fun x => x)).trans HSS.out.2.2.2⟩
      clear hK K
      (try simp only [Act.put, List.setIfInBounds_toArray, List.set_cons_zero, List.set_cons_succ, List.getElem_toArray, List.getElem_cons_zero, List.getElem_cons_succ])
      refine wpAnyH_take (i := 16) (oi := _) (v := ?vZ16) rfl (by kernel_rfl) (by kernel_rfl) (by kernel_rfl) (fun _ _ _ h => h) (Or.inl ⟨by rfl, ?hyZ16⟩) (by assumption) ?restZ16
      case hyZ16 => (intro w hSw; (try dsimp only at hSw); (try simp only [List.getElem_toArray, List.getElem_cons_zero, List.getElem_cons_succ]); go_simp; (try with_reducible rfl))
      (try simp only [Act.put, List.setIfInBounds_toArray, List.set_cons_zero, List.set_cons_succ, List.getElem_toArray, List.getElem_cons_zero, List.getElem_cons_succ])
      refine wpAnyH_take (i := 17) (oi := _) (v := ?vZ17) rfl (by kernel_rfl) (by kernel_rfl) (by kernel_rfl) (fun _ _ _ h => h) (Or.inl ⟨by rfl, ?hyZ17⟩) (by assumption) ?restZ17
      case hyZ17 => (intro w hSw; (try dsimp only at hSw); (try simp only [List.getElem_toArray, List.getElem_cons_zero, List.getElem_cons_succ]); go_simp; (try with_reducible rfl))
      (try simp only [Act.put, List.setIfInBounds_toArray, List.set_cons_zero, List.set_cons_succ, List.getElem_toArray, List.getElem_cons_zero, List.getElem_cons_succ])
      refine wpAnyH_take (i := 18) (oi := _) (v := ?vZ18) rfl (by kernel_rfl) (by kernel_rfl) (by kernel_rfl) (fun _ _ _ h => h) (Or.inl ⟨by rfl, ?hyZ18⟩) (by assumption) ?restZ18
      case hyZ18 => (intro w hSw; (try dsimp only at hSw); (try simp only [List.getElem_toArray, List.getElem_cons_zero, List.getElem_cons_succ]); go_simp; (try with_reducible rfl))
      (try simp only [Act.put, List.setIfInBounds_toArray, List.set_cons_zero, List.set_cons_succ, List.getElem_toArray, List.getElem_cons_zero, List.getElem_cons_succ])
      refine wpAnyH_take (i := 19) (oi := _) (v := ?vZ19) rfl (by kernel_rfl) (by kernel_rfl) (by kernel_rfl) (fun _ _ _ h => h) (Or.inl ⟨by rfl, ?hyZ19⟩) (by assumption) ?restZ19
      case hyZ19 => (intro w hSw; (try dsimp only at hSw); (try simp only [List.getElem_toArray, List.getElem_cons_zero, List.getElem_cons_succ]); go_simp; (try with_reducible rfl))
      (try simp only [Act.put, List.setIfInBounds_toArray, List.set_cons_zero, List.set_cons_succ, List.getElem_toArray, List.getElem_cons_zero, List.getElem_cons_succ])
      refine wpAnyH_take (i := 20) (oi := _) (v := ?vZ20) rfl (by kernel_rfl) (by kernel_rfl) (by kernel_rfl) (fun _ _ _ h => h) (Or.inl ⟨by rfl, ?hyZ20⟩) (by assumption) ?restZ20
      case hyZ20 => (intro w hSw; (try dsimp only at hSw); (try simp only [List.getElem_toArray, List.getElem_cons_zero, List.getElem_cons_succ]); go_simp; (try with_reducible rfl))
      (try simp only [Act.put, List.setIfInBounds_toArray, List.set_cons_zero, List.set_cons_succ, List.getElem_toArray, List.getElem_cons_zero, List.getElem_cons_succ])
      refine wpAnyH_take (i := 21) (oi := _) (v := ?vZ21) rfl (by kernel_rfl) (by kernel_rfl) (by kernel_rfl) (fun _ _ _ h => h) (Or.inl ⟨by rfl, ?hyZ21⟩) (by assumption) ?restZ21
      case hyZ21 => (intro w hSw; (try dsimp only at hSw); (try simp only [List.getElem_toArray, List.getElem_cons_zero, List.getElem_cons_succ]); go_simp; (try with_reducible rfl))
      (try simp only [Act.put, List.setIfInBounds_toArray, List.set_cons_zero, List.set_cons_succ, List.getElem_toArray, List.getElem_cons_zero, List.getElem_cons_succ])
      refine wpAnyH_take (i := 22) (oi := _) (v := ?vZ22) rfl (by kernel_rfl) (by kernel_rfl) (by kernel_rfl) (fun _ _ _ h => h) (Or.inl ⟨by rfl, ?hyZ22⟩) (by assumption) ?restZ22
      case hyZ22 => (intro w hSw; (try dsimp only at hSw); (try simp only [List.getElem_toArray, List.getElem_cons_zero, List.getElem_cons_succ]); go_simp; (try with_reducible rfl))
      (try simp only [Act.put, List.setIfInBounds_toArray, List.set_cons_zero, List.set_cons_succ, List.getElem_toArray, List.getElem_cons_zero, List.getElem_cons_succ])
      refine wpAnyH_take (i := 23) (oi := _) (v := ?vZ23) rfl (by kernel_rfl) (by kernel_rfl) (by kernel_rfl) (fun _ _ _ h => h) (Or.inl ⟨by rfl, ?hyZ23⟩) (by assumption) ?restZ23
      case hyZ23 => (intro w hSw; (try dsimp only at hSw); (try simp only [List.getElem_toArray, List.getElem_cons_zero, List.getElem_cons_succ]); go_simp; (try with_reducible rfl))
      (try simp only [Act.put, List.setIfInBounds_toArray, List.set_cons_zero, List.set_cons_succ, List.getElem_toArray, List.getElem_cons_zero, List.getElem_cons_succ])
      refine wpAnyH_take (i := 24) (oi := _) (v := ?vZ24) rfl (by kernel_rfl) (by kernel_rfl) (by kernel_rfl) (fun _ _ _ h => h) (Or.inl ⟨by rfl, ?hyZ24⟩) (by assumption) ?restZ24
      case hyZ24 => (intro w hSw; (try dsimp only at hSw); (try simp only [List.getElem_toArray, List.getElem_cons_zero, List.getElem_cons_succ]); go_simp; (try with_reducible rfl))
      (try simp only [Act.put, List.setIfInBounds_toArray, List.set_cons_zero, List.set_cons_succ, List.getElem_toArray, List.getElem_cons_zero, List.getElem_cons_succ])
      refine wpAnyH_take (i := 25) (oi := _) (v := ?vZ25) rfl (by kernel_rfl) (by kernel_rfl) (by kernel_rfl) (fun _ _ _ h => h) (Or.inl ⟨by rfl, ?hyZ25⟩) (by assumption) ?restZ25
      case hyZ25 => (intro w hSw; (try dsimp only at hSw); (try simp only [List.getElem_toArray, List.getElem_cons_zero, List.getElem_cons_succ]); go_simp; (try with_reducible rfl))
      (try simp only [Act.put, List.setIfInBounds_toArray, List.set_cons_zero, List.set_cons_succ, List.getElem_toArray, List.getElem_cons_zero, List.getElem_cons_succ])
      refine wpAnyH_take (i := 26) (oi := _) (v := ?vZ26) rfl (by kernel_rfl) (by kernel_rfl) (by kernel_rfl) (fun _ _ _ h => h) (Or.inl ⟨by rfl, ?hyZ26⟩) (by assumption) ?restZ26
      case hyZ26 => (intro w hSw; (try dsimp only at hSw); (try simp only [List.getElem_toArray, List.getElem_cons_zero, List.getElem_cons_succ]); go_simp; (try with_reducible rfl))
      (try simp only [Act.put, List.setIfInBounds_toArray, List.set_cons_zero, List.set_cons_succ, List.getElem_toArray, List.getElem_cons_zero, List.getElem_cons_succ])
      refine wpAnyH_take (i := 27) (oi := _) (v := ?vZ27) rfl (by kernel_rfl) (by kernel_rfl) (by kernel_rfl) (fun _ _ _ h => h) (Or.inl ⟨by rfl, ?hyZ27⟩) (by assumption) ?restZ27
      case hyZ27 => (intro w hSw; (try dsimp only at hSw); (try simp only [List.getElem_toArray, List.getElem_cons_zero, List.getElem_cons_succ]); go_simp; (try with_reducible rfl))
      (try simp only [Act.put, List.setIfInBounds_toArray, List.set_cons_zero, List.set_cons_succ, List.getElem_toArray, List.getElem_cons_zero, List.getElem_cons_succ])
      refine wpAnyH_take (i := 28) (oi := _) (v := ?vZ28) rfl (by kernel_rfl) (by kernel_rfl) (by kernel_rfl) (fun _ _ _ h => h) (Or.inl ⟨by rfl, ?hyZ28⟩) (by assumption) ?restZ28
      case hyZ28 => (intro w hSw; (try dsimp only at hSw); (try simp only [List.getElem_toArray, List.getElem_cons_zero, List.getElem_cons_succ]); go_simp; (try with_reducible rfl))
      (try simp only [Act.put, List.setIfInBounds_toArray, List.set_cons_zero, List.set_cons_succ, List.getElem_toArray, List.getElem_cons_zero, List.getElem_cons_succ])
      refine wpAnyH_take (i := 29) (oi := _) (v := ?vZ29) rfl (by kernel_rfl) (by kernel_rfl) (by kernel_rfl) (fun _ _ _ h => h) (Or.inl ⟨by rfl, ?hyZ29⟩) (by assumption) ?restZ29
      case hyZ29 => (intro w hSw; (try dsimp only at hSw); (try simp only [List.getElem_toArray, List.getElem_cons_zero, List.getElem_cons_succ]); go_simp; (try with_reducible rfl))
      (try simp only [Act.put, List.setIfInBounds_toArray, List.set_cons_zero, List.set_cons_succ, List.getElem_toArray, List.getElem_cons_zero, List.getElem_cons_succ])
      refine wpAnyH_done (by kernel_rfl) ?_ _
      refine NoPanic.normal ?_
      go_wp2_with fail
      go_ret
      exact ⟨rfl, HB12.out _ KB.out⟩

theorem walk_EmuChars (x : Int) (wx : (Lit.int .i64 x).wf = true) (c : Int) (wc : (Lit.int .i64 c).wf = true) (n : Int) (wn : (Lit.int .i64 n).wf = true) (h0 : Int) (wh : (Lit.int .i64 h0).wf = true) (w : World) :
    Calls Tryz.prog 9 #[.int .i64 x, .int .i64 c, .int .i64 n, .int .i64 h0] w fun e w' => e = .returned (.bool true) ∧ Below w.heap.size w w' := by
  by_cases h1 : n < 0
  · exact emuChars_early x c n h0 w (.inl h1)
  by_cases h2 : n > 60
  · exact emuChars_early x c n h0 w (.inr ⟨h1, h2⟩)
  obtain ⟨n0, rfl⟩ : ∃ n0 : Nat, n = (n0 : Int) := ⟨n.toNat, by omega⟩
  obtain ⟨tm, htm, tm1, tm2, z, hz, hzl⟩ : ∃ tm : Int, h0.tmod 3 = tm ∧ -3 < tm ∧ tm < 3 ∧ ∃ r : Nat, (tm + 3) % 3 = (r : Int) ∧ r < 3 := rest_twice h0 3 (by omega)
  rcases (show z = 0 ∨ z = 1 ∨ z = 2 by omega) with rfl | rfl | rfl
  · exact emuChars_0 x c h0 tm n0 (by omega) htm tm1 tm2 hz w
  · exact emuChars_1 x c h0 tm n0 (by omega) htm tm1 tm2 hz w
  · exact emuChars_2 x c h0 tm n0 (by omega) htm tm1 tm2 hz w

end Go.Proofs.YtpmnbfifpenlkaaGreatDoor
