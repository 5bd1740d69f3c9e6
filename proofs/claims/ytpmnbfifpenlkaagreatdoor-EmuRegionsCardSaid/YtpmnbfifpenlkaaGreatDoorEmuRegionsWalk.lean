/- Law EmuRegions: the walk. By program (rgn/XEmuRegionsWalk.py). Own work. -/
import Derived.Test.YtpmnbfifpenlkaaGreatDoorEmuPaintM
import Derived.Test.YtpmnbfifpenlkaaGreatDoorEmuRows
import Derived.Test.YtpmnbfifpenlkaaGreatDoorEmuRest
import Derived.Deep.QuietTactic
import Derived.BigQuiet
import Derived.IntWalk
namespace Go.Proofs.YtpmnbfifpenlkaaGreatDoor
set_option linter.unusedVariables false
set_option linter.unusedSimpArgs false
open Go.RowKit

theorem letter_kept (c : Nat) (h : c < 256) (V V' : World) (hb : Below (V.alloc (.cells #[.int .u8 (c : Int)] 5)).heap.size (V.alloc (.cells #[.int .u8 (c : Int)] 5)) V') : (convert 42 9 (.slice (some ⟨V.heap.size, 0, none⟩) 1 1)).run Tryz.prog V' = .ok (.string (bytesN [c])) V' :=
  bytes_str (W := V') (P := Tryz.prog) 42 9 5 [c] #[.int .u8 (c : Int)] V.heap.size 1 (((Keep.of_below (fun _ => False) hb).block V.heap.size (by simp) (fun x => x)).trans (heap_alloc_new V _)) rfl (by intro d hd; simp at hd; omega) rfl (by unfold maxLen; omega) Tryz.underlying42 Tryz.underlying5 Tryz.underlying9
theorem letter_drew (c : Nat) (h : c < 256) (V : World) : (convert 42 9 (.slice (some ⟨V.heap.size, 0, none⟩) 1 1)).run Tryz.prog ((V.alloc (.cells #[.int .u8 (c : Int)] 5)).drew) = .ok (.string (bytesN [c])) ((V.alloc (.cells #[.int .u8 (c : Int)] 5)).drew) :=
  bytes_str (W := (V.alloc (.cells #[.int .u8 (c : Int)] 5)).drew) (P := Tryz.prog) 42 9 5 [c] #[.int .u8 (c : Int)] V.heap.size 1 (heap_alloc_new V _) rfl (by intro d hd; simp at hd; omega) rfl (by unfold maxLen; omega) Tryz.underlying42 Tryz.underlying5 Tryz.underlying9
theorem col_nats (j : Nat) (hj : j < 20) : natsJ [⟨#[27, 91]⟩, bytesN (decN (j + 1)), ⟨#[59, 49, 72]⟩, bytesN [97 + j]] = goXY (j + 1) 1 ++ [97 + j] := by
  rw [natsJ_eq]
  simp only [List.flatMap_cons, List.flatMap_nil, List.append_nil]
  rw [natsOf_decN, natsOf_bytesN [97 + j] (by intro d hd; simp at hd; omega), show natsOf ⟨#[27, 91]⟩ = [27, 91] from rfl, show natsOf ⟨#[59, 49, 72]⟩ = [59, 49, 72] from rfl]
  unfold goXY
  rw [show decN 1 = [49] from by rw [decN, if_pos (by omega)]]
  simp
theorem col_size (j D : Nat) (hj : j < 20) : sum [⟨#[27, 91]⟩, bytesN (decN (j + 1)), ⟨#[59, 49, 72]⟩, bytesN [D]] ≤ 20 := by
  have := two_decN (n := j + 1) (by omega)
  simp only [sum, List.map_cons, List.map_nil, List.foldr_cons, List.foldr_nil, bytesN_size]
  show 2 + ((decN (j + 1)).length + (3 + (1 + 0))) ≤ 20
  omega
theorem col_stepxy {H x y0 t b y : Nat} {late : Bool} (hy : y < H) (hH : H ≤ 20) : feedM (pAt 0, plM 8 H (colF y) x y0 late t b) (goXY (y + 1) 1 ++ [97 + y]) = ((pAt 0, plM 8 H (colF (y + 1)) 1 y false t b), []) := by
  have h := pl_go (W := 8) (H := H) (F := colF y) (x := x) (y := y0) (late := late) (t := t) (b := b) 0 y (by omega) hy (by omega) hH
  rw [feedM_add, show goXY (y + 1) 1 = goXY (y + 1) (0 + 1) from rfl, h]
  dsimp only
  rw [feed_one _ _ (by omega) (by omega), pl_print0 (97 + y) (by omega) (by omega) hy]
  have e : setF (y * 8 + 0) ⟨((97 + y : Nat) : Int), .z⟩ (colF y) = colF (y + 1) := by
    funext i
    unfold setF colF
    by_cases h1 : i = y * 8 + 0
    · rw [if_pos h1, if_pos (by omega), show i / 8 = y from by omega]
    · rw [if_neg h1]
      by_cases h2 : i % 8 = 0 ∧ i / 8 < y
      · rw [if_pos h2, if_pos (by omega)]
      · rw [if_neg h2, if_neg (by omega)]
  rw [e]
  rfl
theorem reg_nats (t b : Nat) : natsJ [⟨#[27, 91]⟩, bytesN (decN (t + 1)), ⟨#[59]⟩, bytesN (decN b), ⟨#[114]⟩] = regL t b := by
  rw [natsJ_eq]
  simp only [List.flatMap_cons, List.flatMap_nil, List.append_nil]
  rw [natsOf_decN, natsOf_decN, show natsOf ⟨#[27, 91]⟩ = [27, 91] from rfl, show natsOf ⟨#[59]⟩ = [59] from rfl, show natsOf ⟨#[114]⟩ = [114] from rfl]
  unfold regL
  simp
theorem reg_size (t b : Nat) (ht : t < 40) (hb : b < 40) : sum [⟨#[27, 91]⟩, bytesN (decN (t + 1)), ⟨#[59]⟩, bytesN (decN b), ⟨#[114]⟩] ≤ 20 := by
  have := two_decN (n := t + 1) (by omega)
  have := two_decN (n := b) (by omega)
  simp only [sum, List.map_cons, List.map_nil, List.foldr_cons, List.foldr_nil, bytesN_size]
  show 2 + ((decN (t + 1)).length + (1 + ((decN b).length + (1 + 0)))) ≤ 20
  omega
/-- What stands in the row j at last. -/
def regV (t b n j i : Nat) : Nat := if i = 0 then (if t ≤ j ∧ j < b then (if j + n < b then 97 + (j + n) else 32) else 97 + j) else 32
theorem reg_text (t b n j v : Nat) (h : (if t ≤ j ∧ j < b then (if j + n < b then 97 + (j + n) else 32) else 97 + j) = v) : bytesN (tab 8 (regV t b n j)) = bytesN [v] ++ ⟨#[32, 32, 32, 32, 32, 32, 32]⟩ := by
  have e : tab 8 (regV t b n j) = [v] ++ [32, 32, 32, 32, 32, 32, 32] := by
    have h0 : regV t b n j 0 = v := by unfold regV; rw [if_pos rfl]; exact h
    show [regV t b n j 0, 32, 32, 32, 32, 32, 32, 32] = _
    rw [h0]
    rfl
  rw [e, bytesN_add]
  rfl
theorem reg_row (H t b n j : Nat) (hj : j < H) (hb : b ≤ H) (hH : H ≤ 20) : showL (rowL 8 (fun x => upF 8 t b n blankC (colF H) (j * 8 + x))) = bytesN (tab 8 (regV t b n j)) := by
  apply row_text
  intro i hi
  have hv : regV t b n j i < 128 := by unfold regV; split; split; split; omega; omega; omega; omega
  refine ⟨?_, hv⟩
  have hc : ∀ r, r < H → (colF H (r * 8 + i)).r = ((if i = 0 then 97 + r else 32 : Nat) : Int) := fun r hr => by
    unfold colF
    by_cases h : i = 0
    · rw [if_pos (by omega), if_pos h, show (r * 8 + i) / 8 = r from by omega]
    · rw [if_neg (by omega), if_neg h]; rfl
  rw [up_row i j n blankC hi]
  unfold regV
  by_cases h1 : t ≤ j ∧ j < b
  · rw [if_pos h1, if_pos h1]
    by_cases h2 : j + n < b
    · rw [if_pos h2, if_pos h2, hc _ (by omega)]
    · rw [if_neg h2, if_neg h2]
      show (32 : Int) = _
      split <;> rfl
  · rw [if_neg h1, if_neg h1, hc j hj]

set_option maxRecDepth 100000 in
set_option maxHeartbeats 1600000 in
theorem emuRegions_early (x y c n : Int) (s : ByteArray) (w : World) (h : (s.size : Int) > 200 ∨ (¬ (s.size : Int) > 200 ∧ n < 0) ∨ (¬ (s.size : Int) > 200 ∧ ¬ n < 0 ∧ n > 30)) :
    Calls Tryz.prog 10 #[.int .i64 x, .int .i64 y, .int .i64 c, .int .i64 n, .string s] w fun e w' => e = .returned (.bool true) ∧ Below w.heap.size w w' := by
  rcases h with h | ⟨h, h2⟩ | ⟨h, h2, h3⟩
  all_goals
    go_enter Tryz.func10, Tryz.ntmps10
    go_wp2_with fail
    refine (emu_alive _).mono ?_
    rintro e w1 ⟨rfl, hb⟩
    have HB := Lib.hid hb
    clear hb
    go_wp2_with fail
    go_ret
    exact ⟨rfl, HB.out⟩

set_option maxRecDepth 100000 in
set_option maxHeartbeats 12800000 in
theorem walk_EmuRegions (x : Int) (wx : (Lit.int .i64 x).wf = true) (y : Int) (wy : (Lit.int .i64 y).wf = true) (c : Int) (wc : (Lit.int .i64 c).wf = true) (n0 : Int) (wn : (Lit.int .i64 n0).wf = true) (s : ByteArray) (ws : s.size ≤ maxLen) (w : World) :
    Calls Tryz.prog 10 #[.int .i64 x, .int .i64 y, .int .i64 c, .int .i64 n0, .string s] w fun e w' => e = .returned (.bool true) ∧ Below w.heap.size w w' := by
  by_cases hs : (s.size : Int) > 200
  · exact emuRegions_early x y c n0 s w (.inl hs)
  by_cases hn1 : n0 < 0
  · exact emuRegions_early x y c n0 s w (.inr (.inl ⟨hs, hn1⟩))
  by_cases hn2 : n0 > 30
  · exact emuRegions_early x y c n0 s w (.inr (.inr ⟨hs, hn1, hn2⟩))
  obtain ⟨n, rfl⟩ : ∃ n : Nat, n0 = (n : Int) := ⟨n0.toNat, by omega⟩
  obtain ⟨H, hH⟩ : ∃ H : Nat, min (max x 1) 20 = (H : Int) := ⟨(min (max x 1) 20).toNat, by omega⟩
  have HEN := Lib.hid (ends_is 8 x 8 H rfl hH)
  have HN := Lib.hid (fun V => emu_newF V 8 x 8 H rfl hH)
  have g2 : (H : Int) ≤ 20 := by omega
  have g3 : (1 : Int) ≤ (H : Int) := by omega
  have HNUM : Hid (1 ≤ H ∧ H ≤ 20 ∧ s.size ≤ 200 ∧ n ≤ 30) := Lib.hid (by omega)
  obtain ⟨tm, htm, tm1, tm2, p, hp, hpl⟩ := rest_twice y H (by omega)
  obtain ⟨tq, htq, tq1, tq2, q, hq, hql⟩ := rest_twice c H (by omega)
  obtain ⟨b0, hb0⟩ : ∃ b0 : Nat, (q : Int) + 1 = (b0 : Int) := ⟨q + 1, by omega⟩
  have HPQ : Hid (p < H ∧ q < H ∧ b0 = q + 1) := Lib.hid (by omega)
  have hpi : (p : Int) < (H : Int) := by omega
  have hbi : (b0 : Int) ≤ (H : Int) := by omega
  have hbp : (1 : Int) ≤ (b0 : Int) := by omega
  clear hH wx wy wc wn ws hpl hql
  go_enter Tryz.func10, Tryz.ntmps10
  go_wp2_with fail
  refine (emu_alive _).mono ?_
  rintro v w1 ⟨rfl, hb1⟩
  have HE1 := Lib.hid ((Ems.start w).quiet (Keep.of_below _ hb1))
  clear hb1
  go_wp2_with fail
  refine (HN.out _).mono ?_
  rintro v w2 h2
  obtain ⟨e, L, rfl, -, he2⟩ := HE1.out.add h2
  have HE2 : Hid (Ems w w2 [⟨e, L, 0, (pAt 0, EmM.new 8 H)⟩]) := Lib.hid he2
  clear h2 he2 HE1 HN
  go_wp2_with fail
  refine (HEN.out _).mono ?_
  rintro v w3 ⟨rfl, rfl⟩
  have HF3 := Lib.hid (fed1 (k' := 1000) (m' := EmM.new 8 H) (o := (feedM (pAt 0, EmM.new 8 H) (natsJ [s, ⟨#[24, 27, 99]⟩])).2) HE2.out [s, ⟨#[24, 27, 99]⟩] 2 rfl (by omega) (by have := HNUM.out; simp only [sum, List.map_cons, List.map_nil, List.foldr_cons, List.foldr_nil]; have : (⟨#[24, 27, 99]⟩ : ByteArray).size = 3 := rfl; omega) (by omega) (by have := HNUM.out; simp only [sum, List.map_cons, List.map_nil, List.foldr_cons, List.foldr_nil]; have : (⟨#[24, 27, 99]⟩ : ByteArray).size = 3 := rfl; omega) (Prod.ext (resets_new 8 H s) rfl))
  clear HE2 HEN
  go_wp2_with fail
  refine HF3.out.mono ?_
  rintro v w4 ⟨rfl, L4, he4, -, -⟩
  have HE4a : Hid (Ems w w4 [⟨e, L4, 1000, (pAt 0, plM 8 H (colF 0) 0 0 false 0 H)⟩]) := Lib.hid (by rw [pl_new, col_new] at he4; exact he4)
  clear he4 HF3
  go_wp2_with fail
  go_loopw [12] (fun vj wr => ∃ j : Nat, vj = .int .i64 (j : Int) ∧ j ≤ H ∧ Hid (∃ L x1 y1 l2, Ems w wr [⟨e, L, 1000 + 100 * j, (pAt 0, plM 8 H (colF j) x1 y1 l2 0 H)⟩])) (fun vj _ => H - (intOf vj).toNat)
  case atStart => exact ⟨0, rfl, by omega, L4, 0, 0, false, HE4a.out⟩
  case round =>
    obtain ⟨j, rfl, hj, HEJ⟩ := hrel
    by_cases hlt : j < H
    · obtain ⟨L1, x1, y1, l1, he⟩ := HEJ.out
      have hki : (j : Int) < (H : Int) := by omega
      have hk0 : (0 : Int) ≤ (j : Int) := by omega
      have HJ := Lib.hid hlt
      have hj20 : j < 20 := by have := HNUM.out; omega
      obtain ⟨D, hD⟩ : ∃ D : Nat, D = 97 + j := ⟨_, rfl⟩
      have hdi : (97 : Int) + (j : Int) = (D : Int) := by omega
      have hD256 : D < 256 := by omega
      have hd8 := u8_small hD256
      have hw1 : IntKind.i64.wrap ((j : Int) + 1) = (j : Int) + 1 := IntWalk.i64_in _ (by omega)
      have hw2 : IntKind.i64.wrap (D : Int) = (D : Int) := IntWalk.i64_in _ (by omega)
      have HDD := Lib.hid (And.intro hD hD256)
      have HD : Hid (∀ V, Calls Tryz.prog 17 #[.int .i64 ((j : Int) + 1)] V fun e w' => e = .returned (.string (bytesN (decN (j + 1)))) ∧ Below V.heap.size V w') := Lib.hid (fun V => digits_any (j + 1) (by omega) V)
      have HMF : Hid (feedM (pAt 0, plM 8 H (colF j) x1 y1 l1 0 H) (natsJ [⟨#[27, 91]⟩, bytesN (decN (j + 1)), ⟨#[59, 49, 72]⟩, bytesN [D]]) = ((pAt 0, plM 8 H (colF (j + 1)) 1 j false 0 H), [])) := Lib.hid (by rw [hD, col_nats j hj20]; exact col_stepxy hlt HNUM.out.2.1)
      obtain ⟨m1, hm1⟩ : ∃ m1, plM 8 H (colF j) x1 y1 l1 0 H = m1 := ⟨_, rfl⟩
      obtain ⟨k1, hk1⟩ : ∃ k1, 1000 + 100 * j = k1 := ⟨_, rfl⟩
      rw [hm1] at he HMF
      rw [hk1] at he
      have HE := Lib.hid he
      have HSZ : Hid (sum [⟨#[27, 91]⟩, bytesN (decN (j + 1)), ⟨#[59, 49, 72]⟩, bytesN [D]] ≤ 10000 ∧ k1 ≤ 10000000 ∧ k1 + 2 * sum [⟨#[27, 91]⟩, bytesN (decN (j + 1)), ⟨#[59, 49, 72]⟩, bytesN [D]] ≤ 1000 + 100 * (j + 1)) := Lib.hid (by have := col_size j D hj20; omega)
      obtain ⟨dg, hdgx⟩ : ∃ dg, bytesN (decN (j + 1)) = dg := ⟨_, rfl⟩
      clear he HEJ hlt hj hD hD256 hm1 hk1 hj20
      go_upto_region 11 with fail
      refine wp_region_noPanic ?_
      refine wp_region_held_drew (S := fun w' => True) (by kernel_rfl) trivial (fun hHeld => ?_)
      refine wpAnyH_take (i := 0) (oi := _) (v := ?vT1) rfl (by kernel_rfl) (by kernel_rfl) (by kernel_rfl) (fun _ _ _ h => h) (Or.inl ⟨by rfl, ?hyT1⟩) (by assumption) ?restT1
      case hyT1 => (intro w hSw; (try dsimp only at hSw); (try simp only [List.getElem_toArray, List.getElem_cons_zero, List.getElem_cons_succ]); go_simp; (try with_reducible rfl))
      (try simp only [Act.put, List.setIfInBounds_toArray, List.set_cons_zero, List.set_cons_succ, List.getElem_toArray, List.getElem_cons_zero, List.getElem_cons_succ])
      refine wpAnyH_take (i := 1) (oi := _) (v := ?vT2) rfl (by kernel_rfl) (by kernel_rfl) (by kernel_rfl) (fun _ _ _ h => h) (Or.inl ⟨by rfl, ?hyT2⟩) (by assumption) ?restT2
      case hyT2 => (intro w hSw; (try dsimp only at hSw); (try simp only [List.getElem_toArray, List.getElem_cons_zero, List.getElem_cons_succ]); go_simp; (try with_reducible rfl))
      (try simp only [Act.put, List.setIfInBounds_toArray, List.set_cons_zero, List.set_cons_succ, List.getElem_toArray, List.getElem_cons_zero, List.getElem_cons_succ])
      refine wpAnyH_take (i := 2) (oi := _) (v := ?vT3) rfl (by kernel_rfl) (by kernel_rfl) (by kernel_rfl) (fun _ _ _ h => h) (Or.inl ⟨by rfl, ?hyT3⟩) (by assumption) ?restT3
      case hyT3 => (intro w hSw; (try dsimp only at hSw); (try simp only [List.getElem_toArray, List.getElem_cons_zero, List.getElem_cons_succ]); go_simp; (try with_reducible rfl))
      (try simp only [Act.put, List.setIfInBounds_toArray, List.set_cons_zero, List.set_cons_succ, List.getElem_toArray, List.getElem_cons_zero, List.getElem_cons_succ])
      refine wpAnyH_take (i := 4) (oi := _) (v := ?vT4) rfl (by kernel_rfl) (by kernel_rfl) (by kernel_rfl) (fun _ _ _ h => h) (Or.inl ⟨by rfl, ?hyT4⟩) (by assumption) ?restT4
      case hyT4 => (intro w hSw; (try dsimp only at hSw); (try simp only [List.getElem_toArray, List.getElem_cons_zero, List.getElem_cons_succ]); go_simp; (try with_reducible rfl))
      (try simp only [Act.put, List.setIfInBounds_toArray, List.set_cons_zero, List.set_cons_succ, List.getElem_toArray, List.getElem_cons_zero, List.getElem_cons_succ])
      refine wpAnyH_take (i := 5) (oi := _) (v := ?vT5) rfl (by kernel_rfl) (by kernel_rfl) (by kernel_rfl) (fun _ _ _ h => h) (Or.inl ⟨by rfl, ?hyT5⟩) (by assumption) ?restT5
      case hyT5 => (intro w hSw; (try dsimp only at hSw); (try simp only [List.getElem_toArray, List.getElem_cons_zero, List.getElem_cons_succ]); go_simp; (try with_reducible rfl))
      (try simp only [Act.put, List.setIfInBounds_toArray, List.set_cons_zero, List.set_cons_succ, List.getElem_toArray, List.getElem_cons_zero, List.getElem_cons_succ])
      refine wpAnyH_take (i := 6) (oi := _) (v := ?vT6) rfl (by kernel_rfl) (by kernel_rfl) (by kernel_rfl) (fun _ _ _ h => h) (Or.inl ⟨by rfl, ?hyT6⟩) (by assumption) ?restT6
      case hyT6 => (intro w hSw; (try dsimp only at hSw); (try simp only [List.getElem_toArray, List.getElem_cons_zero, List.getElem_cons_succ]); go_simp; (try with_reducible rfl))
      (try simp only [Act.put, List.setIfInBounds_toArray, List.set_cons_zero, List.set_cons_succ, List.getElem_toArray, List.getElem_cons_zero, List.getElem_cons_succ])
      refine wpAnyH_ready (rs := [3, 7]) (by kernel_rfl) (by simp) ?_
      refine AllReadyH.cons (o := _) rfl (fun K hK => ?_) (AllReadyH.cons (o := _) rfl (fun K hK => ?_) AllReadyH.nil)
      · (try simp only [List.getElem_toArray, List.getElem_cons_zero, List.getElem_cons_succ])
        go_simp
        refine (HD.out _).mono ?_
        rintro v w4 ⟨rfl, hb4⟩
        have HE4 : Hid (Ems w w4 [⟨e, L1, k1, (pAt 0, m1)⟩]) := Lib.hid ((HE.out.quiet ((Keep.refl (fun _ => False) wr).drew)).quiet (Keep.of_below _ hb4))
        have hcv4 := letter_str D HDD.out.2 w4
        rw [hdgx]
        refine hK.out _ _ ?_ (fun hHeld => ?_)
        · trivial
        clear hK K
        (try simp only [Act.put, List.setIfInBounds_toArray, List.set_cons_zero, List.set_cons_succ, List.getElem_toArray, List.getElem_cons_zero, List.getElem_cons_succ])
        refine wpAnyH_ready (rs := [7]) (by kernel_rfl) (by simp) ?_
        refine AllReadyH.cons (o := _) rfl (fun K hK => ?_) AllReadyH.nil
        (try simp only [List.getElem_toArray, List.getElem_cons_zero, List.getElem_cons_succ])
        go_simp
        refine hK.out _ _ ?_ (fun hHeld => ?_)
        · trivial
        clear hK K
        (try simp only [Act.put, List.setIfInBounds_toArray, List.set_cons_zero, List.set_cons_succ, List.getElem_toArray, List.getElem_cons_zero, List.getElem_cons_succ])
        refine wpAnyH_ready (rs := [8]) (by kernel_rfl) (by simp) ?_
        refine AllReadyH.cons (o := _) rfl (fun K hK => ?_) AllReadyH.nil
        (try simp only [List.getElem_toArray, List.getElem_cons_zero, List.getElem_cons_succ])
        go_simp
        refine hK.out _ _ ?_ (fun hHeld => ?_)
        · trivial
        clear hK K
        (try simp only [Act.put, List.setIfInBounds_toArray, List.set_cons_zero, List.set_cons_succ, List.getElem_toArray, List.getElem_cons_zero, List.getElem_cons_succ])
        refine wpAnyH_ready (rs := [9]) (by kernel_rfl) (by simp) ?_
        refine AllReadyH.cons (o := _) rfl (fun K hK => ?_) AllReadyH.nil
        (try simp only [List.getElem_toArray, List.getElem_cons_zero, List.getElem_cons_succ])
        go_simp
        refine hK.out _ _ ?_ (fun hHeld => ?_)
        · trivial
        clear hK K
        (try simp only [Act.put, List.setIfInBounds_toArray, List.set_cons_zero, List.set_cons_succ, List.getElem_toArray, List.getElem_cons_zero, List.getElem_cons_succ])
        refine wpAnyH_ready (rs := [10]) (by kernel_rfl) (by simp) ?_
        refine AllReadyH.cons (o := _) rfl (fun K hK => ?_) AllReadyH.nil
        (try simp only [List.getElem_toArray, List.getElem_cons_zero, List.getElem_cons_succ])
        go_simp
        have HF := fed1 (k' := 1000 + 100 * (j + 1)) (m' := plM 8 H (colF (j + 1)) 1 j false 0 H) (o := []) (HE4.out.quiet ((Keep.refl (fun _ => False) w4).alloc (.cells #[.int .u8 (D : Int)] 5))) [⟨#[27, 91]⟩, bytesN (decN (j + 1)), ⟨#[59, 49, 72]⟩, bytesN [D]] 4 rfl (by omega) HSZ.out.1 HSZ.out.2.1 HSZ.out.2.2 HMF.out
        rw [show (w4.alloc (.cells #[.int .u8 (D : Int)] 5)).heap.size = w4.heap.size + 1 from by simp] at HF
        rw [hdgx] at HF
        refine HF.mono ?_
        clear HF
        rintro v w5 ⟨rfl, L5, he5, -, -⟩
        have HE5 := Lib.hid he5
        clear he5
        refine hK.out _ _ ?_ (fun hHeld => ?_)
        · trivial
        clear hK K
        (try simp only [Act.put, List.setIfInBounds_toArray, List.set_cons_zero, List.set_cons_succ, List.getElem_toArray, List.getElem_cons_zero, List.getElem_cons_succ])
        refine wpAnyH_done (by kernel_rfl) ?_ _
        refine NoPanic.normal ?_
        go_wp2_with fail
        go_roundw
        case rel => exact ⟨j + 1, by go_num, HJ.out, L5, 1, j, false, HE5.out⟩
        case measure => have := HJ.out; simp [intOf]; omega
      · (try simp only [List.getElem_toArray, List.getElem_cons_zero, List.getElem_cons_succ])
        go_simp
        refine hK.out _ _ ?_ (fun hHeld => ?_)
        · trivial
        clear hK K
        (try simp only [Act.put, List.setIfInBounds_toArray, List.set_cons_zero, List.set_cons_succ, List.getElem_toArray, List.getElem_cons_zero, List.getElem_cons_succ])
        have hcv0 : (convert 42 9 (.slice (some ⟨wr.heap.size, 0, none⟩) 1 1)).run Tryz.prog ((wr.alloc (.cells #[.int .u8 (D : Int)] 5)).drew) = .ok (.string (bytesN [D])) ((wr.alloc (.cells #[.int .u8 (D : Int)] 5)).drew) := letter_drew D HDD.out.2 wr
        refine wpAnyH_ready (rs := [3, 8]) (by kernel_rfl) (by simp) ?_
        refine AllReadyH.cons (o := _) rfl (fun K hK => ?_) (AllReadyH.cons (o := _) rfl (fun K hK => ?_) AllReadyH.nil)
        · (try simp only [List.getElem_toArray, List.getElem_cons_zero, List.getElem_cons_succ])
          go_simp
          refine (HD.out _).mono ?_
          rintro v w4 ⟨rfl, hb4⟩
          have HE4 : Hid (Ems w w4 [⟨e, L1, k1, (pAt 0, m1)⟩]) := Lib.hid ((HE.out.quiet (((Keep.refl (fun _ => False) wr).drew).alloc (.cells #[.int .u8 (D : Int)] 5))).quiet (Keep.of_below _ hb4))
          have hcv5 : (convert 42 9 (.slice (some ⟨wr.heap.size, 0, none⟩) 1 1)).run Tryz.prog w4 = .ok (.string (bytesN [D])) w4 := letter_kept D HDD.out.2 wr.drew w4 hb4
          rw [hdgx]
          refine hK.out _ _ ?_ (fun hHeld => ?_)
          · trivial
          clear hK K
          (try simp only [Act.put, List.setIfInBounds_toArray, List.set_cons_zero, List.set_cons_succ, List.getElem_toArray, List.getElem_cons_zero, List.getElem_cons_succ])
          refine wpAnyH_ready (rs := [8]) (by kernel_rfl) (by simp) ?_
          refine AllReadyH.cons (o := _) rfl (fun K hK => ?_) AllReadyH.nil
          (try simp only [List.getElem_toArray, List.getElem_cons_zero, List.getElem_cons_succ])
          go_simp
          refine hK.out _ _ ?_ (fun hHeld => ?_)
          · trivial
          clear hK K
          (try simp only [Act.put, List.setIfInBounds_toArray, List.set_cons_zero, List.set_cons_succ, List.getElem_toArray, List.getElem_cons_zero, List.getElem_cons_succ])
          refine wpAnyH_ready (rs := [9]) (by kernel_rfl) (by simp) ?_
          refine AllReadyH.cons (o := _) rfl (fun K hK => ?_) AllReadyH.nil
          (try simp only [List.getElem_toArray, List.getElem_cons_zero, List.getElem_cons_succ])
          go_simp
          refine hK.out _ _ ?_ (fun hHeld => ?_)
          · trivial
          clear hK K
          (try simp only [Act.put, List.setIfInBounds_toArray, List.set_cons_zero, List.set_cons_succ, List.getElem_toArray, List.getElem_cons_zero, List.getElem_cons_succ])
          refine wpAnyH_ready (rs := [10]) (by kernel_rfl) (by simp) ?_
          refine AllReadyH.cons (o := _) rfl (fun K hK => ?_) AllReadyH.nil
          (try simp only [List.getElem_toArray, List.getElem_cons_zero, List.getElem_cons_succ])
          go_simp
          have HF := fed1 (k' := 1000 + 100 * (j + 1)) (m' := plM 8 H (colF (j + 1)) 1 j false 0 H) (o := []) (HE4.out) [⟨#[27, 91]⟩, bytesN (decN (j + 1)), ⟨#[59, 49, 72]⟩, bytesN [D]] 4 rfl (by omega) HSZ.out.1 HSZ.out.2.1 HSZ.out.2.2 HMF.out
          rw [hdgx] at HF
          refine HF.mono ?_
          clear HF
          rintro v w5 ⟨rfl, L5, he5, -, -⟩
          have HE5 := Lib.hid he5
          clear he5
          refine hK.out _ _ ?_ (fun hHeld => ?_)
          · trivial
          clear hK K
          (try simp only [Act.put, List.setIfInBounds_toArray, List.set_cons_zero, List.set_cons_succ, List.getElem_toArray, List.getElem_cons_zero, List.getElem_cons_succ])
          refine wpAnyH_done (by kernel_rfl) ?_ _
          refine NoPanic.normal ?_
          go_wp2_with fail
          go_roundw
          case rel => exact ⟨j + 1, by go_num, HJ.out, L5, 1, j, false, HE5.out⟩
          case measure => have := HJ.out; simp [intOf]; omega
        · (try simp only [List.getElem_toArray, List.getElem_cons_zero, List.getElem_cons_succ])
          go_simp
          refine hK.out _ _ ?_ (fun hHeld => ?_)
          · trivial
          clear hK K
          (try simp only [Act.put, List.setIfInBounds_toArray, List.set_cons_zero, List.set_cons_succ, List.getElem_toArray, List.getElem_cons_zero, List.getElem_cons_succ])
          refine wpAnyH_ready (rs := [3]) (by kernel_rfl) (by simp) ?_
          refine AllReadyH.cons (o := _) rfl (fun K hK => ?_) AllReadyH.nil
          (try simp only [List.getElem_toArray, List.getElem_cons_zero, List.getElem_cons_succ])
          go_simp
          refine (HD.out _).mono ?_
          rintro v w4 ⟨rfl, hb4⟩
          have HE4 : Hid (Ems w w4 [⟨e, L1, k1, (pAt 0, m1)⟩]) := Lib.hid ((HE.out.quiet (((Keep.refl (fun _ => False) wr).drew).alloc (.cells #[.int .u8 (D : Int)] 5))).quiet (Keep.of_below _ hb4))
          rw [hdgx]
          refine hK.out _ _ ?_ (fun hHeld => ?_)
          · trivial
          clear hK K
          (try simp only [Act.put, List.setIfInBounds_toArray, List.set_cons_zero, List.set_cons_succ, List.getElem_toArray, List.getElem_cons_zero, List.getElem_cons_succ])
          refine wpAnyH_ready (rs := [9]) (by kernel_rfl) (by simp) ?_
          refine AllReadyH.cons (o := _) rfl (fun K hK => ?_) AllReadyH.nil
          (try simp only [List.getElem_toArray, List.getElem_cons_zero, List.getElem_cons_succ])
          go_simp
          refine hK.out _ _ ?_ (fun hHeld => ?_)
          · trivial
          clear hK K
          (try simp only [Act.put, List.setIfInBounds_toArray, List.set_cons_zero, List.set_cons_succ, List.getElem_toArray, List.getElem_cons_zero, List.getElem_cons_succ])
          refine wpAnyH_ready (rs := [10]) (by kernel_rfl) (by simp) ?_
          refine AllReadyH.cons (o := _) rfl (fun K hK => ?_) AllReadyH.nil
          (try simp only [List.getElem_toArray, List.getElem_cons_zero, List.getElem_cons_succ])
          go_simp
          have HF := fed1 (k' := 1000 + 100 * (j + 1)) (m' := plM 8 H (colF (j + 1)) 1 j false 0 H) (o := []) (HE4.out) [⟨#[27, 91]⟩, bytesN (decN (j + 1)), ⟨#[59, 49, 72]⟩, bytesN [D]] 4 rfl (by omega) HSZ.out.1 HSZ.out.2.1 HSZ.out.2.2 HMF.out
          rw [hdgx] at HF
          refine HF.mono ?_
          clear HF
          rintro v w5 ⟨rfl, L5, he5, -, -⟩
          have HE5 := Lib.hid he5
          clear he5
          refine hK.out _ _ ?_ (fun hHeld => ?_)
          · trivial
          clear hK K
          (try simp only [Act.put, List.setIfInBounds_toArray, List.set_cons_zero, List.set_cons_succ, List.getElem_toArray, List.getElem_cons_zero, List.getElem_cons_succ])
          refine wpAnyH_done (by kernel_rfl) ?_ _
          refine NoPanic.normal ?_
          go_wp2_with fail
          go_roundw
          case rel => exact ⟨j + 1, by go_num, HJ.out, L5, 1, j, false, HE5.out⟩
          case measure => have := HJ.out; simp [intOf]; omega
    · obtain rfl : j = H := by omega
      have hki : ¬ (j : Int) < (j : Int) := by omega
      obtain ⟨L1, x1, y1, l1, he⟩ := HEJ.out
      have HE := Lib.hid he
      have HPB : Hid (∀ V, Calls Tryz.prog 17 #[.int .i64 ((p : Int) + 1)] V fun e w' => e = .returned (.string (bytesN (decN (p + 1)))) ∧ Below V.heap.size V w') := Lib.hid (fun V => digits_any (p + 1) (by have := HPQ.out; omega) V)
      have HBB := Lib.hid (fun V => digits_any b0 (by have := HPQ.out; omega) V)
      obtain ⟨j', hj'⟩ : ∃ j', j = j' + 1 := ⟨j - 1, by omega⟩
      have HJP := Lib.hid hj'
      clear he HEJ hj hlt hj'
      by_cases hlim : (p : Int) < (b0 : Int) - 1
      · have HLI : Hid (¬ b0 ≤ p + 1) := Lib.hid (by have := HPQ.out; omega)
        go_wp2_with fail
        go_quiet (fail)
        have HEq := Lib.hid (HE.out.quiet ((Keep.refl (fun _ => False) wr).drewN nq))
        clear HE
        go_wp2_with fail
        refine (HPB.out _).mono ?_
        rintro v w5 ⟨rfl, hb5⟩
        have HE5 := Lib.hid (HEq.out.quiet (Keep.of_below _ hb5))
        clear hb5 HEq
        go_wp2_with fail
        refine (HBB.out _).mono ?_
        rintro v w6 ⟨rfl, hb6⟩
        have HF := Lib.hid (fed1 (k' := 4000) (m' := plM 8 j (colF j) 0 0 false p b0) (o := []) (HE5.out.quiet (Keep.of_below _ hb6)) [⟨#[27, 91]⟩, bytesN (decN (p + 1)), ⟨#[59]⟩, bytesN (decN b0), ⟨#[114]⟩] 5 rfl (by omega) (Nat.le_trans (reg_size p b0 (by have := HPQ.out; have := HNUM.out; omega) (by have := HPQ.out; have := HNUM.out; omega)) (by omega)) (by have := HNUM.out; omega) (by have := reg_size p b0 (by have := HPQ.out; have := HNUM.out; omega) (by have := HPQ.out; have := HNUM.out; omega); have := HNUM.out; omega) (by
          rw [reg_nats, feed_reg _ p b0 (by have := HPQ.out; have := HNUM.out; omega) (by have := HPQ.out; have := HNUM.out; omega), pl_limit (by have := HPQ.out; omega) (by have := HPQ.out; omega) (by omega) (by have := HNUM.out; omega), if_neg (by have := HLI.out; omega)]))
        obtain ⟨d1, hd1⟩ : ∃ d1, bytesN (decN (p + 1)) = d1 := ⟨_, rfl⟩
        obtain ⟨d2, hd2⟩ : ∃ d2, bytesN (decN b0) = d2 := ⟨_, rfl⟩
        rw [hd1, hd2] at HF
        rw [hd1, hd2]
        clear hb6 hd1 hd2 HE5 HPB HBB
        go_wp2_with fail
        refine HF.out.mono ?_
        rintro v w7 ⟨rfl, L7, he7, -, -⟩
        have HE7 := Lib.hid he7
        have HRG := Lib.hid (emu_region w7 e L7 _ he7.one.r)
        clear he7 HF
        go_wp2_with fail
        refine HRG.out.mono ?_
        rintro v w8 ⟨rfl, k8, hw8⟩
        have HE8 : Hid (Ems w w8 [⟨e, L7, 4000, (pAt 0, plM 8 j (colF j) 0 0 false p b0)⟩]) := Lib.hid (by rw [hw8]; exact HE7.out.quiet ((Keep.refl _ w7).drewN k8))
        have htb : (((plM 8 j (colF j) 0 0 false p b0).top : Int) = (p : Int)) ∧ (((plM 8 j (colF j) 0 0 false p b0).bottom : Int) = (b0 : Int)) := ⟨rfl, rfl⟩
        rw [htb.1, htb.2]
        clear hw8 HRG HE7 htb
        have HDB : Hid (∀ V, Calls Tryz.prog 17 #[.int .i64 (b0 : Int)] V fun e w' => e = .returned (.string (bytesN (decN (q + 1)))) ∧ Below V.heap.size V w') := Lib.hid (fun V => by have h := digits_any (q + 1) (by have := HPQ.out; have := HJP.out; have := HNUM.out; omega) V; rw [← HPQ.out.2.2] at h ⊢; exact h)
        have HBP : Hid (b0 = q + 1) := Lib.hid HPQ.out.2.2
        go_wp2_with fail
        refine (HDB.out _).mono ?_
        rintro v w9 ⟨rfl, hb9⟩
        have HF9 := Lib.hid (fed1 (k' := 4100) (m' := plM 8 j (colF j) 0 q false p b0) (o := []) (HE8.out.quiet (Keep.of_below _ hb9)) [⟨#[27, 91]⟩, bytesN (decN (q + 1)), ⟨#[59, 49, 72]⟩] 3 rfl (by omega) (Nat.le_trans (goRow_size q (by have := HPQ.out; have := HBP.out; have := HNUM.out; omega)) (by omega)) (by omega) (by have := goRow_size q (by have := HPQ.out; have := HBP.out; have := HNUM.out; omega); omega) (by rw [goRow_nats]; exact pl_go 0 q (by omega) (by have := HPQ.out; have := HBP.out; omega) (by omega) HNUM.out.2.1))
        obtain ⟨d3, hd3⟩ : ∃ d3, bytesN (decN (q + 1)) = d3 := ⟨_, rfl⟩
        rw [hd3] at HF9
        rw [hd3]
        clear hb9 hd3 HE8 HDB
        go_wp2_with fail
        refine HF9.out.mono ?_
        rintro v w10 ⟨rfl, L10, he10, -, -⟩
        have HE10 : Hid (Ems w w10 [⟨e, L10, 4100 + 10 * 0, (pAt 0, plM 8 j (upF 8 p b0 0 blankC (colF j)) 0 q false p b0)⟩]) := Lib.hid (by rw [up_zero]; exact he10)
        clear he10 HF9
        go_wp2_with fail
        go_loopw [15] (fun vi wr => ∃ i : Nat, vi = .int .i64 (i : Int) ∧ i ≤ n ∧ Hid (∃ L, Ems w wr [⟨e, L, 4100 + 10 * i, (pAt 0, plM 8 j (upF 8 p b0 i blankC (colF j)) 0 q false p b0)⟩])) (fun vi _ => n - (intOf vi).toNat)
        case atStart => exact ⟨0, rfl, by omega, L10, HE10.out⟩
        case round =>
          obtain ⟨i, rfl, hi, HEI⟩ := hrel
          by_cases hlt : i < n
          · obtain ⟨LI, hei⟩ := HEI.out
            have hii : (i : Int) < (n : Int) := by omega
            have hi0 : (0 : Int) ≤ (i : Int) := by omega
            have HI := Lib.hid hlt
            have HFI := Lib.hid (fed1 (k' := 4100 + 10 * (i + 1)) (m' := plM 8 j (upF 8 p b0 (i + 1) blankC (colF j)) 0 q false p b0) (o := []) hei [⟨#[10]⟩] 1 rfl (by omega) (by decide +kernel) (by have := HNUM.out; omega) (by have : sum [(⟨#[10]⟩ : ByteArray)] = 1 := rfl; omega) (by
              have hl := feed_lf (W := 8) (H := j) (x := 0) (y := q) (t := p) (b := b0) (late := false) HBP.out.symm (by omega) (by have := HPQ.out; have := HBP.out; omega) (upF 8 p b0 i blankC (colF j))
              rw [up_more] at hl
              exact hl))
            clear hei HEI hlt hi
            go_wp2_with fail
            refine HFI.out.mono ?_
            rintro v w11 ⟨rfl, L11, he11, -, -⟩
            have HE11 := Lib.hid he11
            clear he11 HFI
            go_wp2_with fail
            go_roundw
            case rel => exact ⟨i + 1, by go_num, HI.out, L11, HE11.out⟩
            case measure => have := HI.out; simp [intOf]; omega
          · obtain rfl : i = n := by omega
            have hii : ¬ (i : Int) < (i : Int) := by omega
            obtain ⟨LI, hei⟩ := HEI.out
            have HEN2 := Lib.hid hei
            have HT := Lib.hid (emu_text wr e LI _ hei.one.r)
            clear hei HEI hi hlt
            go_wp2_with fail
            refine HT.out.mono ?_
            rintro v w12 ⟨r, rfl, hr, hb12⟩
            obtain ⟨g, c12, rfl, hgl, hg⟩ := text_cells (W := 8) (H := j) (F := upF 8 p b0 i blankC (colF j)) (by have := HNUM.out; omega) hr
            have HG : Hid (∀ r, r < j → w12.cell? ⟨g, r, none⟩ = some (.string (bytesN (tab 8 (regV p b0 i r))))) := Lib.hid (fun r hr => by rw [← reg_row j p b0 i r hr (by have := HPQ.out; omega) HNUM.out.2.1]; exact hg r hr)
            have HGL := Lib.hid hgl
            have HB12 := Lib.hid (HEN2.out.quiet (Keep.of_below _ hb12)).k
            clear hr hb12 hgl hg HT HEN2
            go_wp2_with fail
            go_loopw [17] (fun vu wr2 => ∃ u : Nat, vu = .int .i64 (u : Int) ∧ u ≤ j ∧ Hid (Keep (fun _ => False) w12 wr2)) (fun vu _ => j - (intOf vu).toNat)
            case atStart => exact ⟨0, rfl, by omega, Keep.refl _ _⟩
            case round =>
              obtain ⟨u, rfl, hu, HKU⟩ := hrel
              by_cases hlt : u < j
              · have hui : (u : Int) < (j : Int) := by omega
                have hu0 : (0 : Int) ≤ (u : Int) := by omega
                have HU := Lib.hid hlt
                obtain ⟨D, hD⟩ : ∃ D : Nat, D = 97 + u := ⟨_, rfl⟩
                have hdi : (97 : Int) + (u : Int) = (D : Int) := by omega
                have hD256 : D < 256 := by have := HNUM.out; omega
                have hDi : (D : Int) ≤ 200 := by have := HNUM.out; omega
                have hd8 := u8_small hD256
                have hcv := letter_str D hD256 wr
                have hni : (i : Int) ≤ 30 := by have := HNUM.out; omega
                obtain ⟨T, hT⟩ : ∃ T, T = bytesN (tab 8 (regV p b0 i u)) := ⟨_, rfl⟩
                have hcell : w12.cell? ⟨g, u, none⟩ = some (.string T) := by rw [hT]; exact HG.out u hlt
                have K1 : Keep (fun _ => False) w12 (wr.alloc (.cells #[.int .u8 (D : Int)] 5)) := HKU.out.trans ((Keep.refl _ wr).alloc _) (fun _ _ x => x)
                have g0 : (wr.alloc (.cells #[.int .u8 (D : Int)] 5)).cell? ⟨g, u, none⟩ = some (.string T) := (K1.cell (p := ⟨g, u, none⟩) HGL.out (fun x => x)).trans hcell
                have HC := Lib.hid hcell
                have HK1 := Lib.hid K1
                have hsz : (bytesN [D]).size + (⟨#[32, 32, 32, 32, 32, 32, 32]⟩ : ByteArray).size ≤ 9223372036854775807 := by rw [bytesN_size]; show 1 + 7 ≤ _; omega
                have HTT := Lib.hid hT
                have HDD := Lib.hid (And.intro hD hD256)
                clear hT hcell K1 hlt hu hD hD256
                by_cases hin : (p : Int) ≤ (u : Int) ∧ (u : Int) < (b0 : Int)
                · obtain ⟨hin1, hin2⟩ := hin
                  have hin1b : (u : Int) ≥ (p : Int) := by omega
                  by_cases hnb : (u : Int) + (i : Int) < (b0 : Int)
                  · obtain ⟨E, hE⟩ : ∃ E : Nat, E = 97 + (u + i) := ⟨_, rfl⟩
                    have hei : (D : Int) + (i : Int) = (E : Int) := by have := HDD.out; omega
                    have hE256 : E < 256 := by have := HNUM.out; have := HPQ.out; have := HU.out; omega
                    have he8 := u8_small hE256
                    have hcv2 := letter_str E hE256 (wr.alloc (.cells #[.int .u8 (D : Int)] 5))
                    rw [show (wr.alloc (.cells #[.int .u8 (D : Int)] 5)).heap.size = wr.heap.size + 1 from by simp] at hcv2
                    have K2 : Keep (fun _ => False) w12 ((wr.alloc (.cells #[.int .u8 (D : Int)] 5)).alloc (.cells #[.int .u8 (E : Int)] 5)) := HK1.out.trans ((Keep.refl _ _).alloc _) (fun _ _ x => x)
                    have g1 : ((wr.alloc (.cells #[.int .u8 (D : Int)] 5)).alloc (.cells #[.int .u8 (E : Int)] 5)).cell? ⟨g, u, none⟩ = some (.string T) := (K2.cell (p := ⟨g, u, none⟩) HGL.out (fun x => x)).trans HC.out
                    have HK2 := Lib.hid K2
                    have hsz2 : (bytesN [E]).size + (⟨#[32, 32, 32, 32, 32, 32, 32]⟩ : ByteArray).size ≤ 9223372036854775807 := by rw [bytesN_size]; show 1 + 7 ≤ _; omega
                    have t1 : (T.toList == (bytesN [E] ++ (⟨#[32, 32, 32, 32, 32, 32, 32]⟩ : ByteArray)).toList) = true := by
                      have e : T = bytesN [E] ++ ⟨#[32, 32, 32, 32, 32, 32, 32]⟩ := by
                        rw [HTT.out, hE]
                        exact reg_text p b0 i u _ (by rw [if_pos ⟨by omega, by omega⟩, if_pos (by omega)])
                      rw [e]; exact beq_self_eq_true _
                    clear K2 hE hE256 g0
                    go_wp2_with fail
                    go_roundw
                    case rel => exact ⟨u + 1, by go_num, HU.out, HK2.out⟩
                    case measure => have := HU.out; simp [intOf]; omega
                  · have hnb2 : ¬ ((u : Int) + (i : Int) < (b0 : Int)) := hnb
                    have t1 : (T.toList == [32, 32, 32, 32, 32, 32, 32, 32]) = true := by
                      have e : T = ⟨#[32, 32, 32, 32, 32, 32, 32, 32]⟩ := by
                        rw [HTT.out]
                        exact (reg_text p b0 i u 32 (by rw [if_pos ⟨by omega, by omega⟩, if_neg (by omega)])).trans rfl
                      rw [e]; decide +kernel
                    clear hnb
                    go_wp2_with fail
                    go_roundw
                    case rel => exact ⟨u + 1, by go_num, HU.out, HK1.out⟩
                    case measure => have := HU.out; simp [intOf]; omega
                · have t1 : (T.toList == (bytesN [D] ++ (⟨#[32, 32, 32, 32, 32, 32, 32]⟩ : ByteArray)).toList) = true := by
                    have e : T = bytesN [D] ++ ⟨#[32, 32, 32, 32, 32, 32, 32]⟩ := by
                      rw [HTT.out, HDD.out.1]
                      exact reg_text p b0 i u _ (by rw [if_neg (by omega)])
                    rw [e]; exact beq_self_eq_true _
                  by_cases h1 : (u : Int) ≥ (p : Int)
                  · have h2 : ¬ ((u : Int) < (b0 : Int)) := fun h => hin ⟨by omega, h⟩
                    clear hin
                    go_wp2_with fail
                    go_roundw
                    case rel => exact ⟨u + 1, by go_num, HU.out, HK1.out⟩
                    case measure => have := HU.out; simp [intOf]; omega
                  · clear hin
                    go_wp2_with fail
                    go_roundw
                    case rel => exact ⟨u + 1, by go_num, HU.out, HK1.out⟩
                    case measure => have := HU.out; simp [intOf]; omega
              · obtain rfl : u = j := by omega
                have hui : ¬ (u : Int) < (u : Int) := by omega
                have HB : Hid (Below w.heap.size w wr) := Lib.hid ((HB12.out.trans HKU.out (fun _ _ x => x)).below (Nat.le_refl _) (fun _ _ x => x))
                go_wp2_with fail
                go_ret
                exact ⟨rfl, HB.out⟩
      · have HLI : Hid (b0 ≤ p + 1) := Lib.hid (by have := HPQ.out; omega)
        go_wp2_with fail
        go_quiet (fail)
        have HEq := Lib.hid (HE.out.quiet ((Keep.refl (fun _ => False) wr).drewN nq))
        clear HE
        go_wp2_with fail
        refine (HPB.out _).mono ?_
        rintro v w5 ⟨rfl, hb5⟩
        have HE5 := Lib.hid (HEq.out.quiet (Keep.of_below _ hb5))
        clear hb5 HEq
        go_wp2_with fail
        refine (HBB.out _).mono ?_
        rintro v w6 ⟨rfl, hb6⟩
        have HF := Lib.hid (fed1 (k' := 4000) (m' := plM 8 j (colF j) x1 y1 l1 0 j) (o := []) (HE5.out.quiet (Keep.of_below _ hb6)) [⟨#[27, 91]⟩, bytesN (decN (p + 1)), ⟨#[59]⟩, bytesN (decN b0), ⟨#[114]⟩] 5 rfl (by omega) (Nat.le_trans (reg_size p b0 (by have := HPQ.out; have := HNUM.out; omega) (by have := HPQ.out; have := HNUM.out; omega)) (by omega)) (by have := HNUM.out; omega) (by have := reg_size p b0 (by have := HPQ.out; have := HNUM.out; omega) (by have := HPQ.out; have := HNUM.out; omega); have := HNUM.out; omega) (by
          rw [reg_nats, feed_reg _ p b0 (by have := HPQ.out; have := HNUM.out; omega) (by have := HPQ.out; have := HNUM.out; omega), pl_limit (by have := HPQ.out; omega) (by have := HPQ.out; omega) (by omega) (by have := HNUM.out; omega), if_pos (by have := HLI.out; omega)]))
        obtain ⟨d1, hd1⟩ : ∃ d1, bytesN (decN (p + 1)) = d1 := ⟨_, rfl⟩
        obtain ⟨d2, hd2⟩ : ∃ d2, bytesN (decN b0) = d2 := ⟨_, rfl⟩
        rw [hd1, hd2] at HF
        rw [hd1, hd2]
        clear hb6 hd1 hd2 HE5 HPB HBB
        go_wp2_with fail
        refine HF.out.mono ?_
        rintro v w7 ⟨rfl, L7, he7, -, -⟩
        have HE7 := Lib.hid he7
        have HRG := Lib.hid (emu_region w7 e L7 _ he7.one.r)
        clear he7 HF
        go_wp2_with fail
        refine HRG.out.mono ?_
        rintro v w8 ⟨rfl, k8, hw8⟩
        have HE8 : Hid (Ems w w8 [⟨e, L7, 4000, (pAt 0, plM 8 j (colF j) x1 y1 l1 0 j)⟩]) := Lib.hid (by rw [hw8]; exact HE7.out.quiet ((Keep.refl _ w7).drewN k8))
        have htb : (((plM 8 j (colF j) x1 y1 l1 0 j).top : Int) = (0 : Int)) ∧ (((plM 8 j (colF j) x1 y1 l1 0 j).bottom : Int) = (j : Int)) := ⟨rfl, rfl⟩
        rw [htb.1, htb.2]
        clear hw8 HRG HE7 htb
        have HDB : Hid (∀ V, Calls Tryz.prog 17 #[.int .i64 (j : Int)] V fun e w' => e = .returned (.string (bytesN (decN (j' + 1)))) ∧ Below V.heap.size V w') := Lib.hid (fun V => by have h := digits_any (j' + 1) (by have := HPQ.out; have := HJP.out; have := HNUM.out; omega) V; rw [← HJP.out] at h ⊢; exact h)
        have HBP : Hid (j = j' + 1) := Lib.hid HJP.out
        go_wp2_with fail
        refine (HDB.out _).mono ?_
        rintro v w9 ⟨rfl, hb9⟩
        have HF9 := Lib.hid (fed1 (k' := 4100) (m' := plM 8 j (colF j) 0 j' false 0 j) (o := []) (HE8.out.quiet (Keep.of_below _ hb9)) [⟨#[27, 91]⟩, bytesN (decN (j' + 1)), ⟨#[59, 49, 72]⟩] 3 rfl (by omega) (Nat.le_trans (goRow_size j' (by have := HPQ.out; have := HBP.out; have := HNUM.out; omega)) (by omega)) (by omega) (by have := goRow_size j' (by have := HPQ.out; have := HBP.out; have := HNUM.out; omega); omega) (by rw [goRow_nats]; exact pl_go 0 j' (by omega) (by have := HPQ.out; have := HBP.out; omega) (by omega) HNUM.out.2.1))
        obtain ⟨d3, hd3⟩ : ∃ d3, bytesN (decN (j' + 1)) = d3 := ⟨_, rfl⟩
        rw [hd3] at HF9
        rw [hd3]
        clear hb9 hd3 HE8 HDB
        go_wp2_with fail
        refine HF9.out.mono ?_
        rintro v w10 ⟨rfl, L10, he10, -, -⟩
        have HE10 : Hid (Ems w w10 [⟨e, L10, 4100 + 10 * 0, (pAt 0, plM 8 j (upF 8 0 j 0 blankC (colF j)) 0 j' false 0 j)⟩]) := Lib.hid (by rw [up_zero]; exact he10)
        clear he10 HF9
        go_wp2_with fail
        go_loopw [15] (fun vi wr => ∃ i : Nat, vi = .int .i64 (i : Int) ∧ i ≤ n ∧ Hid (∃ L, Ems w wr [⟨e, L, 4100 + 10 * i, (pAt 0, plM 8 j (upF 8 0 j i blankC (colF j)) 0 j' false 0 j)⟩])) (fun vi _ => n - (intOf vi).toNat)
        case atStart => exact ⟨0, rfl, by omega, L10, HE10.out⟩
        case round =>
          obtain ⟨i, rfl, hi, HEI⟩ := hrel
          by_cases hlt : i < n
          · obtain ⟨LI, hei⟩ := HEI.out
            have hii : (i : Int) < (n : Int) := by omega
            have hi0 : (0 : Int) ≤ (i : Int) := by omega
            have HI := Lib.hid hlt
            have HFI := Lib.hid (fed1 (k' := 4100 + 10 * (i + 1)) (m' := plM 8 j (upF 8 0 j (i + 1) blankC (colF j)) 0 j' false 0 j) (o := []) hei [⟨#[10]⟩] 1 rfl (by omega) (by decide +kernel) (by have := HNUM.out; omega) (by have : sum [(⟨#[10]⟩ : ByteArray)] = 1 := rfl; omega) (by
              have hl := feed_lf (W := 8) (H := j) (x := 0) (y := j') (t := 0) (b := j) (late := false) HBP.out.symm (by omega) (by have := HPQ.out; have := HBP.out; omega) (upF 8 0 j i blankC (colF j))
              rw [up_more] at hl
              exact hl))
            clear hei HEI hlt hi
            go_wp2_with fail
            refine HFI.out.mono ?_
            rintro v w11 ⟨rfl, L11, he11, -, -⟩
            have HE11 := Lib.hid he11
            clear he11 HFI
            go_wp2_with fail
            go_roundw
            case rel => exact ⟨i + 1, by go_num, HI.out, L11, HE11.out⟩
            case measure => have := HI.out; simp [intOf]; omega
          · obtain rfl : i = n := by omega
            have hii : ¬ (i : Int) < (i : Int) := by omega
            obtain ⟨LI, hei⟩ := HEI.out
            have HEN2 := Lib.hid hei
            have HT := Lib.hid (emu_text wr e LI _ hei.one.r)
            clear hei HEI hi hlt
            go_wp2_with fail
            refine HT.out.mono ?_
            rintro v w12 ⟨r, rfl, hr, hb12⟩
            obtain ⟨g, c12, rfl, hgl, hg⟩ := text_cells (W := 8) (H := j) (F := upF 8 0 j i blankC (colF j)) (by have := HNUM.out; omega) hr
            have HG : Hid (∀ r, r < j → w12.cell? ⟨g, r, none⟩ = some (.string (bytesN (tab 8 (regV 0 j i r))))) := Lib.hid (fun r hr => by rw [← reg_row j 0 j i r hr (by have := HPQ.out; omega) HNUM.out.2.1]; exact hg r hr)
            have HGL := Lib.hid hgl
            have HB12 := Lib.hid (HEN2.out.quiet (Keep.of_below _ hb12)).k
            clear hr hb12 hgl hg HT HEN2
            go_wp2_with fail
            go_loopw [17] (fun vu wr2 => ∃ u : Nat, vu = .int .i64 (u : Int) ∧ u ≤ j ∧ Hid (Keep (fun _ => False) w12 wr2)) (fun vu _ => j - (intOf vu).toNat)
            case atStart => exact ⟨0, rfl, by omega, Keep.refl _ _⟩
            case round =>
              obtain ⟨u, rfl, hu, HKU⟩ := hrel
              by_cases hlt : u < j
              · have hui : (u : Int) < (j : Int) := by omega
                have hu0 : (0 : Int) ≤ (u : Int) := by omega
                have HU := Lib.hid hlt
                obtain ⟨D, hD⟩ : ∃ D : Nat, D = 97 + u := ⟨_, rfl⟩
                have hdi : (97 : Int) + (u : Int) = (D : Int) := by omega
                have hD256 : D < 256 := by have := HNUM.out; omega
                have hDi : (D : Int) ≤ 200 := by have := HNUM.out; omega
                have hd8 := u8_small hD256
                have hcv := letter_str D hD256 wr
                have hni : (i : Int) ≤ 30 := by have := HNUM.out; omega
                obtain ⟨T, hT⟩ : ∃ T, T = bytesN (tab 8 (regV 0 j i u)) := ⟨_, rfl⟩
                have hcell : w12.cell? ⟨g, u, none⟩ = some (.string T) := by rw [hT]; exact HG.out u hlt
                have K1 : Keep (fun _ => False) w12 (wr.alloc (.cells #[.int .u8 (D : Int)] 5)) := HKU.out.trans ((Keep.refl _ wr).alloc _) (fun _ _ x => x)
                have g0 : (wr.alloc (.cells #[.int .u8 (D : Int)] 5)).cell? ⟨g, u, none⟩ = some (.string T) := (K1.cell (p := ⟨g, u, none⟩) HGL.out (fun x => x)).trans hcell
                have HC := Lib.hid hcell
                have HK1 := Lib.hid K1
                have hsz : (bytesN [D]).size + (⟨#[32, 32, 32, 32, 32, 32, 32]⟩ : ByteArray).size ≤ 9223372036854775807 := by rw [bytesN_size]; show 1 + 7 ≤ _; omega
                have HTT := Lib.hid hT
                have HDD := Lib.hid (And.intro hD hD256)
                clear hT hcell K1 hlt hu hD hD256
                by_cases hin : (0 : Int) ≤ (u : Int) ∧ (u : Int) < (j : Int)
                · obtain ⟨hin1, hin2⟩ := hin
                  have hin1b : (u : Int) ≥ (0 : Int) := by omega
                  by_cases hnb : (u : Int) + (i : Int) < (j : Int)
                  · obtain ⟨E, hE⟩ : ∃ E : Nat, E = 97 + (u + i) := ⟨_, rfl⟩
                    have hei : (D : Int) + (i : Int) = (E : Int) := by have := HDD.out; omega
                    have hE256 : E < 256 := by have := HNUM.out; have := HPQ.out; have := HU.out; omega
                    have he8 := u8_small hE256
                    have hcv2 := letter_str E hE256 (wr.alloc (.cells #[.int .u8 (D : Int)] 5))
                    rw [show (wr.alloc (.cells #[.int .u8 (D : Int)] 5)).heap.size = wr.heap.size + 1 from by simp] at hcv2
                    have K2 : Keep (fun _ => False) w12 ((wr.alloc (.cells #[.int .u8 (D : Int)] 5)).alloc (.cells #[.int .u8 (E : Int)] 5)) := HK1.out.trans ((Keep.refl _ _).alloc _) (fun _ _ x => x)
                    have g1 : ((wr.alloc (.cells #[.int .u8 (D : Int)] 5)).alloc (.cells #[.int .u8 (E : Int)] 5)).cell? ⟨g, u, none⟩ = some (.string T) := (K2.cell (p := ⟨g, u, none⟩) HGL.out (fun x => x)).trans HC.out
                    have HK2 := Lib.hid K2
                    have hsz2 : (bytesN [E]).size + (⟨#[32, 32, 32, 32, 32, 32, 32]⟩ : ByteArray).size ≤ 9223372036854775807 := by rw [bytesN_size]; show 1 + 7 ≤ _; omega
                    have t1 : (T.toList == (bytesN [E] ++ (⟨#[32, 32, 32, 32, 32, 32, 32]⟩ : ByteArray)).toList) = true := by
                      have e : T = bytesN [E] ++ ⟨#[32, 32, 32, 32, 32, 32, 32]⟩ := by
                        rw [HTT.out, hE]
                        exact reg_text 0 j i u _ (by rw [if_pos ⟨by omega, by omega⟩, if_pos (by omega)])
                      rw [e]; exact beq_self_eq_true _
                    clear K2 hE hE256 g0
                    go_wp2_with fail
                    go_roundw
                    case rel => exact ⟨u + 1, by go_num, HU.out, HK2.out⟩
                    case measure => have := HU.out; simp [intOf]; omega
                  · have hnb2 : ¬ ((u : Int) + (i : Int) < (j : Int)) := hnb
                    have t1 : (T.toList == [32, 32, 32, 32, 32, 32, 32, 32]) = true := by
                      have e : T = ⟨#[32, 32, 32, 32, 32, 32, 32, 32]⟩ := by
                        rw [HTT.out]
                        exact (reg_text 0 j i u 32 (by rw [if_pos ⟨by omega, by omega⟩, if_neg (by omega)])).trans rfl
                      rw [e]; decide +kernel
                    clear hnb
                    go_wp2_with fail
                    go_roundw
                    case rel => exact ⟨u + 1, by go_num, HU.out, HK1.out⟩
                    case measure => have := HU.out; simp [intOf]; omega
                · exact absurd ⟨by omega, by omega⟩ hin
              · obtain rfl : u = j := by omega
                have hui : ¬ (u : Int) < (u : Int) := by omega
                have HB : Hid (Below w.heap.size w wr) := Lib.hid ((HB12.out.trans HKU.out (fun _ _ x => x)).below (Nat.le_refl _) (fun _ _ x => x))
                go_wp2_with fail
                go_ret
                exact ⟨rfl, HB.out⟩

end Go.Proofs.YtpmnbfifpenlkaaGreatDoor
