/- Law EmuMoves: the walk. By program (rgn/XEmuMovesWalk.py). Own work. -/
import Derived.Test.YtmlceohmjkaadaaGreatDoorEmuMovesM
import Derived.Test.YtmlceohmjkaadaaGreatDoorEmuLaw2
import Derived.Test.YtmlceohmjkaadaaGreatDoorPairs
import Derived.Test.YtmlceohmjkaadaaGreatDoorEmuRest
import Derived.IntWalk
namespace Go.Proofs.YtmlceohmjkaadaaGreatDoor
set_option linter.unusedVariables false
set_option linter.unusedSimpArgs false
open Go.RowKit

theorem stepXY_nats (n f : Nat) (F : ByteArray) (hF : natsOf F = [f]) : natsJ [⟨#[27, 91]⟩, bytesN (decN n), F] = stepXY n f := by
  rw [natsJ_eq]
  simp only [List.flatMap_cons, List.flatMap_nil, List.append_nil]
  rw [natsOf_decN, hF, show natsOf ⟨#[27, 91]⟩ = [27, 91] from rfl]
  rfl
theorem stepXY_size (n : Nat) (hn : n < 100) (F : ByteArray) (hF : F.size ≤ 4) : sum [⟨#[27, 91]⟩, bytesN (decN n), F] ≤ 10 := by
  have := two_decN hn
  simp only [sum, List.map_cons, List.map_nil, List.foldr_cons, List.foldr_nil, List.sum_cons, List.sum_nil, bytesN_size]
  show 2 + ((decN n).length + (F.size + 0)) ≤ 10
  omega
theorem rest50 (a : Int) : ∃ tm : Int, a.tmod 50 = tm ∧ -50 < tm ∧ tm < 50 ∧ ∃ r : Nat, (tm + 50) % 50 = (r : Int) ∧ r < 50 := rest_twice a 50 (by omega)
theorem rest4 (a : Int) : ∃ tm : Int, a.tmod 4 = tm ∧ -4 < tm ∧ tm < 4 ∧ ∃ r : Nat, (tm + 4) % 4 = (r : Int) ∧ r < 4 := rest_twice a 4 (by omega)

set_option maxRecDepth 100000 in
set_option maxHeartbeats 1600000 in
theorem emuMoves_early (x y : Int) (A : Option Addr) (n cap : Nat) (w : World) (h : (n : Int) > 40) :
    Calls Tryz.prog 6 #[.int .i64 x, .int .i64 y, .slice A n cap] w fun e w' => e = .returned (.bool true) ∧ Below w.heap.size w w' := by
  go_enter Tryz.func6, Tryz.ntmps6
  go_wp2_with fail
  refine (emu_alive _).mono ?_
  rintro e w1 ⟨rfl, hb⟩
  have HB := Lib.hid hb
  clear hb
  go_wp2_with fail
  go_ret
  exact ⟨rfl, HB.out⟩

set_option maxRecDepth 100000 in
set_option maxHeartbeats 6400000 in
theorem walk_EmuMoves (x : Int) (wx : (Lit.int .i64 x).wf = true) (y : Int) (wy : (Lit.int .i64 y).wf = true) (A : Option Addr) (n cap : Nat) (ops : List (Int × Int)) (w : World) (hops : Structs (Ints2 w) 2 w A n ops) :
    Calls Tryz.prog 6 #[.int .i64 x, .int .i64 y, .slice A n cap] w fun e w' => e = .returned (.bool true) ∧ Below w.heap.size w w' := by
  by_cases hn : (n : Int) > 40
  · exact emuMoves_early x y A n cap w hn
  obtain ⟨W, hW⟩ : ∃ W : Nat, min (max x 2) 40 = (W : Int) := ⟨(min (max x 2) 40).toNat, by omega⟩
  obtain ⟨H, hH⟩ : ∃ H : Nat, min (max y 1) 20 = (H : Int) := ⟨(min (max y 1) 20).toNat, by omega⟩
  have HEN := Lib.hid (ends_is x y W H hW hH)
  have HN := Lib.hid (fun V => emu_newF V x y W H hW hH)
  have hW1 : (2 : Int) ≤ (W : Int) := by omega
  have hW2 : (W : Int) ≤ 40 := by omega
  have hH1 : (1 : Int) ≤ (H : Int) := by omega
  have hH2 : (H : Int) ≤ 20 := by omega
  have HO := Lib.hid hops
  clear hW hH wx wy hops
  go_enter Tryz.func6, Tryz.ntmps6
  go_wp2_with fail
  refine (emu_alive _).mono ?_
  rintro v w1 ⟨rfl, hb1⟩
  have HE1 := Lib.hid ((Ems.start w).quiet (Keep.of_below _ hb1))
  clear hb1
  go_wp2_with fail
  refine (HN.out _).mono ?_
  rintro v w2 h2
  obtain ⟨e, L, rfl, -, he2⟩ := HE1.out.add h2
  have HE2 : Hid (Ems w w2 [⟨e, L, 0, (pAt 0, EmM.new W H)⟩]) := Lib.hid he2
  clear h2 he2 HE1 HN
  go_wp2_with fail
  refine (HEN.out _).mono ?_
  rintro v w3 ⟨rfl, rfl⟩
  go_wp2_with fail
  go_loopw [8, 9, 10] (fun vx vy vi wr => ∃ a b i : Nat, vx = .int .i64 (a : Int) ∧ vy = .int .i64 (b : Int) ∧ vi = .int .i64 (i : Int) ∧ a < W ∧ b < H ∧ i ≤ n ∧ Hid (∃ L m, AtXY m W H a b ∧ Ems w wr [⟨e, L, 20 * i, (pAt 0, m)⟩])) (fun _ _ vi _ => n - (intOf vi).toNat)
  case atStart => exact ⟨0, 0, 0, rfl, rfl, rfl, by omega, by omega, by omega, L, _, AtXY.new W H, HE2.out⟩
  case round =>
    obtain ⟨a, b, i, rfl, rfl, rfl, ha, hb, hi, HE⟩ := hrel
    by_cases hlt : i < n
    · have hki : (i : Int) < (n : Int) := by omega
      have hk0 : (0 : Int) ≤ (i : Int) := by omega
      obtain ⟨bb, off, ⟨a1, a2⟩, rfl, hbl, _, ho0, ho1⟩ := HO.out.at hlt
      obtain ⟨L1, m1, hat, he⟩ := HE.out
      have c0 : wr.cell? ⟨bb, off + i * 2, none⟩ = some (.int .i64 a1) := (he.k.cell (p := ⟨bb, off + i * 2, none⟩) hbl (fun x => x)).trans ho0
      have c1 : wr.cell? ⟨bb, off + i * 2 + 1, none⟩ = some (.int .i64 a2) := (he.k.cell (p := ⟨bb, off + i * 2 + 1, none⟩) hbl (fun x => x)).trans ho1
      obtain ⟨tm, htm, tm1, tm2, r, hr, hr50⟩ := rest50 a2
      obtain ⟨tq, htq, tq1, tq2, q, hq, hq4⟩ := rest4 a1
      obtain ⟨k, hk⟩ : ∃ k : Nat, max (r : Int) 1 = (k : Int) := ⟨max r 1, by omega⟩
      have hkr : Hid (max r 1 = k) := Lib.hid (by omega)
      have hk1 : (1 : Int) ≤ (k : Int) := by omega
      have hk2 : (k : Int) ≤ 50 := by omega
      have HD := Lib.hid (fun V => digits_any r (by omega) V)
      have HEE := Lib.hid he
      have HAT := Lib.hid hat
      have HII : Hid (i < n ∧ n ≤ 40) := Lib.hid (by omega)
      have HAB : Hid (a < W ∧ b < H ∧ W ≤ 40 ∧ H ≤ 20) := Lib.hid (by omega)
      have HR50 := Lib.hid hr50
      clear he hat ho0 ho1 HE hr50
      rcases (show q = 0 ∨ q = 1 ∨ q = 2 ∨ q = 3 by omega) with rfl | rfl | rfl | rfl
      · have hq' : (tq + 4) % 4 = (0 : Int) := by omega
        obtain ⟨b', hb'⟩ : ∃ b' : Nat, max ((b : Int) - (k : Int)) 0 = (b' : Int) := ⟨b - k, by omega⟩
        have HM : Hid (∃ m', feedM (pAt 0, m1) (stepXY r 65) = ((pAt 0, m'), []) ∧ AtXY m' W H a b') := Lib.hid (moves_says HAT.out HAB.out.1 HAB.out.2.1 r 65 a b' (by have := HR50.out; omega) (by have := hkr.out; rw [this]; have := HAB.out; omega))
        have HV : Hid (a < W ∧ b' < H) := Lib.hid (by have := HAB.out; omega)
        clear hq hq4
        go_wp2_with fail
        refine (HD.out _).mono ?_
        rintro v w4 ⟨rfl, hb4⟩
        obtain ⟨m2, hf, hat2⟩ := HM.out
        have HF := Lib.hid (fed1 (k' := 20 * i + 20) (HEE.out.quiet (Keep.of_below _ hb4)) [⟨#[27, 91]⟩, bytesN (decN r), ⟨#[65]⟩] 3 rfl (by omega) (by have := stepXY_size r (by have := HR50.out; omega) ⟨#[65]⟩ (by decide); omega) (by have := HII.out; omega) (by have := stepXY_size r (by have := HR50.out; omega) ⟨#[65]⟩ (by decide); omega) ((congrArg (feedM (pAt 0, m1)) (stepXY_nats r 65 ⟨#[65]⟩ rfl)).trans hf))
        have HAT2 := Lib.hid hat2
        obtain ⟨dg, hdg⟩ : ∃ dg, bytesN (decN r) = dg := ⟨_, rfl⟩
        rw [hdg] at HF ⊢
        clear hb4 hf hat2 HM hdg
        go_wp2_with fail
        refine HF.out.mono ?_
        rintro v w5 ⟨rfl, L5, he5, -, -⟩
        have HE5 := Lib.hid he5
        have HS := Lib.hid (emu_screen w5 e L5 m2 he5.one.r)
        clear he5 HF
        go_wp2_with fail
        refine HS.out.mono ?_
        rintro v w6 ⟨g, c, rfl, -, -, -, -, hb6⟩
        have HE6 := Lib.hid (HE5.out.quiet (Keep.of_below _ hb6))
        unfold scrV
        rw [HAT2.out.eX, HAT2.out.eY]
        clear hb6 HS HE5
        go_wp2_with fail
        go_roundw
        case rel => exact ⟨a, b', i + 1, rfl, rfl, by go_num, HV.out.1, HV.out.2, by omega, ⟨L5, m2, HAT2.out, (HE6.out.quiet ((Keep.refl _ w6).alloc _)).more1 (by omega)⟩⟩
        case measure => simp [intOf]; omega
      · have hq' : (tq + 4) % 4 = (1 : Int) := by omega
        obtain ⟨b', hb'⟩ : ∃ b' : Nat, min ((b : Int) + (k : Int)) ((H : Int) - 1) = (b' : Int) := ⟨min (b + k) (H - 1), by omega⟩
        have HM : Hid (∃ m', feedM (pAt 0, m1) (stepXY r 66) = ((pAt 0, m'), []) ∧ AtXY m' W H a b') := Lib.hid (moves_says HAT.out HAB.out.1 HAB.out.2.1 r 66 a b' (by have := HR50.out; omega) (by have := hkr.out; rw [this]; have := HAB.out; omega))
        have HV : Hid (a < W ∧ b' < H) := Lib.hid (by have := HAB.out; omega)
        clear hq hq4
        go_wp2_with fail
        refine (HD.out _).mono ?_
        rintro v w4 ⟨rfl, hb4⟩
        obtain ⟨m2, hf, hat2⟩ := HM.out
        have HF := Lib.hid (fed1 (k' := 20 * i + 20) (HEE.out.quiet (Keep.of_below _ hb4)) [⟨#[27, 91]⟩, bytesN (decN r), ⟨#[66]⟩] 3 rfl (by omega) (by have := stepXY_size r (by have := HR50.out; omega) ⟨#[66]⟩ (by decide); omega) (by have := HII.out; omega) (by have := stepXY_size r (by have := HR50.out; omega) ⟨#[66]⟩ (by decide); omega) ((congrArg (feedM (pAt 0, m1)) (stepXY_nats r 66 ⟨#[66]⟩ rfl)).trans hf))
        have HAT2 := Lib.hid hat2
        obtain ⟨dg, hdg⟩ : ∃ dg, bytesN (decN r) = dg := ⟨_, rfl⟩
        rw [hdg] at HF ⊢
        clear hb4 hf hat2 HM hdg
        go_wp2_with fail
        refine HF.out.mono ?_
        rintro v w5 ⟨rfl, L5, he5, -, -⟩
        have HE5 := Lib.hid he5
        have HS := Lib.hid (emu_screen w5 e L5 m2 he5.one.r)
        clear he5 HF
        go_wp2_with fail
        refine HS.out.mono ?_
        rintro v w6 ⟨g, c, rfl, -, -, -, -, hb6⟩
        have HE6 := Lib.hid (HE5.out.quiet (Keep.of_below _ hb6))
        unfold scrV
        rw [HAT2.out.eX, HAT2.out.eY]
        clear hb6 HS HE5
        go_wp2_with fail
        go_roundw
        case rel => exact ⟨a, b', i + 1, rfl, rfl, by go_num, HV.out.1, HV.out.2, by omega, ⟨L5, m2, HAT2.out, (HE6.out.quiet ((Keep.refl _ w6).alloc _)).more1 (by omega)⟩⟩
        case measure => simp [intOf]; omega
      · have hq' : (tq + 4) % 4 = (2 : Int) := by omega
        obtain ⟨a', ha'⟩ : ∃ a' : Nat, min ((a : Int) + (k : Int)) ((W : Int) - 1) = (a' : Int) := ⟨min (a + k) (W - 1), by omega⟩
        have HM : Hid (∃ m', feedM (pAt 0, m1) (stepXY r 67) = ((pAt 0, m'), []) ∧ AtXY m' W H a' b) := Lib.hid (moves_says HAT.out HAB.out.1 HAB.out.2.1 r 67 a' b (by have := HR50.out; omega) (by have := hkr.out; rw [this]; have := HAB.out; omega))
        have HV : Hid (a' < W ∧ b < H) := Lib.hid (by have := HAB.out; omega)
        clear hq hq4
        go_wp2_with fail
        refine (HD.out _).mono ?_
        rintro v w4 ⟨rfl, hb4⟩
        obtain ⟨m2, hf, hat2⟩ := HM.out
        have HF := Lib.hid (fed1 (k' := 20 * i + 20) (HEE.out.quiet (Keep.of_below _ hb4)) [⟨#[27, 91]⟩, bytesN (decN r), ⟨#[67]⟩] 3 rfl (by omega) (by have := stepXY_size r (by have := HR50.out; omega) ⟨#[67]⟩ (by decide); omega) (by have := HII.out; omega) (by have := stepXY_size r (by have := HR50.out; omega) ⟨#[67]⟩ (by decide); omega) ((congrArg (feedM (pAt 0, m1)) (stepXY_nats r 67 ⟨#[67]⟩ rfl)).trans hf))
        have HAT2 := Lib.hid hat2
        obtain ⟨dg, hdg⟩ : ∃ dg, bytesN (decN r) = dg := ⟨_, rfl⟩
        rw [hdg] at HF ⊢
        clear hb4 hf hat2 HM hdg
        go_wp2_with fail
        refine HF.out.mono ?_
        rintro v w5 ⟨rfl, L5, he5, -, -⟩
        have HE5 := Lib.hid he5
        have HS := Lib.hid (emu_screen w5 e L5 m2 he5.one.r)
        clear he5 HF
        go_wp2_with fail
        refine HS.out.mono ?_
        rintro v w6 ⟨g, c, rfl, -, -, -, -, hb6⟩
        have HE6 := Lib.hid (HE5.out.quiet (Keep.of_below _ hb6))
        unfold scrV
        rw [HAT2.out.eX, HAT2.out.eY]
        clear hb6 HS HE5
        go_wp2_with fail
        go_roundw
        case rel => exact ⟨a', b, i + 1, rfl, rfl, by go_num, HV.out.1, HV.out.2, by omega, ⟨L5, m2, HAT2.out, (HE6.out.quiet ((Keep.refl _ w6).alloc _)).more1 (by omega)⟩⟩
        case measure => simp [intOf]; omega
      · have hq' : (tq + 4) % 4 = (3 : Int) := by omega
        obtain ⟨a', ha'⟩ : ∃ a' : Nat, max ((a : Int) - (k : Int)) 0 = (a' : Int) := ⟨a - k, by omega⟩
        have HM : Hid (∃ m', feedM (pAt 0, m1) (stepXY r 68) = ((pAt 0, m'), []) ∧ AtXY m' W H a' b) := Lib.hid (moves_says HAT.out HAB.out.1 HAB.out.2.1 r 68 a' b (by have := HR50.out; omega) (by have := hkr.out; rw [this]; have := HAB.out; omega))
        have HV : Hid (a' < W ∧ b < H) := Lib.hid (by have := HAB.out; omega)
        clear hq hq4
        go_wp2_with fail
        refine (HD.out _).mono ?_
        rintro v w4 ⟨rfl, hb4⟩
        obtain ⟨m2, hf, hat2⟩ := HM.out
        have HF := Lib.hid (fed1 (k' := 20 * i + 20) (HEE.out.quiet (Keep.of_below _ hb4)) [⟨#[27, 91]⟩, bytesN (decN r), ⟨#[68]⟩] 3 rfl (by omega) (by have := stepXY_size r (by have := HR50.out; omega) ⟨#[68]⟩ (by decide); omega) (by have := HII.out; omega) (by have := stepXY_size r (by have := HR50.out; omega) ⟨#[68]⟩ (by decide); omega) ((congrArg (feedM (pAt 0, m1)) (stepXY_nats r 68 ⟨#[68]⟩ rfl)).trans hf))
        have HAT2 := Lib.hid hat2
        obtain ⟨dg, hdg⟩ : ∃ dg, bytesN (decN r) = dg := ⟨_, rfl⟩
        rw [hdg] at HF ⊢
        clear hb4 hf hat2 HM hdg
        go_wp2_with fail
        refine HF.out.mono ?_
        rintro v w5 ⟨rfl, L5, he5, -, -⟩
        have HE5 := Lib.hid he5
        have HS := Lib.hid (emu_screen w5 e L5 m2 he5.one.r)
        clear he5 HF
        go_wp2_with fail
        refine HS.out.mono ?_
        rintro v w6 ⟨g, c, rfl, -, -, -, -, hb6⟩
        have HE6 := Lib.hid (HE5.out.quiet (Keep.of_below _ hb6))
        unfold scrV
        rw [HAT2.out.eX, HAT2.out.eY]
        clear hb6 HS HE5
        go_wp2_with fail
        go_roundw
        case rel => exact ⟨a', b, i + 1, rfl, rfl, by go_num, HV.out.1, HV.out.2, by omega, ⟨L5, m2, HAT2.out, (HE6.out.quiet ((Keep.refl _ w6).alloc _)).more1 (by omega)⟩⟩
        case measure => simp [intOf]; omega
    · have hkn : ¬ (i : Int) < (n : Int) := by omega
      obtain ⟨L1, m1, hat, he⟩ := HE.out
      have HB := Lib.hid he.below
      clear he hat HE
      go_wp2_with fail
      go_ret
      exact ⟨rfl, HB.out⟩

end Go.Proofs.YtmlceohmjkaadaaGreatDoor
