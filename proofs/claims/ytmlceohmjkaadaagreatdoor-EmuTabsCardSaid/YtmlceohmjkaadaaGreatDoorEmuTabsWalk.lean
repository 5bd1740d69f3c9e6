/- Law EmuTabs: the walk. By program (rgn/XEmuTabsWalk.py). Own work. -/
import Derived.Test.YtmlceohmjkaadaaGreatDoorEmuTabsM
import Derived.Test.YtmlceohmjkaadaaGreatDoorEmuLaw2
import Derived.Test.YtmlceohmjkaadaaGreatDoorEmuRest
import Derived.IntWalk
namespace Go.Proofs.YtmlceohmjkaadaaGreatDoor
set_option linter.unusedVariables false
set_option linter.unusedSimpArgs false
open Go.RowKit

theorem tabSet_nats (x : Nat) : natsJ [⟨#[27, 91]⟩, bytesN (decN (x + 1)), ⟨#[71, 27, 72, 13]⟩] = tabSet x := by
  rw [natsJ_eq]
  simp only [List.flatMap_cons, List.flatMap_nil, List.append_nil]
  rw [natsOf_decN, show natsOf ⟨#[27, 91]⟩ = [27, 91] from rfl, show natsOf ⟨#[71, 27, 72, 13]⟩ = [71, 27, 72, 13] from rfl]
  unfold tabSet stepXY
  simp
theorem tabSet_size (x : Nat) (hx : x + 1 < 100) : sum [⟨#[27, 91]⟩, bytesN (decN (x + 1)), ⟨#[71, 27, 72, 13]⟩] ≤ 20 := by
  have := two_decN hx
  simp only [sum, List.map_cons, List.map_nil, List.foldr_cons, List.foldr_nil, List.sum_cons, List.sum_nil, bytesN_size]
  show 2 + ((decN (x + 1)).length + (4 + 0)) ≤ 20
  omega

set_option maxRecDepth 100000 in
set_option maxHeartbeats 1600000 in
theorem emuTabs_early (x n c : Int) (set : Bool) (w : World) (h : n < 0 ∨ (¬ n < 0 ∧ n > 12)) :
    Calls Tryz.prog 7 #[.int .i64 x, .int .i64 n, .int .i64 c, .bool set] w fun e w' => e = .returned (.bool true) ∧ Below w.heap.size w w' := by
  rcases h with h | ⟨h, h2⟩
  all_goals
    go_enter Tryz.func7, Tryz.ntmps7
    go_wp2_with fail
    refine (emu_alive _).mono ?_
    rintro e w1 ⟨rfl, hb⟩
    have HB := Lib.hid hb
    clear hb
    go_wp2_with fail
    go_ret
    exact ⟨rfl, HB.out⟩

theorem least {P : Nat → Prop} : ∀ n, P n → ∃ k, k ≤ n ∧ P k ∧ ∀ j, j < k → ¬ P j := by
  intro n
  induction n using Nat.strongRecOn with
  | _ n ih =>
    intro h
    by_cases e : ∃ j, j < n ∧ P j
    · obtain ⟨j, hj, hp⟩ := e
      obtain ⟨k, hk, h1, h2⟩ := ih j hj hp
      exact ⟨k, by omega, h1, h2⟩
    · exact ⟨n, Nat.le_refl _, h, fun j hj hp => e ⟨j, hj, hp⟩⟩
/-- Where the next stop is. -/
theorem next_there (W x a : Nat) (set : Bool) (ha : a < W) : ∃ k, a < k ∧ k ≤ W ∧ (∀ j, a < j → j < k → j % 8 ≠ 0 ∧ ¬ (set = true ∧ j = x) ∧ j + 1 < W) ∧ (k + 1 < W → k % 8 = 0 ∨ (set = true ∧ k = x)) := by
  obtain ⟨k, hk, ⟨h1, h2⟩, h3⟩ := least (P := fun j => a < j ∧ (j + 1 < W → j % 8 = 0 ∨ (set = true ∧ j = x))) W ⟨ha, fun h => by omega⟩
  refine ⟨k, h1, hk, fun j haj hjk => ?_, h2⟩
  have h4 := h3 j hjk
  by_cases e1 : j + 1 < W
  · exact ⟨fun e => h4 ⟨haj, fun _ => .inl e⟩, fun e => h4 ⟨haj, fun _ => .inr e⟩, e1⟩
  · exact absurd ⟨haj, fun h => absurd h e1⟩ h4

set_option maxRecDepth 100000 in
set_option maxHeartbeats 6400000 in
theorem emuTabs_false (x c : Int) (n : Nat) (hn : n ≤ 12) (w : World) :
    Calls Tryz.prog 7 #[.int .i64 x, .int .i64 n, .int .i64 c, .bool false] w fun e w' => e = .returned (.bool true) ∧ Below w.heap.size w w' := by
  obtain ⟨W, hW⟩ : ∃ W : Nat, min (max x 2) 40 = (W : Int) := ⟨(min (max x 2) 40).toNat, by omega⟩
  have HEN := Lib.hid (ends_is x 1 W 1 hW rfl)
  have HN := Lib.hid (fun V => emu_newF V x 1 W 1 hW rfl)
  have g1 : (2 : Int) ≤ (W : Int) := by omega
  have g2 : (W : Int) ≤ 40 := by omega
  have n1 : ¬ (n : Int) < 0 := by omega
  have n2 : ¬ (n : Int) > 12 := by omega
  obtain ⟨tm, htm, tm1, tm2, r, hr, hrl⟩ := rest_twice c W (by omega)
  have hri : (r : Int) < (W : Int) := by omega
  have HRW : Hid (r < W ∧ 2 ≤ W ∧ W ≤ 40) := Lib.hid (by omega)
  clear hW hrl
  go_enter Tryz.func7, Tryz.ntmps7
  go_wp2_with fail
  refine (emu_alive _).mono ?_
  rintro v w1 ⟨rfl, hb1⟩
  have HE1 := Lib.hid ((Ems.start w).quiet (Keep.of_below _ hb1))
  clear hb1
  go_wp2_with fail
  refine (HN.out _).mono ?_
  rintro v w2 h2
  obtain ⟨e, L, rfl, -, he2⟩ := HE1.out.add h2
  have HE2 : Hid (Ems w w2 [⟨e, L, 0, (pAt 0, EmM.new W 1)⟩]) := Lib.hid he2
  clear h2 he2 HE1 HN
  go_wp2_with fail
  refine (HEN.out _).mono ?_
  rintro v w3 ⟨rfl, rfl⟩
  go_wp2_with fail
  rw [hr]
  clear htm hr
  go_loopw [10, 11] (fun va vi wr => ∃ a i : Nat, va = .int .i64 (a : Int) ∧ vi = .int .i64 (i : Int) ∧ a < W ∧ i ≤ n ∧ Hid (∃ L m, AtT m W r a false ∧ Ems w wr [⟨e, L, 100 + 20 * i, (pAt 0, m)⟩])) (fun _ vi _ => n - (intOf vi).toNat)
  case atStart => exact ⟨0, 0, rfl, rfl, by omega, by omega, L, _, AtT.new W r, HE2.out.more1 (by omega)⟩
  case round =>
    obtain ⟨a, i, rfl, rfl, ha, hi, HE⟩ := hrel
    by_cases hlt : i < n
    · have hki : (i : Int) < (n : Int) := by omega
      have hk0 : (0 : Int) ≤ (i : Int) := by omega
      have hai : (a : Int) < (W : Int) := by omega
      obtain ⟨L1, m1, hat, he⟩ := HE.out
      -- where the next stop is
      obtain ⟨k, hk1, hk2, hk3, hk4⟩ : ∃ k, a < k ∧ k ≤ W ∧ (∀ j, a < j → j < k → j % 8 ≠ 0 ∧ ¬ (false = true ∧ j = r) ∧ j + 1 < W) ∧ (k + 1 < W → k % 8 = 0 ∨ (false = true ∧ k = r)) := next_there W r a false ha
      obtain ⟨m2, hf, hat2⟩ := feed_tab hat HRW.out.1 ha hk1 (fun j h1 h2 => ⟨(hk3 j h1 h2).1, (hk3 j h1 h2).2.1⟩) hk4 hk2
      have HF := Lib.hid (fed1 (k' := 100 + 20 * i + 20) he [⟨#[9]⟩] 1 rfl (by omega) (by decide +kernel) (by omega) (by have : sum [(⟨#[9]⟩ : ByteArray)] = 1 := rfl; omega) hf)
      obtain ⟨a', ha'⟩ : ∃ a', min k (W - 1) = a' := ⟨_, rfl⟩
      rw [ha'] at hat2
      have HX : (m2.st.x : Int) = (a' : Int) := by rw [hat2.eX]
      have HY : (m2.st.y : Int) = 0 := by rw [hat2.eY]; rfl
      have hmi : min (k : Int) ((W : Int) - 1) = (a' : Int) := by omega
      have hawl : Hid (a' < W) := Lib.hid (by omega)
      have HXY := Lib.hid (And.intro HX HY)
      have HAT := Lib.hid hat2
      have HK := Lib.hid (And.intro hk1 (And.intro hk2 (And.intro hk3 hk4)))
      clear hat he HE hf hat2 hk1 hk2 hk3 hk4 ha' HX HY
      go_wp2_with fail
      refine HF.out.mono ?_
      rintro v w5 ⟨rfl, L5, he5, -, -⟩
      have HE5 := Lib.hid he5
      have HS := Lib.hid (emu_screen w5 e L5 m2 he5.one.r)
      clear he5 HF
      go_wp2_with fail
      go_loopw [12] (fun vk wr2 => ∃ j : Nat, vk = .int .i64 (j : Int) ∧ a < j ∧ j ≤ k ∧ wr2 = w5) (fun vk _ => k - (intOf vk).toNat)
      case atStart => exact ⟨a + 1, by go_num, by omega, by have := HK.out.1; omega, rfl⟩
      case round =>
        obtain ⟨j, rfl, haj, hjk, rfl⟩ := hrel
        by_cases hjl : j < k
        · have hns := HK.out.2.2.1 j haj hjl
          have d1 : (j : Int) < (W : Int) - 1 := by have := hns.2.2; omega
          have d2 : ¬ (j : Int) % 8 = 0 := by have := hns.1; omega
          have HJ := Lib.hid (And.intro haj hjl)
          clear hns haj hjk hjl
          go_wp2_with fail
          go_roundw
          case rel => exact ⟨j + 1, by go_num, by have := HJ.out; omega, by have := HJ.out; omega, trivial⟩
          case measure => have := HJ.out; simp [intOf]; omega
        · obtain rfl : j = k := by omega
          clear hjk hjl
          by_cases hw1 : j + 1 < W
          · have d1 : (j : Int) < (W : Int) - 1 := by omega
            by_cases h8 : j % 8 = 0
            · have d2 : (j : Int) % 8 = 0 := by omega
              clear h8 hw1
              go_wp2_with fail
              refine HS.out.mono ?_
              rintro v w6 ⟨g, c, rfl, -, -, -, -, hb6⟩
              have HE6 := Lib.hid (HE5.out.quiet (Keep.of_below _ hb6))
              unfold scrV
              rw [HXY.out.1, HXY.out.2]
              clear hb6 HS HE5
              go_wp2_with fail
              go_roundw
              case rel => exact ⟨a', i + 1, rfl, by go_num, hawl.out, by omega, ⟨L5, m2, HAT.out, (HE6.out.quiet ((Keep.refl _ w6).alloc _)).more1 (by omega)⟩⟩
              case measure => simp [intOf]; omega
            · have d2 : ¬ (j : Int) % 8 = 0 := by omega
              exact absurd (HK.out.2.2.2 hw1) (by simp [h8])
          · have d1 : ¬ (j : Int) < (W : Int) - 1 := by omega
            clear hw1
            go_wp2_with fail
            refine HS.out.mono ?_
            rintro v w6 ⟨g, c, rfl, -, -, -, -, hb6⟩
            have HE6 := Lib.hid (HE5.out.quiet (Keep.of_below _ hb6))
            unfold scrV
            rw [HXY.out.1, HXY.out.2]
            clear hb6 HS HE5
            go_wp2_with fail
            go_roundw
            case rel => exact ⟨a', i + 1, rfl, by go_num, hawl.out, by omega, ⟨L5, m2, HAT.out, (HE6.out.quiet ((Keep.refl _ w6).alloc _)).more1 (by omega)⟩⟩
            case measure => simp [intOf]; omega
    · have hkn : ¬ (i : Int) < (n : Int) := by omega
      obtain ⟨L1, m1, hat, he⟩ := HE.out
      have HB := Lib.hid he.below
      clear he hat HE
      go_wp2_with fail
      go_ret
      exact ⟨rfl, HB.out⟩

set_option maxRecDepth 100000 in
set_option maxHeartbeats 6400000 in
theorem emuTabs_true (x c : Int) (n : Nat) (hn : n ≤ 12) (w : World) :
    Calls Tryz.prog 7 #[.int .i64 x, .int .i64 n, .int .i64 c, .bool true] w fun e w' => e = .returned (.bool true) ∧ Below w.heap.size w w' := by
  obtain ⟨W, hW⟩ : ∃ W : Nat, min (max x 2) 40 = (W : Int) := ⟨(min (max x 2) 40).toNat, by omega⟩
  have HEN := Lib.hid (ends_is x 1 W 1 hW rfl)
  have HN := Lib.hid (fun V => emu_newF V x 1 W 1 hW rfl)
  have g1 : (2 : Int) ≤ (W : Int) := by omega
  have g2 : (W : Int) ≤ 40 := by omega
  have n1 : ¬ (n : Int) < 0 := by omega
  have n2 : ¬ (n : Int) > 12 := by omega
  obtain ⟨tm, htm, tm1, tm2, r, hr, hrl⟩ := rest_twice c W (by omega)
  have hri : (r : Int) < (W : Int) := by omega
  have HRW : Hid (r < W ∧ 2 ≤ W ∧ W ≤ 40) := Lib.hid (by omega)
  clear hW hrl
  go_enter Tryz.func7, Tryz.ntmps7
  go_wp2_with fail
  refine (emu_alive _).mono ?_
  rintro v w1 ⟨rfl, hb1⟩
  have HE1 := Lib.hid ((Ems.start w).quiet (Keep.of_below _ hb1))
  clear hb1
  go_wp2_with fail
  refine (HN.out _).mono ?_
  rintro v w2 h2
  obtain ⟨e, L, rfl, -, he2⟩ := HE1.out.add h2
  have HE2 : Hid (Ems w w2 [⟨e, L, 0, (pAt 0, EmM.new W 1)⟩]) := Lib.hid he2
  clear h2 he2 HE1 HN
  go_wp2_with fail
  refine (HEN.out _).mono ?_
  rintro v w3 ⟨rfl, rfl⟩
  obtain ⟨m0, f0, at0⟩ := feed_set W r HRW.out.1 HRW.out.2.2
  have HD : Hid (∀ V, Calls Tryz.prog 23 #[.int .i64 ((r : Int) + 1)] V fun e w' => e = .returned (.string (bytesN (decN (r + 1)))) ∧ Below V.heap.size V w') := Lib.hid (fun V => digits_any (r + 1) (by have := HRW.out; omega) V)
  have HT := Lib.hid at0
  have HF0 := Lib.hid f0
  clear f0 at0
  go_wp2_with fail
  refine (HD.out _).mono ?_
  rintro v w4 ⟨rfl, hb4⟩
  have HF4 := Lib.hid (fed1 (k' := 100 + 20 * 0) (HE2.out.quiet (Keep.of_below _ hb4)) [⟨#[27, 91]⟩, bytesN (decN (r + 1)), ⟨#[71, 27, 72, 13]⟩] 3 rfl (by omega) (by have := tabSet_size r (by have := HRW.out; omega); omega) (by omega) (by have := tabSet_size r (by have := HRW.out; omega); omega) ((congrArg (feedM (pAt 0, EmM.new W 1)) (tabSet_nats r)).trans HF0.out))
  obtain ⟨dg, hdg⟩ : ∃ dg, bytesN (decN (r + 1)) = dg := ⟨_, rfl⟩
  rw [hdg] at HF4 ⊢
  clear hb4 hdg HF0 HD HE2
  go_wp2_with fail
  refine HF4.out.mono ?_
  rintro v w5 ⟨rfl, L4, he4, -, -⟩
  have HE4 := Lib.hid he4
  clear he4 HF4
  go_wp2_with fail
  go_loopw [10, 11] (fun va vi wr => ∃ a i : Nat, va = .int .i64 (a : Int) ∧ vi = .int .i64 (i : Int) ∧ a < W ∧ i ≤ n ∧ Hid (∃ L m, AtT m W r a true ∧ Ems w wr [⟨e, L, 100 + 20 * i, (pAt 0, m)⟩])) (fun _ vi _ => n - (intOf vi).toNat)
  case atStart => exact ⟨0, 0, rfl, rfl, by omega, by omega, L4, m0, HT.out, HE4.out⟩
  case round =>
    obtain ⟨a, i, rfl, rfl, ha, hi, HE⟩ := hrel
    by_cases hlt : i < n
    · have hki : (i : Int) < (n : Int) := by omega
      have hk0 : (0 : Int) ≤ (i : Int) := by omega
      have hai : (a : Int) < (W : Int) := by omega
      obtain ⟨L1, m1, hat, he⟩ := HE.out
      -- where the next stop is
      obtain ⟨k, hk1, hk2, hk3, hk4⟩ : ∃ k, a < k ∧ k ≤ W ∧ (∀ j, a < j → j < k → j % 8 ≠ 0 ∧ ¬ (true = true ∧ j = r) ∧ j + 1 < W) ∧ (k + 1 < W → k % 8 = 0 ∨ (true = true ∧ k = r)) := next_there W r a true ha
      obtain ⟨m2, hf, hat2⟩ := feed_tab hat HRW.out.1 ha hk1 (fun j h1 h2 => ⟨(hk3 j h1 h2).1, (hk3 j h1 h2).2.1⟩) hk4 hk2
      have HF := Lib.hid (fed1 (k' := 100 + 20 * i + 20) he [⟨#[9]⟩] 1 rfl (by omega) (by decide +kernel) (by omega) (by have : sum [(⟨#[9]⟩ : ByteArray)] = 1 := rfl; omega) hf)
      obtain ⟨a', ha'⟩ : ∃ a', min k (W - 1) = a' := ⟨_, rfl⟩
      rw [ha'] at hat2
      have HX : (m2.st.x : Int) = (a' : Int) := by rw [hat2.eX]
      have HY : (m2.st.y : Int) = 0 := by rw [hat2.eY]; rfl
      have hmi : min (k : Int) ((W : Int) - 1) = (a' : Int) := by omega
      have hawl : Hid (a' < W) := Lib.hid (by omega)
      have HXY := Lib.hid (And.intro HX HY)
      have HAT := Lib.hid hat2
      have HK := Lib.hid (And.intro hk1 (And.intro hk2 (And.intro hk3 hk4)))
      clear hat he HE hf hat2 hk1 hk2 hk3 hk4 ha' HX HY
      go_wp2_with fail
      refine HF.out.mono ?_
      rintro v w5 ⟨rfl, L5, he5, -, -⟩
      have HE5 := Lib.hid he5
      have HS := Lib.hid (emu_screen w5 e L5 m2 he5.one.r)
      clear he5 HF
      go_wp2_with fail
      go_loopw [12] (fun vk wr2 => ∃ j : Nat, vk = .int .i64 (j : Int) ∧ a < j ∧ j ≤ k ∧ wr2 = w5) (fun vk _ => k - (intOf vk).toNat)
      case atStart => exact ⟨a + 1, by go_num, by omega, by have := HK.out.1; omega, rfl⟩
      case round =>
        obtain ⟨j, rfl, haj, hjk, rfl⟩ := hrel
        by_cases hjl : j < k
        · have hns := HK.out.2.2.1 j haj hjl
          have d1 : (j : Int) < (W : Int) - 1 := by have := hns.2.2; omega
          have d2 : ¬ (j : Int) % 8 = 0 := by have := hns.1; omega
          have d4 : ¬ j = r := by have := hns.2.1; simpa using this
          have d3 : ¬ (j : Int) = (r : Int) := by omega
          have d5 : ((j : Int) == (r : Int)) = false := by simp; omega
          have HJ := Lib.hid (And.intro haj hjl)
          clear hns haj hjk hjl
          go_wp2_with fail
          go_roundw
          case rel => exact ⟨j + 1, by go_num, by have := HJ.out; omega, by have := HJ.out; omega, trivial⟩
          case measure => have := HJ.out; simp [intOf]; omega
        · obtain rfl : j = k := by omega
          clear hjk hjl
          by_cases hw1 : j + 1 < W
          · have d1 : (j : Int) < (W : Int) - 1 := by omega
            by_cases h8 : j % 8 = 0
            · have d2 : (j : Int) % 8 = 0 := by omega
              clear h8 hw1
              go_wp2_with fail
              refine HS.out.mono ?_
              rintro v w6 ⟨g, c, rfl, -, -, -, -, hb6⟩
              have HE6 := Lib.hid (HE5.out.quiet (Keep.of_below _ hb6))
              unfold scrV
              rw [HXY.out.1, HXY.out.2]
              clear hb6 HS HE5
              go_wp2_with fail
              go_roundw
              case rel => exact ⟨a', i + 1, rfl, by go_num, hawl.out, by omega, ⟨L5, m2, HAT.out, (HE6.out.quiet ((Keep.refl _ w6).alloc _)).more1 (by omega)⟩⟩
              case measure => simp [intOf]; omega
            · have d2 : ¬ (j : Int) % 8 = 0 := by omega
              have d3 : (j : Int) = (r : Int) := by have := HK.out.2.2.2 hw1; simp [h8] at this; omega
              have hmr : min (r : Int) ((W : Int) - 1) = (a' : Int) := by rw [← d3]; exact hmi
              clear h8 hw1
              go_wp2_with fail
              refine HS.out.mono ?_
              rintro v w6 ⟨g, c, rfl, -, -, -, -, hb6⟩
              have HE6 := Lib.hid (HE5.out.quiet (Keep.of_below _ hb6))
              unfold scrV
              rw [HXY.out.1, HXY.out.2]
              clear hb6 HS HE5
              go_wp2_with fail
              go_roundw
              case rel => exact ⟨a', i + 1, rfl, by go_num, hawl.out, by omega, ⟨L5, m2, HAT.out, (HE6.out.quiet ((Keep.refl _ w6).alloc _)).more1 (by omega)⟩⟩
              case measure => simp [intOf]; omega
          · have d1 : ¬ (j : Int) < (W : Int) - 1 := by omega
            clear hw1
            go_wp2_with fail
            refine HS.out.mono ?_
            rintro v w6 ⟨g, c, rfl, -, -, -, -, hb6⟩
            have HE6 := Lib.hid (HE5.out.quiet (Keep.of_below _ hb6))
            unfold scrV
            rw [HXY.out.1, HXY.out.2]
            clear hb6 HS HE5
            go_wp2_with fail
            go_roundw
            case rel => exact ⟨a', i + 1, rfl, by go_num, hawl.out, by omega, ⟨L5, m2, HAT.out, (HE6.out.quiet ((Keep.refl _ w6).alloc _)).more1 (by omega)⟩⟩
            case measure => simp [intOf]; omega
    · have hkn : ¬ (i : Int) < (n : Int) := by omega
      obtain ⟨L1, m1, hat, he⟩ := HE.out
      have HB := Lib.hid he.below
      clear he hat HE
      go_wp2_with fail
      go_ret
      exact ⟨rfl, HB.out⟩

theorem walk_EmuTabs (x : Int) (wx : (Lit.int .i64 x).wf = true) (n : Int) (wn : (Lit.int .i64 n).wf = true) (c : Int) (wc : (Lit.int .i64 c).wf = true) (set : Bool) (w : World) :
    Calls Tryz.prog 7 #[.int .i64 x, .int .i64 n, .int .i64 c, .bool set] w fun e w' => e = .returned (.bool true) ∧ Below w.heap.size w w' := by
  by_cases h1 : n < 0
  · exact emuTabs_early x n c set w (.inl h1)
  by_cases h2 : n > 12
  · exact emuTabs_early x n c set w (.inr ⟨h1, h2⟩)
  obtain ⟨n0, rfl⟩ : ∃ n0 : Nat, n = (n0 : Int) := ⟨n.toNat, by omega⟩
  cases set
  · exact emuTabs_false x c n0 (by omega) w
  · exact emuTabs_true x c n0 (by omega) w

end Go.Proofs.YtmlceohmjkaadaaGreatDoor
