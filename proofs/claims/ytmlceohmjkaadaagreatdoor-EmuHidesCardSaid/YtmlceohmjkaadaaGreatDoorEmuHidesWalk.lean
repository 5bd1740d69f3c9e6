/- Law EmuHides: the walk. By program (rgn/XEmuHidesWalk.py). Own work. -/
import Derived.Test.YtmlceohmjkaadaaGreatDoorEmuHidesM
import Derived.Test.YtmlceohmjkaadaaGreatDoorEmuLs
import Derived.Test.YtmlceohmjkaadaaGreatDoorEmuLaw2
import Derived.Test.YtmlceohmjkaadaaGreatDoorBools3
import Derived.Deep.QuietTactic
import Derived.BigQuiet
namespace Go.Proofs.YtmlceohmjkaadaaGreatDoor
set_option linter.unusedVariables false
set_option linter.unusedSimpArgs false
open Go.RowKit

set_option maxRecDepth 100000 in
set_option maxHeartbeats 1600000 in
theorem emuHides_early (x y : Int) (s : ByteArray) (A : Option Addr) (n cap : Nat) (w : World) (h : (s.size : Int) > 200 ∨ (¬ (s.size : Int) > 200 ∧ (n : Int) > 20)) :
    Calls Tryz.prog 11 #[.int .i64 x, .int .i64 y, .string s, .slice A n cap] w fun e w' => e = .returned (.bool true) ∧ Below w.heap.size w w' := by
  rcases h with h | ⟨h, h2⟩
  all_goals
    go_enter Tryz.func11, Tryz.ntmps11
    go_wp2_with fail
    refine (emu_alive _).mono ?_
    rintro e w1 ⟨rfl, hb⟩
    have HB := Lib.hid hb
    clear hb
    go_wp2_with fail
    go_ret
    exact ⟨rfl, HB.out⟩

theorem natsJ_24b (a : ByteArray) : natsJ [a, ⟨#[24]⟩] = natsJ [a] ++ [24] := by simp [natsJ, joinL]

set_option maxRecDepth 100000 in
set_option maxHeartbeats 6400000 in
theorem walk_EmuHides (x : Int) (wx : (Lit.int .i64 x).wf = true) (y : Int) (wy : (Lit.int .i64 y).wf = true) (s : ByteArray) (wa : s.size ≤ maxLen) (A : Option Addr) (n cap : Nat) (xs : List Bool) (w : World) (h : Bools w A n xs) :
    Calls Tryz.prog 11 #[.int .i64 x, .int .i64 y, .string s, .slice A n cap] w fun e w' => e = .returned (.bool true) ∧ Below w.heap.size w w' := by
  by_cases hs : (s.size : Int) > 200
  · exact emuHides_early x y s A n cap w (.inl hs)
  by_cases hn : (n : Int) > 20
  · exact emuHides_early x y s A n cap w (.inr ⟨hs, hn⟩)
  obtain ⟨W, hW⟩ : ∃ W : Nat, min (max x 2) 40 = (W : Int) := ⟨(min (max x 2) 40).toNat, by omega⟩
  obtain ⟨H, hH⟩ : ∃ H : Nat, min (max y 1) 20 = (H : Int) := ⟨(min (max y 1) 20).toNat, by omega⟩
  have HN := Lib.hid (fun V => emu_newF V x y W H hW hH)
  have HI := Lib.hid h
  have HSZ : Hid (s.size ≤ 200 ∧ n ≤ 20) := Lib.hid (by omega)
  clear hW hH wa h
  go_enter Tryz.func11, Tryz.ntmps11
  go_wp2_with fail
  refine (emu_alive _).mono ?_
  rintro v w1 ⟨rfl, hb1⟩
  have HE1 := Lib.hid ((Ems.start w).quiet (Keep.of_below _ hb1))
  clear hb1
  go_wp2_with fail
  go_loopw [9] (fun vi wr => ∃ i : Nat, vi = .int .i64 (i : Int) ∧ i ≤ s.size ∧ wr = w1 ∧ Hid (∀ k, k < i → ∀ h : k < s.size, s[k].toNat ≠ 27)) (fun vi _ => s.size - (intOf vi).toNat)
  case atStart => exact ⟨0, rfl, by omega, rfl, fun k hk => by omega⟩
  case round =>
    obtain ⟨i, rfl, hi, rfl, HP⟩ := hrel
    by_cases hlt : i < s.size
    · have hki : (i : Int) < (s.size : Int) := by omega
      have hk0 : (0 : Int) ≤ (i : Int) := by omega
      by_cases h27 : s[i].toNat = 27
      · have t1 : (s[i].toNat : Int) = 27 := by omega
        have HB := Lib.hid HE1.out.below
        clear h27
        go_wp2_with fail
        go_ret
        exact ⟨rfl, HB.out⟩
      · have t1 : ¬ (s[i].toNat : Int) = 27 := by omega
        have HG : Hid (∀ k, k < i + 1 → ∀ h : k < s.size, s[k].toNat ≠ 27) := Lib.hid (fun k hk hks => by
          by_cases e : k = i
          · subst e; exact h27
          · exact HP.out k (by omega) hks)
        clear h27 HP
        go_wp2_with fail
        go_roundw
        case rel => exact ⟨i + 1, by go_num, by omega, trivial, HG⟩
        case measure => simp [intOf]; omega
    · have hii : i = s.size := by omega
      subst hii
      have HPS : Hid (∀ c ∈ natsJ [s], c ≠ 27) := Lib.hid (fun c hc => by
        rw [natsJ_one] at hc
        obtain ⟨u, hu, rfl⟩ := List.mem_map.1 hc
        obtain ⟨k, hk, rfl⟩ := List.mem_iff_getElem.1 hu
        exact HP.out k (by rw [Lib.size_eq]; exact hk) (by rw [Lib.size_eq]; exact hk))
      clear HP hlt
      go_wp2_with fail
      refine (HN.out _).mono ?_
      rintro v w2 h2
      obtain ⟨e, L, rfl, -, he2⟩ := HE1.out.add h2
      have HE2 : Hid (Ems w w2 [⟨e, L, 0, (pAt 0, EmM.new W H)⟩]) := Lib.hid he2
      clear h2 he2 HE1 HN
      go_wp2_with fail
      go_loopw [11] (fun vi wr => ∃ i : Nat, vi = .int .i64 (i : Int) ∧ i ≤ n ∧ Hid (∃ L m, m.O = none ∧ Ems w wr [⟨e, L, 1000 * i, (pAt 0, m)⟩])) (fun vi _ => n - (intOf vi).toNat)
      case atStart => exact ⟨0, rfl, by omega, L, EmM.new W H, rfl, HE2.out⟩
      case round =>
        obtain ⟨i, rfl, hi, HF⟩ := hrel
        by_cases hlt : i < n
        · obtain ⟨L1, m1, ho, he⟩ := HF.out
          have hki : (i : Int) < (n : Int) := by omega
          have hk0 : (0 : Int) ≤ (i : Int) := by omega
          obtain ⟨b, hb⟩ : ∃ b, xs[i]? = some b := ⟨xs[i]'(by rw [HI.out.1]; exact hlt), List.getElem?_eq_getElem _⟩
          obtain ⟨bb, off, rfl, hbl, hcs⟩ := HI.out.2.1 (by omega)
          have hc0 := hcs i b hb
          have hcx : wr.cell? ⟨bb, off + i, none⟩ = some (.bool b) := (he.k.cell (p := ⟨bb, off + i, none⟩) hbl (fun x => x)).trans hc0
          have HC0 := Lib.hid (And.intro hbl hc0)
          have HEE := Lib.hid he
          have HO := Lib.hid ho
          obtain ⟨z, hz⟩ : ∃ z, IntKind.i64.wrap (x + (i : Int)) = z := ⟨_, rfl⟩
          clear hcs hb he ho HF hc0 hbl
          cases b
          · have HF1 := Lib.hid (fed1 (k' := 1000 * i + 12) HEE.out [⟨#[27, 91, 63, 50, 53, 104]⟩] 1 rfl (by omega) (by decide +kernel) (by have := HSZ.out; omega) (by have e : sum [(⟨#[27, 91, 63, 50, 53, 104]⟩ : ByteArray)] = 6 := rfl; omega) (feed_show m1))
            go_wp2_with fail
            refine HF1.out.mono ?_
            rintro v w5 ⟨rfl, L5, he5, -, -⟩
            obtain ⟨m2, f2, h2, o2, -⟩ := hides_says { m1 with hid := false } (natsJ [s]) HPS.out HO.out
            have HF5 := Lib.hid (fed1 (k' := 1000 * i + 1000) (m' := m2) (o := (feedM (pAt 0, { m1 with hid := false }) (natsJ [s] ++ [24])).2) he5 [s, ⟨#[24]⟩] 2 rfl (by omega) (by have := HSZ.out; simp only [sum, List.map_cons, List.map_nil, List.foldr_cons, List.foldr_nil]; have : (⟨#[24]⟩ : ByteArray).size = 1 := rfl; omega) (by have := HSZ.out; omega) (by have := HSZ.out; simp only [sum, List.map_cons, List.map_nil, List.foldr_cons, List.foldr_nil]; have : (⟨#[24]⟩ : ByteArray).size = 1 := rfl; omega) (Prod.ext (by rw [← f2, natsJ_24b]) (by rw [natsJ_24b])))
            have HH := Lib.hid h2
            have HO2 := Lib.hid o2
            clear he5 f2 h2 o2 HF1
            go_wp2_with fail
            refine HF5.out.mono ?_
            rintro v w6 ⟨rfl, L6, he6, -, -⟩
            have HZ := Lib.hid (fun zz => size1 he6 zz y HO2.out)
            clear he6 HF5
            go_wp2_with fail
            refine (HZ.out _).mono ?_
            rintro v w7 ⟨rfl, L7, m3, o3, h3, he7⟩
            have HE7 := Lib.hid he7
            have HO3 := Lib.hid o3
            have hc7 : w7.cell? ⟨bb, off + i, none⟩ = some (.bool false) := (he7.k.cell (p := ⟨bb, off + i, none⟩) HC0.out.1 (fun x => x)).trans HC0.out.2
            have h37 : m3.hid = false := h3.trans HH.out
            have HCS : Hid (∀ V, Keep (fun _ => False) w7 V → Calls Tryz.prog 17 #[.pointer (some ⟨e, 0, none⟩)] V (ScrTo m3 V)) := Lib.hid (fun V k => emu_screen V e L7 m3 (he7.quiet k).one.r)
            have HC7 : Hid (bb < w7.heap.size ∧ w7.cell? ⟨bb, off + i, none⟩ = some (.bool false)) := Lib.hid ⟨Nat.lt_of_lt_of_le HC0.out.1 he7.k.size, hc7⟩
            clear he7 o3 h3 HZ HH
            go_upto_region 19 with fail
            refine wp_region_noPanic ?_
            refine wp_region_held_drew (S := fun w' => w'.cell? ⟨bb, off + i, none⟩ = some (.bool false)) (by kernel_rfl) hc7 (fun hHeld => ?_)
            refine wpAnyH_take (i := 0) (oi := _) (v := ?vB0) rfl (by kernel_rfl) (by kernel_rfl) (by kernel_rfl) (fun _ _ _ h => h) (Or.inl ⟨by rfl, ?hyB0⟩) (by assumption) ?restB0
            case hyB0 => (intro w hSw; (try dsimp only at hSw); (try simp only [List.getElem_toArray, List.getElem_cons_zero, List.getElem_cons_succ]); go_simp; (try with_reducible rfl))
            (try simp only [Act.put, List.setIfInBounds_toArray, List.set_cons_zero, List.set_cons_succ, List.getElem_toArray, List.getElem_cons_zero, List.getElem_cons_succ])
            refine wpAnyH_take (i := 3) (oi := _) (v := ?vB3) rfl (by kernel_rfl) (by kernel_rfl) (by kernel_rfl) (fun _ _ _ h => h) (Or.inl ⟨by rfl, ?hyB3⟩) (by assumption) ?restB3
            case hyB3 => (intro w hSw; (try dsimp only at hSw); (try simp only [List.getElem_toArray, List.getElem_cons_zero, List.getElem_cons_succ]); go_simp; (try with_reducible rfl))
            (try simp only [Act.put, List.setIfInBounds_toArray, List.set_cons_zero, List.set_cons_succ, List.getElem_toArray, List.getElem_cons_zero, List.getElem_cons_succ])
            refine wpAnyH_take (i := 4) (oi := _) (v := ?vB4) rfl (by kernel_rfl) (by kernel_rfl) (by kernel_rfl) (fun _ _ _ h => h) (Or.inl ⟨by rfl, ?hyB4⟩) (by assumption) ?restB4
            case hyB4 => (intro w hSw; (try dsimp only at hSw); (try simp only [List.getElem_toArray, List.getElem_cons_zero, List.getElem_cons_succ]); go_simp; (try with_reducible rfl))
            (try simp only [Act.put, List.setIfInBounds_toArray, List.set_cons_zero, List.set_cons_succ, List.getElem_toArray, List.getElem_cons_zero, List.getElem_cons_succ])
            refine wpAnyH_take (i := 5) (oi := _) (v := ?vB5) rfl (by kernel_rfl) (by kernel_rfl) (by kernel_rfl) (fun _ _ _ h => h) (Or.inl ⟨by rfl, ?hyB5⟩) (by assumption) ?restB5
            case hyB5 => (intro w hSw; (try dsimp only at hSw); (try simp only [List.getElem_toArray, List.getElem_cons_zero, List.getElem_cons_succ]); go_simp; (try with_reducible rfl))
            (try simp only [Act.put, List.setIfInBounds_toArray, List.set_cons_zero, List.set_cons_succ, List.getElem_toArray, List.getElem_cons_zero, List.getElem_cons_succ])
            refine wpAnyH_take (i := 6) (oi := _) (v := ?vB6) rfl (by kernel_rfl) (by kernel_rfl) (by kernel_rfl) (fun _ _ _ h => h) (Or.inl ⟨by rfl, ?hyB6⟩) (by assumption) ?restB6
            case hyB6 => (intro w hSw; (try dsimp only at hSw); (try simp only [List.getElem_toArray, List.getElem_cons_zero, List.getElem_cons_succ]); go_simp; (try with_reducible rfl))
            (try simp only [Act.put, List.setIfInBounds_toArray, List.set_cons_zero, List.set_cons_succ, List.getElem_toArray, List.getElem_cons_zero, List.getElem_cons_succ])
            refine wpAnyH_ready (rs := [1]) (by kernel_rfl) (by simp) ?_
            refine AllReadyH.cons (o := _) rfl (fun K hK => ?_) AllReadyH.nil
            (try simp only [List.getElem_toArray, List.getElem_cons_zero, List.getElem_cons_succ])
            go_simp
            refine (HCS.out _ ((Keep.refl (fun _ => False) w7).drew)).mono ?_
            rintro v wA ⟨g2, d2, rfl, -, -, -, -, hbA⟩
            have KA : Hid (Keep (fun _ => False) w7 wA) := Lib.hid (Keep.trans ((Keep.refl (fun _ => False) w7).drew) (Keep.of_below (fun _ => False) hbA) (fun _ _ x => x))
            unfold scrV
            have hfd : ∀ V : World, (Instr.field 29 (.agg #[.int .i64 (m3.W : Int), .int .i64 (m3.H : Int), .slice (some ⟨g2, 0, none⟩) (m3.W * m3.H) d2, .int .i64 (m3.st.x : Int), .int .i64 (m3.st.y : Int), .bool false]) 5).run Tryz.prog V = .ok (.bool false) V := fun _ => by kernel_rfl
            clear hbA
            refine hK.out _ _ ?_ (fun hHeld => ?_)
            · exact (KA.out.cell (p := ⟨bb, off + i, none⟩) HC7.out.1 (fun x => x)).trans HC7.out.2
            clear hK K
            (try simp only [Act.put, List.setIfInBounds_toArray, List.set_cons_zero, List.set_cons_succ, List.getElem_toArray, List.getElem_cons_zero, List.getElem_cons_succ])
            refine wpAnyH_take (i := 2) (oi := _) (v := ?vB2) rfl (by kernel_rfl) (by kernel_rfl) (by kernel_rfl) (fun _ _ _ h => h) (Or.inl ⟨by rfl, ?hyB2⟩) (by assumption) ?restB2
            case hyB2 => (intro w hSw; (try dsimp only at hSw); (try simp only [List.getElem_toArray, List.getElem_cons_zero, List.getElem_cons_succ]); go_simp; (try with_reducible rfl))
            (try simp only [Act.put, List.setIfInBounds_toArray, List.set_cons_zero, List.set_cons_succ, List.getElem_toArray, List.getElem_cons_zero, List.getElem_cons_succ])
            refine wpAnyH_take (i := 7) (oi := _) (v := ?vB7) rfl (by kernel_rfl) (by kernel_rfl) (by kernel_rfl) (fun _ _ _ h => h) (Or.inl ⟨by rfl, ?hyB7⟩) (by assumption) ?restB7
            case hyB7 => (intro w hSw; (try dsimp only at hSw); (try simp only [List.getElem_toArray, List.getElem_cons_zero, List.getElem_cons_succ]); go_simp; (try with_reducible rfl))
            (try simp only [Act.put, List.setIfInBounds_toArray, List.set_cons_zero, List.set_cons_succ, List.getElem_toArray, List.getElem_cons_zero, List.getElem_cons_succ])
            refine wpAnyH_done (by kernel_rfl) ?_ _
            refine NoPanic.normal ?_
            go_wp2_with fail
            go_roundw
            case rel => exact ⟨i + 1, by go_num, by omega, ⟨L7, m3, HO3.out, (HE7.out.quiet KA.out).more1 (by omega)⟩⟩
            case measure => simp [intOf]; omega
          · have HF1 := Lib.hid (fed1 (k' := 1000 * i + 12) HEE.out [⟨#[27, 91, 63, 50, 53, 108]⟩] 1 rfl (by omega) (by decide +kernel) (by have := HSZ.out; omega) (by have e : sum [(⟨#[27, 91, 63, 50, 53, 108]⟩ : ByteArray)] = 6 := rfl; omega) (feed_hide m1))
            go_wp2_with fail
            refine HF1.out.mono ?_
            rintro v w5 ⟨rfl, L5, he5, -, -⟩
            obtain ⟨m2, f2, h2, o2, -⟩ := hides_says { m1 with hid := true } (natsJ [s]) HPS.out HO.out
            have HF5 := Lib.hid (fed1 (k' := 1000 * i + 1000) (m' := m2) (o := (feedM (pAt 0, { m1 with hid := true }) (natsJ [s] ++ [24])).2) he5 [s, ⟨#[24]⟩] 2 rfl (by omega) (by have := HSZ.out; simp only [sum, List.map_cons, List.map_nil, List.foldr_cons, List.foldr_nil]; have : (⟨#[24]⟩ : ByteArray).size = 1 := rfl; omega) (by have := HSZ.out; omega) (by have := HSZ.out; simp only [sum, List.map_cons, List.map_nil, List.foldr_cons, List.foldr_nil]; have : (⟨#[24]⟩ : ByteArray).size = 1 := rfl; omega) (Prod.ext (by rw [← f2, natsJ_24b]) (by rw [natsJ_24b])))
            have HH := Lib.hid h2
            have HO2 := Lib.hid o2
            clear he5 f2 h2 o2 HF1
            go_wp2_with fail
            refine HF5.out.mono ?_
            rintro v w6 ⟨rfl, L6, he6, -, -⟩
            have HZ := Lib.hid (fun zz => size1 he6 zz y HO2.out)
            clear he6 HF5
            go_wp2_with fail
            refine (HZ.out _).mono ?_
            rintro v w7 ⟨rfl, L7, m3, o3, h3, he7⟩
            have HE7 := Lib.hid he7
            have HO3 := Lib.hid o3
            have hc7 : w7.cell? ⟨bb, off + i, none⟩ = some (.bool true) := (he7.k.cell (p := ⟨bb, off + i, none⟩) HC0.out.1 (fun x => x)).trans HC0.out.2
            have h37 : m3.hid = true := h3.trans HH.out
            have HCS : Hid (∀ V, Keep (fun _ => False) w7 V → Calls Tryz.prog 17 #[.pointer (some ⟨e, 0, none⟩)] V (ScrTo m3 V)) := Lib.hid (fun V k => emu_screen V e L7 m3 (he7.quiet k).one.r)
            have HC7 : Hid (bb < w7.heap.size ∧ w7.cell? ⟨bb, off + i, none⟩ = some (.bool true)) := Lib.hid ⟨Nat.lt_of_lt_of_le HC0.out.1 he7.k.size, hc7⟩
            clear he7 o3 h3 HZ HH
            go_upto_region 19 with fail
            refine wp_region_noPanic ?_
            refine wp_region_held_drew (S := fun w' => w'.cell? ⟨bb, off + i, none⟩ = some (.bool true)) (by kernel_rfl) hc7 (fun hHeld => ?_)
            refine wpAnyH_take (i := 0) (oi := _) (v := ?vA0) rfl (by kernel_rfl) (by kernel_rfl) (by kernel_rfl) (fun _ _ _ h => h) (Or.inl ⟨by rfl, ?hyA0⟩) (by assumption) ?restA0
            case hyA0 => (intro w hSw; (try dsimp only at hSw); (try simp only [List.getElem_toArray, List.getElem_cons_zero, List.getElem_cons_succ]); go_simp; (try with_reducible rfl))
            (try simp only [Act.put, List.setIfInBounds_toArray, List.set_cons_zero, List.set_cons_succ, List.getElem_toArray, List.getElem_cons_zero, List.getElem_cons_succ])
            refine wpAnyH_take (i := 3) (oi := _) (v := ?vA3) rfl (by kernel_rfl) (by kernel_rfl) (by kernel_rfl) (fun _ _ _ h => h) (Or.inl ⟨by rfl, ?hyA3⟩) (by assumption) ?restA3
            case hyA3 => (intro w hSw; (try dsimp only at hSw); (try simp only [List.getElem_toArray, List.getElem_cons_zero, List.getElem_cons_succ]); go_simp; (try with_reducible rfl))
            (try simp only [Act.put, List.setIfInBounds_toArray, List.set_cons_zero, List.set_cons_succ, List.getElem_toArray, List.getElem_cons_zero, List.getElem_cons_succ])
            refine wpAnyH_take (i := 4) (oi := _) (v := ?vA4) rfl (by kernel_rfl) (by kernel_rfl) (by kernel_rfl) (fun _ _ _ h => h) (Or.inl ⟨by rfl, ?hyA4⟩) (by assumption) ?restA4
            case hyA4 => (intro w hSw; (try dsimp only at hSw); (try simp only [List.getElem_toArray, List.getElem_cons_zero, List.getElem_cons_succ]); go_simp; (try with_reducible rfl))
            (try simp only [Act.put, List.setIfInBounds_toArray, List.set_cons_zero, List.set_cons_succ, List.getElem_toArray, List.getElem_cons_zero, List.getElem_cons_succ])
            refine wpAnyH_take (i := 5) (oi := _) (v := ?vA5) rfl (by kernel_rfl) (by kernel_rfl) (by kernel_rfl) (fun _ _ _ h => h) (Or.inl ⟨by rfl, ?hyA5⟩) (by assumption) ?restA5
            case hyA5 => (intro w hSw; (try dsimp only at hSw); (try simp only [List.getElem_toArray, List.getElem_cons_zero, List.getElem_cons_succ]); go_simp; (try with_reducible rfl))
            (try simp only [Act.put, List.setIfInBounds_toArray, List.set_cons_zero, List.set_cons_succ, List.getElem_toArray, List.getElem_cons_zero, List.getElem_cons_succ])
            refine wpAnyH_take (i := 6) (oi := _) (v := ?vA6) rfl (by kernel_rfl) (by kernel_rfl) (by kernel_rfl) (fun _ _ _ h => h) (Or.inl ⟨by rfl, ?hyA6⟩) (by assumption) ?restA6
            case hyA6 => (intro w hSw; (try dsimp only at hSw); (try simp only [List.getElem_toArray, List.getElem_cons_zero, List.getElem_cons_succ]); go_simp; (try with_reducible rfl))
            (try simp only [Act.put, List.setIfInBounds_toArray, List.set_cons_zero, List.set_cons_succ, List.getElem_toArray, List.getElem_cons_zero, List.getElem_cons_succ])
            refine wpAnyH_ready (rs := [1]) (by kernel_rfl) (by simp) ?_
            refine AllReadyH.cons (o := _) rfl (fun K hK => ?_) AllReadyH.nil
            (try simp only [List.getElem_toArray, List.getElem_cons_zero, List.getElem_cons_succ])
            go_simp
            refine (HCS.out _ ((Keep.refl (fun _ => False) w7).drew)).mono ?_
            rintro v wA ⟨g2, d2, rfl, -, -, -, -, hbA⟩
            have KA : Hid (Keep (fun _ => False) w7 wA) := Lib.hid (Keep.trans ((Keep.refl (fun _ => False) w7).drew) (Keep.of_below (fun _ => False) hbA) (fun _ _ x => x))
            unfold scrV
            have hfd : ∀ V : World, (Instr.field 29 (.agg #[.int .i64 (m3.W : Int), .int .i64 (m3.H : Int), .slice (some ⟨g2, 0, none⟩) (m3.W * m3.H) d2, .int .i64 (m3.st.x : Int), .int .i64 (m3.st.y : Int), .bool true]) 5).run Tryz.prog V = .ok (.bool true) V := fun _ => by kernel_rfl
            clear hbA
            refine hK.out _ _ ?_ (fun hHeld => ?_)
            · exact (KA.out.cell (p := ⟨bb, off + i, none⟩) HC7.out.1 (fun x => x)).trans HC7.out.2
            clear hK K
            (try simp only [Act.put, List.setIfInBounds_toArray, List.set_cons_zero, List.set_cons_succ, List.getElem_toArray, List.getElem_cons_zero, List.getElem_cons_succ])
            refine wpAnyH_take (i := 2) (oi := _) (v := ?vA2) rfl (by kernel_rfl) (by kernel_rfl) (by kernel_rfl) (fun _ _ _ h => h) (Or.inl ⟨by rfl, ?hyA2⟩) (by assumption) ?restA2
            case hyA2 => (intro w hSw; (try dsimp only at hSw); (try simp only [List.getElem_toArray, List.getElem_cons_zero, List.getElem_cons_succ]); go_simp; (try with_reducible rfl))
            (try simp only [Act.put, List.setIfInBounds_toArray, List.set_cons_zero, List.set_cons_succ, List.getElem_toArray, List.getElem_cons_zero, List.getElem_cons_succ])
            refine wpAnyH_take (i := 7) (oi := _) (v := ?vA7) rfl (by kernel_rfl) (by kernel_rfl) (by kernel_rfl) (fun _ _ _ h => h) (Or.inl ⟨by rfl, ?hyA7⟩) (by assumption) ?restA7
            case hyA7 => (intro w hSw; (try dsimp only at hSw); (try simp only [List.getElem_toArray, List.getElem_cons_zero, List.getElem_cons_succ]); go_simp; (try with_reducible rfl))
            (try simp only [Act.put, List.setIfInBounds_toArray, List.set_cons_zero, List.set_cons_succ, List.getElem_toArray, List.getElem_cons_zero, List.getElem_cons_succ])
            refine wpAnyH_done (by kernel_rfl) ?_ _
            refine NoPanic.normal ?_
            go_wp2_with fail
            go_roundw
            case rel => exact ⟨i + 1, by go_num, by omega, ⟨L7, m3, HO3.out, (HE7.out.quiet KA.out).more1 (by omega)⟩⟩
            case measure => simp [intOf]; omega
        · obtain ⟨L1, m1, ho, he⟩ := HF.out
          have hki : ¬ (i : Int) < (n : Int) := by omega
          have HB := Lib.hid he.below
          clear he ho HF
          go_wp2_with fail
          go_ret
          exact ⟨rfl, HB.out⟩

end Go.Proofs.YtmlceohmjkaadaaGreatDoor
