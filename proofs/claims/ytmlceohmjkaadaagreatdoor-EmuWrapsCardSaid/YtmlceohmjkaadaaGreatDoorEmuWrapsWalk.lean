/- Law EmuWraps: the walk. By program (rgn/XEmuWrapsWalk.py). Own work. -/
import Derived.Test.YtmlceohmjkaadaaGreatDoorEmuWrapsM
import Derived.Test.YtmlceohmjkaadaaGreatDoorEmuLine
import Derived.Test.YtmlceohmjkaadaaGreatDoorEmuLaw2
import Derived.Deep.QuietTactic
import Derived.BigQuiet
import Derived.IntWalk
namespace Go.Proofs.YtmlceohmjkaadaaGreatDoor
set_option linter.unusedVariables false
set_option linter.unusedSimpArgs false
open Go.RowKit

set_option maxRecDepth 100000 in
set_option maxHeartbeats 1600000 in
theorem emuWraps_early (x : Int) (s : ByteArray) (w : World) (h : (s.size : Int) > 100 ∨ (¬ (s.size : Int) > 100 ∧ (s.size : Int) = 0)) :
    Calls Tryz.prog 8 #[.int .i64 x, .string s] w fun e w' => e = .returned (.bool true) ∧ Below w.heap.size w w' := by
  rcases h with h | ⟨h, h2⟩
  all_goals
    go_enter Tryz.func8, Tryz.ntmps8
    go_wp2_with fail
    refine (emu_alive _).mono ?_
    rintro e w1 ⟨rfl, hb⟩
    have HB := Lib.hid hb
    clear hb
    go_wp2_with fail
    go_ret
    exact ⟨rfl, HB.out⟩

theorem natsJ_7l (s : ByteArray) : natsJ [⟨#[27, 91, 63, 55, 108]⟩, s] = [27, 91, 63, 55, 108] ++ natsOf s := by
  rw [natsJ_eq]
  simp only [List.flatMap_cons, List.flatMap_nil, List.append_nil]
  rfl
/-- A byte that the law lets be. -/
def wrapOk (u : UInt8) : Prop := 33 ≤ u.toNat ∧ u.toNat ≤ 126
theorem rows_one {l : List ByteArray} {v : List Nat} (h : l.map natsOf = [v]) : ∃ T, l = [T] ∧ natsOf T = v := by
  match l, h with
  | [T], h => simp at h; exact ⟨T, rfl, h⟩

set_option maxRecDepth 100000 in
set_option maxHeartbeats 6400000 in
theorem walk_EmuWraps (x : Int) (wx : (Lit.int .i64 x).wf = true) (s : ByteArray) (ws : s.size ≤ maxLen) (w : World) :
    Calls Tryz.prog 8 #[.int .i64 x, .string s] w fun e w' => e = .returned (.bool true) ∧ Below w.heap.size w w' := by
  by_cases hs : (s.size : Int) > 100
  · exact emuWraps_early x s w (.inl hs)
  by_cases hz : (s.size : Int) = 0
  · exact emuWraps_early x s w (.inr ⟨hs, hz⟩)
  obtain ⟨W, hW⟩ : ∃ W : Nat, min (max x 2) 40 = (W : Int) := ⟨(min (max x 2) 40).toNat, by omega⟩
  have HEN := Lib.hid (ends_is x 1 W 1 hW rfl)
  have HN := Lib.hid (fun V => emu_newF V x 1 W 1 hW rfl)
  have HSZ : Hid (s.size ≤ 100 ∧ 0 < s.size ∧ 2 ≤ W ∧ W ≤ 40) := Lib.hid (by omega)
  have g1 : (2 : Int) ≤ (W : Int) := by omega
  have g2 : (W : Int) ≤ 40 := by omega
  have hz2 : ¬ s.size = 0 := by omega
  have hz3 : ((s.size : Int) == 0) = false := by rw [beq_eq_false_iff_ne]; omega
  clear hW wx ws
  go_enter Tryz.func8, Tryz.ntmps8
  go_wp2_with fail
  refine (emu_alive _).mono ?_
  rintro v w1 ⟨rfl, hb1⟩
  have HE1 := Lib.hid ((Ems.start w).quiet (Keep.of_below _ hb1))
  clear hb1
  go_wp2_with fail
  go_loopw [5] (fun vi wr => ∃ i : Nat, vi = .int .i64 (i : Int) ∧ i ≤ s.size ∧ wr = w1 ∧ Hid (∀ k, k < i → ∀ h : k < s.size, wrapOk s[k])) (fun vi _ => s.size - (intOf vi).toNat)
  case atStart => exact ⟨0, rfl, by omega, rfl, fun k hk => by omega⟩
  case round =>
    obtain ⟨i, rfl, hi, rfl, HP⟩ := hrel
    by_cases hlt : i < s.size
    · have hki : (i : Int) < (s.size : Int) := by omega
      have hk0 : (0 : Int) ≤ (i : Int) := by omega
      by_cases h1 : s[i].toNat < 33
      · have t1 : ((s[i].toNat : Int) < 33) := by omega
        have HB := Lib.hid HE1.out.below
        go_wp2_with fail
        go_ret
        exact ⟨rfl, HB.out⟩
      · have t1 : ¬ ((s[i].toNat : Int) < 33) := by omega
        by_cases h2 : 126 < s[i].toNat
        · have t2 : ((s[i].toNat : Int) > 126) := by omega
          have HB := Lib.hid HE1.out.below
          go_wp2_with fail
          go_ret
          exact ⟨rfl, HB.out⟩
        · have t2 : ¬ ((s[i].toNat : Int) > 126) := by omega
          have HG : Hid (∀ k, k < i + 1 → ∀ h : k < s.size, wrapOk s[k]) := Lib.hid (fun k hk hks => by
            by_cases e : k = i
            · subst e; exact ⟨by omega, by omega⟩
            · exact HP.out k (by omega) hks)
          go_wp2_with fail
          go_roundw
          case rel => exact ⟨i + 1, by go_num, by omega, trivial, HG⟩
          case measure => simp [intOf]; omega
    · have hii : i = s.size := by omega
      subst hii
      have HPS : Hid (∀ c ∈ natsOf s, 33 ≤ c ∧ c ≤ 126) := Lib.hid (fun c hc => by
        obtain ⟨u, hu, rfl⟩ := List.mem_map.1 hc
        obtain ⟨k, hk, rfl⟩ := List.mem_iff_getElem.1 hu
        exact HP.out k (by rw [Lib.size_eq]; exact hk) (by rw [Lib.size_eq]; exact hk))
      clear HP hlt
      go_wp2_with fail
      refine (HN.out _).mono ?_
      rintro v w2 h2
      obtain ⟨e, L, rfl, -, he2⟩ := HE1.out.add h2
      have HE2 : Hid (Ems w w2 [⟨e, L, 0, (pAt 0, EmM.new W 1)⟩]) := Lib.hid he2
      clear h2 he2 HE1 HN
      go_wp2_with fail
      refine (HEN.out _).mono ?_
      rintro v w3 ⟨rfl, rfl⟩
      obtain ⟨m, f0, mW, mH, mx, mr⟩ := wraps_says W HSZ.out.2.2.1 (natsOf s) HPS.out
      rw [natsOf_len] at mx
      have HF3 := Lib.hid (fed1 (k' := 1000) HE2.out [⟨#[27, 91, 63, 55, 108]⟩, s] 2 rfl (by omega) (by have := HSZ.out; simp only [sum, List.map_cons, List.map_nil, List.foldr_cons, List.foldr_nil]; have : (⟨#[27, 91, 63, 55, 108]⟩ : ByteArray).size = 5 := rfl; omega) (by omega) (by have := HSZ.out; simp only [sum, List.map_cons, List.map_nil, List.foldr_cons, List.foldr_nil]; have : (⟨#[27, 91, 63, 55, 108]⟩ : ByteArray).size = 5 := rfl; omega) ((congrArg (feedM (pAt 0, EmM.new W 1)) (natsJ_7l s)).trans f0))
      obtain ⟨T, hT, hTn⟩ := rows_one mr
      have HM := Lib.hid (And.intro mH (And.intro mx (And.intro hT hTn)))
      obtain ⟨kk, hkk⟩ : ∃ kk : Nat, max ((W : Int) - (s.size : Int)) 0 = (kk : Int) := ⟨W - s.size, by omega⟩
      have HKK : Hid (kk = W - s.size) := Lib.hid (by omega)
      obtain ⟨xe, hxe⟩ : ∃ xe : Nat, min (s.size : Int) ((W : Int) - 1) = (xe : Int) := ⟨min s.size (W - 1), by omega⟩
      have HXE : Hid ((m.st.x : Int) = (xe : Int)) := Lib.hid (by rw [mx]; omega)
      have HLN := Lib.hid (fun V => line_is kk 32 (by omega) (by omega) V)
      obtain ⟨B, hB⟩ : ∃ B, B = bytesN (List.replicate kk 32) := ⟨_, rfl⟩
      have hBs : B.size = kk := by rw [hB, bytesN_size]; simp
      have hadd : s.size + B.size ≤ 9223372036854775807 := by have := HSZ.out; omega
      rw [← hB] at HLN
      have HBB := Lib.hid hB
      clear f0 mW mH mx mr hT hTn hB hBs HE2 HEN
      go_wp2_with fail
      refine HF3.out.mono ?_
      rintro v w4 ⟨rfl, L4, he4, -, -⟩
      have HE4 := Lib.hid he4
      clear he4 HF3
      go_wp2_with fail
      refine (HLN.out _).mono ?_
      rintro v w5 ⟨rfl, hb5⟩
      have HE5 := Lib.hid (HE4.out.quiet (Keep.of_below _ hb5))
      have HTX := Lib.hid (fun V (k : Keep (fun _ => False) w5 V) => emu_text V e L4 m (HE5.out.quiet k).one.r)
      rw [HM.out.2.2.1, HM.out.1] at HTX
      clear hb5 HE4 HLN
      by_cases hlong : (s.size : Int) > (W : Int)
      · obtain ⟨W1, hW1⟩ : ∃ W1 : Nat, (W : Int) - 1 = (W1 : Int) := ⟨W - 1, by omega⟩
        obtain ⟨s1, hs1⟩ : ∃ s1 : Nat, (s.size : Int) - 1 = (s1 : Int) := ⟨s.size - 1, by omega⟩
        have b1 : (W1 : Int) ≤ (s.size : Int) := by omega
        have b2 : (s1 : Int) ≤ (s.size : Int) := by omega
        have b3 : (0 : Int) ≤ (W1 : Int) := by omega
        have b4 : (0 : Int) ≤ (s1 : Int) := by omega
        have t1 : (T.toList == (s.extract 0 W1 ++ s.extract s1 s.size).toList) = true := by
          have e : T = s.extract 0 W1 ++ s.extract s1 s.size := by
            apply nats_ext
            rw [HM.out.2.2.2, natsOf_add, (natsOf_cut s W1 (by omega)).1, (natsOf_cut s s1 (by omega)).2]
            unfold wantN
            rw [natsOf_len, if_neg (by omega), show W - 1 = W1 from by omega, show s.size - 1 = s1 from by omega]
          rw [e]; exact beq_self_eq_true _
        have zz : (s.extract 0 W1).size + (s.extract s1 s.size).size ≤ 9223372036854775807 := by
          have h1 := congrArg List.length (natsOf_cut s W1 (by omega)).1
          have h2 := congrArg List.length (natsOf_cut s s1 (by omega)).2
          rw [natsOf_len, List.length_take, natsOf_len] at h1
          rw [natsOf_len, List.length_drop, natsOf_len] at h2
          have := HSZ.out
          omega
        have hxe2 : min (s.size : Int) (W1 : Int) = (xe : Int) := by rw [← hW1]; exact hxe
        go_wp2_with fail
        go_quiet (fail)
        go_wp2_with fail
        have KQ := (Keep.refl (fun _ => False) w5).drewN nq
        refine (HTX.out _ KQ).mono ?_
        rintro v w6 ⟨r, rfl, hr, hb6⟩
        have HE6 := Lib.hid ((HE5.out.quiet KQ).quiet (Keep.of_below _ hb6))
        clear KQ
        obtain ⟨A6, c6, rfl, hA6⟩ := own_form hr
        obtain ⟨g, rfl⟩ := hA6 (by omega)
        have HG0 := Lib.hid (show w6.cell? ⟨g, 0, none⟩ = some (.string T) from World.ownsRow.cells hr (g := g) rfl 0 _ rfl)
        have HGL : Hid (g < w6.heap.size) := Lib.hid (World.block_lt_of_cell? w6 _ HG0.out)
        have HS6 := Lib.hid (emu_screen w6 e L4 m HE6.out.one.r)
        clear hr hb6 HTX HE5
        go_wp2_with fail
        refine HS6.out.mono ?_
        rintro v w7 ⟨g7, c7, rfl, -, -, -, -, hb7⟩
        have HB7 := Lib.hid (HE6.out.quiet (Keep.of_below _ hb7)).below
        have g0 : w7.cell? ⟨g, 0, none⟩ = some (.string T) := ((Keep.of_below (fun _ => False) hb7).cell (p := ⟨g, 0, none⟩) HGL.out (fun x => x)).trans HG0.out
        have hxx : (m.st.x : Int) = (xe : Int) := HXE.out
        unfold scrV
        rw [hxx]
        have hfd : ∀ V : World, (Instr.field 29 (.agg #[.int .i64 (m.W : Int), .int .i64 (m.H : Int), .slice (some ⟨g7, 0, none⟩) (m.W * m.H) c7, .int .i64 (xe : Int), .int .i64 (m.st.y : Int), .bool m.hid]) 3).run Tryz.prog V = .ok (.int .i64 (xe : Int)) V := fun _ => by kernel_rfl
        clear hb7 HS6 HE6 hxx
        go_wp2_with fail
        go_ret
        exact ⟨rfl, HB7.out⟩
      · have t1 : (T.toList == (s ++ B).toList) = true := by
          have e : T = s ++ B := by
            apply nats_ext
            rw [HM.out.2.2.2, natsOf_add, HBB.out, natsOf_bytesN _ (by intro c hc; rw [List.eq_of_mem_replicate hc]; omega)]
            unfold wantN
            rw [natsOf_len, if_pos (by omega), HKK.out]
          rw [e]; exact beq_self_eq_true _
        go_wp2_with fail
        have KQ := Keep.refl (fun _ => False) w5
        refine (HTX.out _ KQ).mono ?_
        rintro v w6 ⟨r, rfl, hr, hb6⟩
        have HE6 := Lib.hid ((HE5.out.quiet KQ).quiet (Keep.of_below _ hb6))
        clear KQ
        obtain ⟨A6, c6, rfl, hA6⟩ := own_form hr
        obtain ⟨g, rfl⟩ := hA6 (by omega)
        have HG0 := Lib.hid (show w6.cell? ⟨g, 0, none⟩ = some (.string T) from World.ownsRow.cells hr (g := g) rfl 0 _ rfl)
        have HGL : Hid (g < w6.heap.size) := Lib.hid (World.block_lt_of_cell? w6 _ HG0.out)
        have HS6 := Lib.hid (emu_screen w6 e L4 m HE6.out.one.r)
        clear hr hb6 HTX HE5
        go_wp2_with fail
        refine HS6.out.mono ?_
        rintro v w7 ⟨g7, c7, rfl, -, -, -, -, hb7⟩
        have HB7 := Lib.hid (HE6.out.quiet (Keep.of_below _ hb7)).below
        have g0 : w7.cell? ⟨g, 0, none⟩ = some (.string T) := ((Keep.of_below (fun _ => False) hb7).cell (p := ⟨g, 0, none⟩) HGL.out (fun x => x)).trans HG0.out
        have hxx : (m.st.x : Int) = (xe : Int) := HXE.out
        unfold scrV
        rw [hxx]
        have hfd : ∀ V : World, (Instr.field 29 (.agg #[.int .i64 (m.W : Int), .int .i64 (m.H : Int), .slice (some ⟨g7, 0, none⟩) (m.W * m.H) c7, .int .i64 (xe : Int), .int .i64 (m.st.y : Int), .bool m.hid]) 3).run Tryz.prog V = .ok (.int .i64 (xe : Int)) V := fun _ => by kernel_rfl
        clear hb7 HS6 HE6 hxx
        go_wp2_with fail
        go_ret
        exact ⟨rfl, HB7.out⟩
end Go.Proofs.YtmlceohmjkaadaaGreatDoor
