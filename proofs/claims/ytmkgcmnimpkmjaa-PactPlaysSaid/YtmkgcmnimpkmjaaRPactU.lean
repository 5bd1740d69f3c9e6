/- The document's Take of an Option, our sides. Own work. -/
import Derived.Test.YtmkgcmnimpkmjaaRPactT
namespace Go.Proofs.Ytmkgcmnimpkmjaa
set_option linter.unusedVariables false
set_option linter.unusedSimpArgs false
open Go.RowKit

section
variable (r : Nat) (name : ByteArray) (m : Pm) (w : World)

set_option maxRecDepth 100000 in
set_option maxHeartbeats 16000000 in
theorem rtake_us253 (o : Nat) (s : ByteArray) (h : RefAt w r name m) (hok : m.Ok) (ho : o ≤ 255) (hs : m.sent < 1000000) :
    Calls Try.prog 16 #[.pointer (some ⟨r, 0, none⟩), .agg #[.int .i64 2, .int .i64 253, .int .i64 (o : Int), .string s]] w fun e w' =>
      e = .returned (.string ⟨(m.heardUsT o true).toArray⟩) ∧ RefAt w' r name (m.heardUs o true) ∧ Keep (· = r) w w' := by
  obtain ⟨Wt, hWt⟩ : ∃ Wt, Wt = w.alloc (.cells #[.int .i64 2, .int .i64 253, .int .i64 (o : Int), .string s] 29) := ⟨_, rfl⟩
  have hT : RefAt Wt r name m := by rw [hWt]; exact h.alloc _
  have kT : Keep (· = r) w Wt := by rw [hWt]; exact (Keep.refl _ w).alloc _
  have zT : w.heap.size < Wt.heap.size := by rw [hWt]; simp
  have hp := h.lt
  have d1 : Wt.cell? ⟨w.heap.size, 1, none⟩ = some (.int .i64 253) := by rw [hWt]; exact (Cell.box (w := w) 1 rfl).1
  have d2 : Wt.cell? ⟨w.heap.size, 2, none⟩ = some (.int .i64 (o : Int)) := by rw [hWt]; exact (Cell.box (w := w) 2 rfl).1
  have HD : Hid (∀ W, Below Wt.heap.size Wt W → W.cell? ⟨w.heap.size, 1, none⟩ = some (.int .i64 253) ∧ W.cell? ⟨w.heap.size, 2, none⟩ = some (.int .i64 (o : Int)) ∧ W.cell? ⟨r, 3 + o * 2, none⟩ = some (.int .i64 (m.us o).1) ∧ W.cell? ⟨r, 3 + o * 2 + 1, none⟩ = some (.bool (m.us o).2)) :=
    Lib.hid (fun W q => ⟨(q.cell (p := ⟨w.heap.size, 1, none⟩) zT).trans d1, (q.cell (p := ⟨w.heap.size, 2, none⟩) zT).trans d2, ((hT.below q).us o ho).1.1, ((hT.below q).us o ho).2.1⟩)
  have HF : Hid (∀ W, Below Wt.heap.size Wt W → W.frozen? ⟨r, 3 + o * 2, none⟩ = false ∧ W.frozen? ⟨r, 3 + o * 2 + 1, none⟩ = false) :=
    Lib.hid (fun W q => ⟨((hT.below q).us o ho).1.2, ((hT.below q).us o ho).2.2⟩)
  have H := Lib.hid hT
  have K := Lib.hid kT
  have HW := Lib.hid hWt
  have o0 : (0 : Int) ≤ (o : Int) := by omega
  have o1 : (o : Int) < 256 := by omega
  have o2 : (o : Int) ≤ 255 := by omega
  have o3 : ¬ (o : Int) < 0 := by omega
  have o4 : ¬ (255 : Int) < (o : Int) := by omega
  have HZ := Lib.hid zT
  have HPT := Lib.hid hT.lt
  have HPW := Lib.hid hp
  obtain ⟨ag, hag⟩ : ∃ ag, ag = decide ((o : Int) ∈ agreedL true) := ⟨_, rfl⟩
  have HA := Lib.hid (fun W => rside_heard (m.us o).1 (m.us o).2 true ag W (hok.us o))
  obtain ⟨s', hs1⟩ : ∃ s, s = (m.hearR true o true).1 := ⟨_, rfl⟩
  obtain ⟨n, hn1⟩ : ∃ n, n = (m.hearR true o true).2 := ⟨_, rfl⟩
  have HA' : Hid (∀ W, Calls Try.prog 38 #[.agg #[.int .i64 (m.us o).1, .bool (m.us o).2], .bool true, .bool ag] W fun e w' => e = .returned (.tuple #[.agg #[.int .i64 s', .bool false], .int .i64 n]) ∧ Below W.heap.size W w') := by rw [hs1, hn1, Pm.hearR, ← hag]; exact HA
  have HG : Hid (∀ W A, Ints W (some ⟨A, 0, none⟩) 4 [0, 3, 24, 31] → Calls Try.prog 39 #[.int .i64 (o : Int), .slice (some ⟨A, 0, none⟩) 4 4] W fun e w' => e = .returned (.bool ag) ∧ W = w') := Lib.hid (fun W A q => by rw [hag]; exact agree_any _ 4 4 _ _ W q)
  have HSD := Lib.hid (fun W (q : RefAt W r name (m.turn true o (s', false) 0)) => rsend_any r name m W true o (s', false) n o 251 252 rfl rfl q ho hs)
  have HPUT := Lib.hid (fun W (q : RefAt W r name m) => q.putUs o ho (s', false))
  obtain ⟨b1, hb1⟩ : ∃ b, (s' == 1) = b := ⟨_, rfl⟩
  obtain ⟨b0, hb0⟩ : ∃ b, ((m.us o).1 != 1) = b := ⟨_, rfl⟩
  obtain ⟨b31, hb31⟩ : ∃ b, ((o : Int) == 31) = b := ⟨_, rfl⟩
  have HTL := Lib.hid (fun W (q : RefAt W r name (m.turn true o (s', false) n)) => rtell_any r name _ W q hok.w hok.h)
  obtain ⟨T1, hT1⟩ : ∃ T : ByteArray, T = ⟨(cmdL true o n).toArray⟩ := ⟨_, rfl⟩
  obtain ⟨T2, hT2⟩ : ∃ T : ByteArray, T = ⟨(sizeL (m.turn true o (s', false) n)).toArray⟩ := ⟨_, rfl⟩
  rw [← hT2] at HTL
  rw [← hT1] at HSD
  have z1 : T1.size ≤ 3 := by rw [hT1, size_mk]; exact cmd_len _ _ _
  have z2 : T2.size ≤ 13 := by rw [hT2, size_mk]; exact sizeL_len _
  have z3 : T1.size + T2.size ≤ 9223372036854775807 := by omega
  have HR : Hid (if b31 = true ∧ b1 = true ∧ b0 = true then m.heardUs o true = (m.turn true o (s', false) n).tell ∧ (⟨(m.heardUsT o true).toArray⟩ : ByteArray) = T1 ++ T2 else m.heardUs o true = m.turn true o (s', false) n ∧ (⟨(m.heardUsT o true).toArray⟩ : ByteArray) = T1) := Lib.hid (by
    have e1 : m.hear true o true = m.turn true o (s', false) n := by rw [hs1, hn1]; rfl
    have e2 : m.hearT true o true = cmdL true o n := by rw [hn1]; rfl
    have e3 : (b31 = true ∧ b1 = true ∧ b0 = true) ↔ ((m.us 31).1 ≠ 1 ∧ ((m.hear true o true).us 31).1 = 1) := by
      subst hb31 hb1 hb0
      rw [e1]
      by_cases e : (31 : Int) = (o : Int)
      · simp only [Pm.turn, ← e, setS_same]; simp [and_comm]
      · simp only [Pm.turn, setS_other _ _ e]
        have : ¬ (o : Int) = 31 := fun q => e q.symm
        simp [this]
    unfold Pm.heardUs Pm.heardUsT
    by_cases e : (m.us 31).1 ≠ 1 ∧ ((m.hear true o true).us 31).1 = 1
    · rw [if_pos (e3.2 e), if_pos e, if_pos e, hT1, hT2, mk_add, e1, e2]; exact ⟨rfl, rfl⟩
    · rw [if_neg (fun q => e (e3.1 q)), if_neg e, if_neg e, hT1, e1, e2]; exact ⟨rfl, rfl⟩)
  clear hs1 hn1 HA hag hT kT zT hs ho hok h hT1 hT2 z1 z2
  generalize (m.us o).1 = s0 at *
  generalize (m.us o).2 = t0 at *
  go_enter Try.func16, Try.ntmps16
  go_upto_region 13 with fail
  rw [← HW.out]
  clear HW hWt d1 d2
  obtain ⟨e1, e2, e3, e4⟩ := HD.out _ (Below.refl _ _)
  have zz := HZ.out
  have pp := HPT.out
  go_region
  clear e1 e2 e3 e4 zz pp
  obtain ⟨Wu, hWu⟩ : ∃ Wu, Wu = (Wt.alloc (.cells #[.int .i64 s0, .bool t0] 39)).drew := ⟨_, rfl⟩
  have zu : Wt.heap.size < Wu.heap.size := by rw [hWu]; simp
  obtain ⟨g7, hg7⟩ : ∃ g, g = Wt.heap.size := ⟨_, rfl⟩
  have HU : Hid (Below Wt.heap.size Wt Wu) := Lib.hid (by rw [hWu]; exact ((Below.refl _ _).alloc (Nat.le_refl _) _).drew)
  have HC7 : Hid (Cell Wu g7 0 (.int .i64 s0) ∧ Cell Wu g7 1 (.bool t0)) := Lib.hid (by rw [hWu, hg7]; exact ⟨(Cell.box 0 rfl).drew, (Cell.box 1 rfl).drew⟩)
  have HG7 : Hid (g7 < Wu.heap.size ∧ g7 ≠ r) := Lib.hid (by have := HPT.out; omega)
  have HD2 : Hid (∀ W, Below Wu.heap.size Wu W → W.cell? ⟨w.heap.size, 1, none⟩ = some (.int .i64 253) ∧ W.cell? ⟨w.heap.size, 2, none⟩ = some (.int .i64 (o : Int)) ∧ W.cell? ⟨g7, 0, none⟩ = some (.int .i64 s0) ∧ W.cell? ⟨g7, 1, none⟩ = some (.bool t0)) :=
    Lib.hid (fun W q => ⟨(HD.out W (HU.out.trans (q.mono (by omega)))).1, (HD.out W (HU.out.trans (q.mono (by omega)))).2.1, (HC7.out.1.below q).1, (HC7.out.2.below q).1⟩)
  rw [← hWu, ← hg7]
  have HWU := Lib.hid hWu
  clear hWu hg7 zu
  go_upto_region 14 with fail
  go_cut [8, 9] from 11 to 139 (fun bv nv wx => ∃ g, bv = .pointer (some ⟨g, 0, none⟩) ∧ nv = .int .i64 n ∧ Hid (Wu.heap.size ≤ g) ∧ Hid (Cell wx g 0 (.int .i64 s') ∧ Cell wx g 1 (.bool false)) ∧ Hid (Below Wu.heap.size Wu wx))
  case first =>
    refine wp_region_noPanic ?_
    refine wp_region_held_drew (S := fun W => W.cell? ⟨w.heap.size, 1, none⟩ = some (.int .i64 253) ∧ W.cell? ⟨w.heap.size, 2, none⟩ = some (.int .i64 (o : Int)) ∧ W.cell? ⟨g7, 0, none⟩ = some (.int .i64 s0) ∧ W.cell? ⟨g7, 1, none⟩ = some (.bool t0)) (by kernel_rfl) (HD2.out _ (Below.refl _ _).drew) (fun hHeld => ?_)
    have HB0 : Hid (Below Wu.heap.size Wu Wu) := Lib.hid (Below.refl _ _)
    have HB5 := HB0
    refine wpAnyH_take (i := 0) (oi := _) (v := ?vu2530_1) rfl (by kernel_rfl) (by kernel_rfl) (by kernel_rfl) (fun _ _ _ h => h) (Or.inl ⟨by rfl, ?hyu2530_1⟩) (by assumption) ?restu2530_1
    case hyu2530_1 => (intro w hSw; (try dsimp only at hSw); (try simp only [List.getElem_toArray, List.getElem_cons_zero, List.getElem_cons_succ]); go_simp; (try with_reducible rfl))
    (try simp only [Act.put, List.setIfInBounds_toArray, List.set_cons_zero, List.set_cons_succ, List.getElem_toArray, List.getElem_cons_zero, List.getElem_cons_succ])
    refine wpAnyH_take (i := 1) (oi := _) (v := ?vu2531_2) rfl (by kernel_rfl) (by kernel_rfl) (by kernel_rfl) (fun _ _ _ h => h) (Or.inl ⟨by rfl, ?hyu2531_2⟩) (by assumption) ?restu2531_2
    case hyu2531_2 => (intro w hSw; (try dsimp only at hSw); (try simp only [List.getElem_toArray, List.getElem_cons_zero, List.getElem_cons_succ]); go_simp; (try with_reducible rfl))
    (try simp only [Act.put, List.setIfInBounds_toArray, List.set_cons_zero, List.set_cons_succ, List.getElem_toArray, List.getElem_cons_zero, List.getElem_cons_succ])
    refine wpAnyH_take (i := 4) (oi := _) (v := ?vu2534_3) rfl (by kernel_rfl) (by kernel_rfl) (by kernel_rfl) (fun _ _ _ h => h) (Or.inl ⟨by rfl, ?hyu2534_3⟩) (by assumption) ?restu2534_3
    case hyu2534_3 => (intro w hSw; (try dsimp only at hSw); (try simp only [List.getElem_toArray, List.getElem_cons_zero, List.getElem_cons_succ]); go_simp; (try with_reducible rfl))
    (try simp only [Act.put, List.setIfInBounds_toArray, List.set_cons_zero, List.set_cons_succ, List.getElem_toArray, List.getElem_cons_zero, List.getElem_cons_succ])
    refine wpAnyH_take (i := 2) (oi := _) (v := ?vu2532_4) rfl (by kernel_rfl) (by kernel_rfl) (by kernel_rfl) (fun _ _ _ h => h) (Or.inl ⟨by rfl, ?hyu2532_4⟩) (by assumption) ?restu2532_4
    case hyu2532_4 => (intro w hSw; (try dsimp only at hSw); (try simp only [List.getElem_toArray, List.getElem_cons_zero, List.getElem_cons_succ]); go_simp; (try with_reducible rfl))
    (try simp only [Act.put, List.setIfInBounds_toArray, List.set_cons_zero, List.set_cons_succ, List.getElem_toArray, List.getElem_cons_zero, List.getElem_cons_succ])
    refine wpAnyH_take (i := 5) (oi := _) (v := ?vu2535_5) rfl (by kernel_rfl) (by kernel_rfl) (by kernel_rfl) (fun _ _ _ h => h) (Or.inl ⟨by rfl, ?hyu2535_5⟩) (by assumption) ?restu2535_5
    case hyu2535_5 => (intro w hSw; (try dsimp only at hSw); (try simp only [List.getElem_toArray, List.getElem_cons_zero, List.getElem_cons_succ]); go_simp; (try with_reducible rfl))
    (try simp only [Act.put, List.setIfInBounds_toArray, List.set_cons_zero, List.set_cons_succ, List.getElem_toArray, List.getElem_cons_zero, List.getElem_cons_succ])
    refine wpAnyH_take (i := 3) (oi := _) (v := ?vu2533_6) rfl (by kernel_rfl) (by kernel_rfl) (by kernel_rfl) (fun _ _ _ h => h) (Or.inl ⟨by rfl, ?hyu2533_6⟩) (by assumption) ?restu2533_6
    case hyu2533_6 => (intro w hSw; (try dsimp only at hSw); (try simp only [List.getElem_toArray, List.getElem_cons_zero, List.getElem_cons_succ]); go_simp; (try with_reducible rfl))
    (try simp only [Act.put, List.setIfInBounds_toArray, List.set_cons_zero, List.set_cons_succ, List.getElem_toArray, List.getElem_cons_zero, List.getElem_cons_succ])
    refine wpAnyH_ready (rs := [6, 12]) (by kernel_rfl) (by simp) ?_
    refine AllReadyH.cons (o := _) rfl (fun K hK => ?_) (AllReadyH.cons (o := _) rfl (fun K hK => ?_) AllReadyH.nil)
    · (try simp only [List.getElem_toArray, List.getElem_cons_zero, List.getElem_cons_succ])
      go_simp
      refine hK.out _ _ ?_ (fun hHeld => ?_)
      · exact HD2.out _ (by repeat (first | (with_reducible exact Below.refl _ _) | (with_reducible exact HB5.out) | (refine Below.drew ?_) | (refine Below.setCell ?_ (by first | (simp; done) | (have := HB5.out.size; simp; omega) | (have := HB5.out.size; omega)) _) | (refine Below.alloc ?_ (by first | (simp; done) | (have := HB5.out.size; simp; omega) | (have := HB5.out.size; omega)) _)))
      clear hK K
      (try simp only [Act.put, List.setIfInBounds_toArray, List.set_cons_zero, List.set_cons_succ, List.getElem_toArray, List.getElem_cons_zero, List.getElem_cons_succ])
      refine wpAnyH_ready (rs := [7, 12]) (by kernel_rfl) (by simp) ?_
      refine AllReadyH.cons (o := _) rfl (fun K hK => ?_) (AllReadyH.cons (o := _) rfl (fun K hK => ?_) AllReadyH.nil)
      · (try simp only [List.getElem_toArray, List.getElem_cons_zero, List.getElem_cons_succ])
        go_simp
        go_at_call 39
        refine (HG.out _ _ (by first | exact ints_row (w := Wu.drew) rfl [0, 3, 24, 31] 4 rfl 3 (by decide) (by simp) (Below.refl _ _) | exact ints_row (w := Wu) rfl [0, 3, 24, 31] 4 rfl 3 (by decide) (by simp) (Below.refl _ _) | exact ints_row (w := Wu.drew) rfl [0, 3, 24, 31] 4 rfl 3 (by decide) (by simp) ((Below.refl _ _).alloc (by simp) _) | exact ints_row (w := Wu) rfl [0, 3, 24, 31] 4 rfl 3 (by decide) (by simp) (Below.refl _ _).drew | exact ints_row (w := Wu) rfl [0, 3, 24, 31] 4 rfl 3 (by decide) (by simp) ((Below.refl _ _).drew.alloc (by simp) _) | exact ints_row (w := Wu) rfl [0, 3, 24, 31] 4 rfl 3 (by decide) (by simp) (((Below.refl _ _).alloc (by simp) _).drew) | exact ints_row (w := Wu.drew.alloc (.cells #[.int .i64 0, .bool false] 39)) (by simp) [0, 3, 24, 31] 4 rfl 3 (by decide) (by simp) (Below.refl _ _) | exact ints_row (w := Wu.alloc (.cells #[.int .i64 0, .bool false] 39)) (by simp) [0, 3, 24, 31] 4 rfl 3 (by decide) (by simp) (Below.refl _ _).drew)).mono ?_
        rintro e w4 ⟨rfl, rfl⟩
        refine hK.out _ _ ?_ (fun hHeld => ?_)
        · exact HD2.out _ (by repeat (first | (with_reducible exact Below.refl _ _) | (with_reducible exact HB5.out) | (refine Below.drew ?_) | (refine Below.setCell ?_ (by first | (simp; done) | (have := HB5.out.size; simp; omega) | (have := HB5.out.size; omega)) _) | (refine Below.alloc ?_ (by first | (simp; done) | (have := HB5.out.size; simp; omega) | (have := HB5.out.size; omega)) _)))
        clear hK K
        (try simp only [Act.put, List.setIfInBounds_toArray, List.set_cons_zero, List.set_cons_succ, List.getElem_toArray, List.getElem_cons_zero, List.getElem_cons_succ])
        refine wpAnyH_ready (rs := [8, 12]) (by kernel_rfl) (by simp) ?_
        refine AllReadyH.cons (o := _) rfl (fun K hK => ?_) (AllReadyH.cons (o := _) rfl (fun K hK => ?_) AllReadyH.nil)
        · (try simp only [List.getElem_toArray, List.getElem_cons_zero, List.getElem_cons_succ])
          go_simp
          go_at_call 38
          refine (HA'.out _).mono ?_
          rintro e w5 ⟨rfl, hb⟩
          have HB5 : Hid (Below Wu.heap.size Wu w5) := Lib.hid (Below.trans (by repeat (first | (with_reducible exact Below.refl _ _) | (with_reducible exact HB0.out) | (refine Below.drew ?_) | (refine Below.setCell ?_ (by first | (simp; done) | (have := HB0.out.size; simp; omega) | (have := HB0.out.size; omega)) _) | (refine Below.alloc ?_ (by first | (simp; done) | (have := HB0.out.size; simp; omega) | (have := HB0.out.size; omega)) _))) (hb.mono (by simp <;> omega)))
          (try have B0 : Cell w5 Wu.heap.size 0 (.int .i64 0) ∧ Cell w5 Wu.heap.size 1 (.bool false) := ⟨Cell.below (by exact Cell.alloc (w := Wu.drew.alloc (.cells #[.int .i64 0, .bool false] 39)) (Cell.box (w := Wu.drew) (cs := #[.int .i64 0, .bool false]) (t := 39) 0 rfl) _) hb, Cell.below (by exact Cell.alloc (w := Wu.drew.alloc (.cells #[.int .i64 0, .bool false] 39)) (Cell.box (w := Wu.drew) (cs := #[.int .i64 0, .bool false]) (t := 39) 1 rfl) _) hb⟩)
          (try have B1 : Cell w5 (Wu.heap.size + 1) 0 (.int .i64 0) ∧ Cell w5 (Wu.heap.size + 1) 1 (.bool false) := ⟨Cell.below (by have q := Cell.box (w := Wu.drew.alloc (.cells #[.int .i64 0, .int .i64 3, .int .i64 24, .int .i64 31] 3)) (cs := #[.int .i64 0, .bool false]) (t := 39) 0 rfl; simp only [World.size_alloc, World.size_drew] at q; exact q) hb, Cell.below (by have q := Cell.box (w := Wu.drew.alloc (.cells #[.int .i64 0, .int .i64 3, .int .i64 24, .int .i64 31] 3)) (cs := #[.int .i64 0, .bool false]) (t := 39) 1 rfl; simp only [World.size_alloc, World.size_drew] at q; exact q) hb⟩)
          (try (have b0 := B0.1.1; have b1 := B0.2.1; have b2 := B0.1.2; have b3 := B0.2.2))
          (try (have b0 := B1.1.1; have b1 := B1.2.1; have b2 := B1.1.2; have b3 := B1.2.2))
          refine hK.out _ _ ?_ (fun hHeld => ?_)
          · exact HD2.out _ (by repeat (first | (with_reducible exact Below.refl _ _) | (with_reducible exact HB5.out) | (refine Below.drew ?_) | (refine Below.setCell ?_ (by first | (simp; done) | (have := HB5.out.size; simp; omega) | (have := HB5.out.size; omega)) _) | (refine Below.alloc ?_ (by first | (simp; done) | (have := HB5.out.size; simp; omega) | (have := HB5.out.size; omega)) _)))
          clear hK K
          (try simp only [Act.put, List.setIfInBounds_toArray, List.set_cons_zero, List.set_cons_succ, List.getElem_toArray, List.getElem_cons_zero, List.getElem_cons_succ])
          refine wpAnyH_take (i := 9) (oi := _) (v := ?vu2539_7) rfl (by kernel_rfl) (by kernel_rfl) (by kernel_rfl) (fun _ _ _ h => h) (Or.inl ⟨by rfl, ?hyu2539_7⟩) (by assumption) ?restu2539_7
          case hyu2539_7 => (intro w hSw; (try dsimp only at hSw); (try simp only [List.getElem_toArray, List.getElem_cons_zero, List.getElem_cons_succ]); go_simp; (try with_reducible rfl))
          (try simp only [Act.put, List.setIfInBounds_toArray, List.set_cons_zero, List.set_cons_succ, List.getElem_toArray, List.getElem_cons_zero, List.getElem_cons_succ])
          refine wpAnyH_take (i := 10) (oi := _) (v := ?vu25310_8) rfl (by kernel_rfl) (by kernel_rfl) (by kernel_rfl) (fun _ _ _ h => h) (Or.inl ⟨by rfl, ?hyu25310_8⟩) (by assumption) ?restu25310_8
          case hyu25310_8 => (intro w hSw; (try dsimp only at hSw); (try simp only [List.getElem_toArray, List.getElem_cons_zero, List.getElem_cons_succ]); go_simp; (try with_reducible rfl))
          (try simp only [Act.put, List.setIfInBounds_toArray, List.set_cons_zero, List.set_cons_succ, List.getElem_toArray, List.getElem_cons_zero, List.getElem_cons_succ])
          refine wpAnyH_take (i := 11) (oi := _) (v := ?vu25311_9) rfl (by kernel_rfl) (by kernel_rfl) (by kernel_rfl) (fun _ _ _ h => h) (Or.inl ⟨by rfl, ?hyu25311_9⟩) (by assumption) ?restu25311_9
          case hyu25311_9 => (intro w hSw; (try dsimp only at hSw); (try simp only [List.getElem_toArray, List.getElem_cons_zero, List.getElem_cons_succ]); go_simp; (try with_reducible rfl))
          (try simp only [Act.put, List.setIfInBounds_toArray, List.set_cons_zero, List.set_cons_succ, List.getElem_toArray, List.getElem_cons_zero, List.getElem_cons_succ])
          refine wpAnyH_ready (rs := [12]) (by kernel_rfl) (by simp) ?_
          refine AllReadyH.cons (o := _) rfl (fun K hK => ?_) AllReadyH.nil
          · (try simp only [List.getElem_toArray, List.getElem_cons_zero, List.getElem_cons_succ])
            go_simp
            refine hK.out _ _ ?_ (fun hHeld => ?_)
            · exact HD2.out _ (by repeat (first | (with_reducible exact Below.refl _ _) | (with_reducible exact HB5.out) | (refine Below.drew ?_) | (refine Below.setCell ?_ (by first | (simp; done) | (have := HB5.out.size; simp; omega) | (have := HB5.out.size; omega)) _) | (refine Below.alloc ?_ (by first | (simp; done) | (have := HB5.out.size; simp; omega) | (have := HB5.out.size; omega)) _)))
            clear hK K
            (try simp only [Act.put, List.setIfInBounds_toArray, List.set_cons_zero, List.set_cons_succ, List.getElem_toArray, List.getElem_cons_zero, List.getElem_cons_succ])
            refine wpAnyH_ready (rs := [13]) (by kernel_rfl) (by simp) ?_
            refine AllReadyH.cons (o := _) rfl (fun K hK => ?_) AllReadyH.nil
            · (try simp only [List.getElem_toArray, List.getElem_cons_zero, List.getElem_cons_succ])
              go_simp
              refine hK.out _ _ ?_ (fun hHeld => ?_)
              · exact HD2.out _ (by repeat (first | (with_reducible exact Below.refl _ _) | (with_reducible exact HB5.out) | (refine Below.drew ?_) | (refine Below.setCell ?_ (by first | (simp; done) | (have := HB5.out.size; simp; omega) | (have := HB5.out.size; omega)) _) | (refine Below.alloc ?_ (by first | (simp; done) | (have := HB5.out.size; simp; omega) | (have := HB5.out.size; omega)) _)))
              clear hK K
              (try simp only [Act.put, List.setIfInBounds_toArray, List.set_cons_zero, List.set_cons_succ, List.getElem_toArray, List.getElem_cons_zero, List.getElem_cons_succ])
              refine wpAnyH_take (i := 14) (oi := _) (v := ?vu25314_10) rfl (by kernel_rfl) (by kernel_rfl) (by kernel_rfl) (fun _ _ _ h => h) (Or.inl ⟨by rfl, ?hyu25314_10⟩) (by assumption) ?restu25314_10
              case hyu25314_10 => (intro w hSw; (try dsimp only at hSw); (try simp only [List.getElem_toArray, List.getElem_cons_zero, List.getElem_cons_succ]); go_simp; (try with_reducible rfl))
              (try simp only [Act.put, List.setIfInBounds_toArray, List.set_cons_zero, List.set_cons_succ, List.getElem_toArray, List.getElem_cons_zero, List.getElem_cons_succ])
              refine wpAnyH_done (by kernel_rfl) ?_ _
              refine NoPanic.normal ?_
              go_wp2_with fail
              go_meet
              exact ⟨_, rfl, rfl, Lib.hid (by first | omega | exact Nat.le_refl _ | exact Nat.le_succ _ | exact HB5.out.size), Lib.hid (by first | exact ⟨(B0.1.set _).far (by omega) _, (B0.2.far (by omega) _).set _⟩ | exact ⟨(B1.1.set _).far (by omega) _, (B1.2.far (by omega) _).set _⟩ | exact ⟨Cell.box 0 rfl, Cell.box 1 rfl⟩), Lib.hid (by repeat (first | (with_reducible exact Below.refl _ _) | (with_reducible exact HB5.out) | (refine Below.drew ?_) | (refine Below.setCell ?_ (by first | (simp; done) | (have := HB5.out.size; simp; omega) | (have := HB5.out.size; omega)) _) | (refine Below.alloc ?_ (by first | (simp; done) | (have := HB5.out.size; simp; omega) | (have := HB5.out.size; omega)) _)))⟩
        · (try simp only [List.getElem_toArray, List.getElem_cons_zero, List.getElem_cons_succ])
          go_simp
          refine hK.out _ _ ?_ (fun hHeld => ?_)
          · exact HD2.out _ (by repeat (first | (with_reducible exact Below.refl _ _) | (with_reducible exact HB5.out) | (refine Below.drew ?_) | (refine Below.setCell ?_ (by first | (simp; done) | (have := HB5.out.size; simp; omega) | (have := HB5.out.size; omega)) _) | (refine Below.alloc ?_ (by first | (simp; done) | (have := HB5.out.size; simp; omega) | (have := HB5.out.size; omega)) _)))
          clear hK K
          (try simp only [Act.put, List.setIfInBounds_toArray, List.set_cons_zero, List.set_cons_succ, List.getElem_toArray, List.getElem_cons_zero, List.getElem_cons_succ])
          refine wpAnyH_ready (rs := [8]) (by kernel_rfl) (by simp) ?_
          refine AllReadyH.cons (o := _) rfl (fun K hK => ?_) AllReadyH.nil
          · (try simp only [List.getElem_toArray, List.getElem_cons_zero, List.getElem_cons_succ])
            go_simp
            go_at_call 38
            refine (HA'.out _).mono ?_
            rintro e w5 ⟨rfl, hb⟩
            have HB5 : Hid (Below Wu.heap.size Wu w5) := Lib.hid (Below.trans (by repeat (first | (with_reducible exact Below.refl _ _) | (with_reducible exact HB0.out) | (refine Below.drew ?_) | (refine Below.setCell ?_ (by first | (simp; done) | (have := HB0.out.size; simp; omega) | (have := HB0.out.size; omega)) _) | (refine Below.alloc ?_ (by first | (simp; done) | (have := HB0.out.size; simp; omega) | (have := HB0.out.size; omega)) _))) (hb.mono (by simp <;> omega)))
            (try have B0 : Cell w5 Wu.heap.size 0 (.int .i64 0) ∧ Cell w5 Wu.heap.size 1 (.bool false) := ⟨Cell.below (by exact Cell.alloc (w := Wu.drew.alloc (.cells #[.int .i64 0, .bool false] 39)) (Cell.box (w := Wu.drew) (cs := #[.int .i64 0, .bool false]) (t := 39) 0 rfl) _) hb, Cell.below (by exact Cell.alloc (w := Wu.drew.alloc (.cells #[.int .i64 0, .bool false] 39)) (Cell.box (w := Wu.drew) (cs := #[.int .i64 0, .bool false]) (t := 39) 1 rfl) _) hb⟩)
            (try have B1 : Cell w5 (Wu.heap.size + 1) 0 (.int .i64 0) ∧ Cell w5 (Wu.heap.size + 1) 1 (.bool false) := ⟨Cell.below (by have q := Cell.box (w := Wu.drew.alloc (.cells #[.int .i64 0, .int .i64 3, .int .i64 24, .int .i64 31] 3)) (cs := #[.int .i64 0, .bool false]) (t := 39) 0 rfl; simp only [World.size_alloc, World.size_drew] at q; exact q) hb, Cell.below (by have q := Cell.box (w := Wu.drew.alloc (.cells #[.int .i64 0, .int .i64 3, .int .i64 24, .int .i64 31] 3)) (cs := #[.int .i64 0, .bool false]) (t := 39) 1 rfl; simp only [World.size_alloc, World.size_drew] at q; exact q) hb⟩)
            (try (have b0 := B0.1.1; have b1 := B0.2.1; have b2 := B0.1.2; have b3 := B0.2.2))
            (try (have b0 := B1.1.1; have b1 := B1.2.1; have b2 := B1.1.2; have b3 := B1.2.2))
            refine hK.out _ _ ?_ (fun hHeld => ?_)
            · exact HD2.out _ (by repeat (first | (with_reducible exact Below.refl _ _) | (with_reducible exact HB5.out) | (refine Below.drew ?_) | (refine Below.setCell ?_ (by first | (simp; done) | (have := HB5.out.size; simp; omega) | (have := HB5.out.size; omega)) _) | (refine Below.alloc ?_ (by first | (simp; done) | (have := HB5.out.size; simp; omega) | (have := HB5.out.size; omega)) _)))
            clear hK K
            (try simp only [Act.put, List.setIfInBounds_toArray, List.set_cons_zero, List.set_cons_succ, List.getElem_toArray, List.getElem_cons_zero, List.getElem_cons_succ])
            refine wpAnyH_take (i := 9) (oi := _) (v := ?vu2539_11) rfl (by kernel_rfl) (by kernel_rfl) (by kernel_rfl) (fun _ _ _ h => h) (Or.inl ⟨by rfl, ?hyu2539_11⟩) (by assumption) ?restu2539_11
            case hyu2539_11 => (intro w hSw; (try dsimp only at hSw); (try simp only [List.getElem_toArray, List.getElem_cons_zero, List.getElem_cons_succ]); go_simp; (try with_reducible rfl))
            (try simp only [Act.put, List.setIfInBounds_toArray, List.set_cons_zero, List.set_cons_succ, List.getElem_toArray, List.getElem_cons_zero, List.getElem_cons_succ])
            refine wpAnyH_take (i := 10) (oi := _) (v := ?vu25310_12) rfl (by kernel_rfl) (by kernel_rfl) (by kernel_rfl) (fun _ _ _ h => h) (Or.inl ⟨by rfl, ?hyu25310_12⟩) (by assumption) ?restu25310_12
            case hyu25310_12 => (intro w hSw; (try dsimp only at hSw); (try simp only [List.getElem_toArray, List.getElem_cons_zero, List.getElem_cons_succ]); go_simp; (try with_reducible rfl))
            (try simp only [Act.put, List.setIfInBounds_toArray, List.set_cons_zero, List.set_cons_succ, List.getElem_toArray, List.getElem_cons_zero, List.getElem_cons_succ])
            refine wpAnyH_take (i := 11) (oi := _) (v := ?vu25311_13) rfl (by kernel_rfl) (by kernel_rfl) (by kernel_rfl) (fun _ _ _ h => h) (Or.inl ⟨by rfl, ?hyu25311_13⟩) (by assumption) ?restu25311_13
            case hyu25311_13 => (intro w hSw; (try dsimp only at hSw); (try simp only [List.getElem_toArray, List.getElem_cons_zero, List.getElem_cons_succ]); go_simp; (try with_reducible rfl))
            (try simp only [Act.put, List.setIfInBounds_toArray, List.set_cons_zero, List.set_cons_succ, List.getElem_toArray, List.getElem_cons_zero, List.getElem_cons_succ])
            refine wpAnyH_ready (rs := [13]) (by kernel_rfl) (by simp) ?_
            refine AllReadyH.cons (o := _) rfl (fun K hK => ?_) AllReadyH.nil
            · (try simp only [List.getElem_toArray, List.getElem_cons_zero, List.getElem_cons_succ])
              go_simp
              refine hK.out _ _ ?_ (fun hHeld => ?_)
              · exact HD2.out _ (by repeat (first | (with_reducible exact Below.refl _ _) | (with_reducible exact HB5.out) | (refine Below.drew ?_) | (refine Below.setCell ?_ (by first | (simp; done) | (have := HB5.out.size; simp; omega) | (have := HB5.out.size; omega)) _) | (refine Below.alloc ?_ (by first | (simp; done) | (have := HB5.out.size; simp; omega) | (have := HB5.out.size; omega)) _)))
              clear hK K
              (try simp only [Act.put, List.setIfInBounds_toArray, List.set_cons_zero, List.set_cons_succ, List.getElem_toArray, List.getElem_cons_zero, List.getElem_cons_succ])
              refine wpAnyH_take (i := 14) (oi := _) (v := ?vu25314_14) rfl (by kernel_rfl) (by kernel_rfl) (by kernel_rfl) (fun _ _ _ h => h) (Or.inl ⟨by rfl, ?hyu25314_14⟩) (by assumption) ?restu25314_14
              case hyu25314_14 => (intro w hSw; (try dsimp only at hSw); (try simp only [List.getElem_toArray, List.getElem_cons_zero, List.getElem_cons_succ]); go_simp; (try with_reducible rfl))
              (try simp only [Act.put, List.setIfInBounds_toArray, List.set_cons_zero, List.set_cons_succ, List.getElem_toArray, List.getElem_cons_zero, List.getElem_cons_succ])
              refine wpAnyH_done (by kernel_rfl) ?_ _
              refine NoPanic.normal ?_
              go_wp2_with fail
              go_meet
              exact ⟨_, rfl, rfl, Lib.hid (by first | omega | exact Nat.le_refl _ | exact Nat.le_succ _ | exact HB5.out.size), Lib.hid (by first | exact ⟨(B0.1.set _).far (by omega) _, (B0.2.far (by omega) _).set _⟩ | exact ⟨(B1.1.set _).far (by omega) _, (B1.2.far (by omega) _).set _⟩ | exact ⟨Cell.box 0 rfl, Cell.box 1 rfl⟩), Lib.hid (by repeat (first | (with_reducible exact Below.refl _ _) | (with_reducible exact HB5.out) | (refine Below.drew ?_) | (refine Below.setCell ?_ (by first | (simp; done) | (have := HB5.out.size; simp; omega) | (have := HB5.out.size; omega)) _) | (refine Below.alloc ?_ (by first | (simp; done) | (have := HB5.out.size; simp; omega) | (have := HB5.out.size; omega)) _)))⟩
      · (try simp only [List.getElem_toArray, List.getElem_cons_zero, List.getElem_cons_succ])
        go_simp
        refine hK.out _ _ ?_ (fun hHeld => ?_)
        · exact HD2.out _ (by repeat (first | (with_reducible exact Below.refl _ _) | (with_reducible exact HB5.out) | (refine Below.drew ?_) | (refine Below.setCell ?_ (by first | (simp; done) | (have := HB5.out.size; simp; omega) | (have := HB5.out.size; omega)) _) | (refine Below.alloc ?_ (by first | (simp; done) | (have := HB5.out.size; simp; omega) | (have := HB5.out.size; omega)) _)))
        clear hK K
        (try simp only [Act.put, List.setIfInBounds_toArray, List.set_cons_zero, List.set_cons_succ, List.getElem_toArray, List.getElem_cons_zero, List.getElem_cons_succ])
        refine wpAnyH_ready (rs := [7]) (by kernel_rfl) (by simp) ?_
        refine AllReadyH.cons (o := _) rfl (fun K hK => ?_) AllReadyH.nil
        · (try simp only [List.getElem_toArray, List.getElem_cons_zero, List.getElem_cons_succ])
          go_simp
          go_at_call 39
          refine (HG.out _ _ (by first | exact ints_row (w := Wu.drew) rfl [0, 3, 24, 31] 4 rfl 3 (by decide) (by simp) (Below.refl _ _) | exact ints_row (w := Wu) rfl [0, 3, 24, 31] 4 rfl 3 (by decide) (by simp) (Below.refl _ _) | exact ints_row (w := Wu.drew) rfl [0, 3, 24, 31] 4 rfl 3 (by decide) (by simp) ((Below.refl _ _).alloc (by simp) _) | exact ints_row (w := Wu) rfl [0, 3, 24, 31] 4 rfl 3 (by decide) (by simp) (Below.refl _ _).drew | exact ints_row (w := Wu) rfl [0, 3, 24, 31] 4 rfl 3 (by decide) (by simp) ((Below.refl _ _).drew.alloc (by simp) _) | exact ints_row (w := Wu) rfl [0, 3, 24, 31] 4 rfl 3 (by decide) (by simp) (((Below.refl _ _).alloc (by simp) _).drew) | exact ints_row (w := Wu.drew.alloc (.cells #[.int .i64 0, .bool false] 39)) (by simp) [0, 3, 24, 31] 4 rfl 3 (by decide) (by simp) (Below.refl _ _) | exact ints_row (w := Wu.alloc (.cells #[.int .i64 0, .bool false] 39)) (by simp) [0, 3, 24, 31] 4 rfl 3 (by decide) (by simp) (Below.refl _ _).drew)).mono ?_
          rintro e w4 ⟨rfl, rfl⟩
          refine hK.out _ _ ?_ (fun hHeld => ?_)
          · exact HD2.out _ (by repeat (first | (with_reducible exact Below.refl _ _) | (with_reducible exact HB5.out) | (refine Below.drew ?_) | (refine Below.setCell ?_ (by first | (simp; done) | (have := HB5.out.size; simp; omega) | (have := HB5.out.size; omega)) _) | (refine Below.alloc ?_ (by first | (simp; done) | (have := HB5.out.size; simp; omega) | (have := HB5.out.size; omega)) _)))
          clear hK K
          (try simp only [Act.put, List.setIfInBounds_toArray, List.set_cons_zero, List.set_cons_succ, List.getElem_toArray, List.getElem_cons_zero, List.getElem_cons_succ])
          refine wpAnyH_ready (rs := [8]) (by kernel_rfl) (by simp) ?_
          refine AllReadyH.cons (o := _) rfl (fun K hK => ?_) AllReadyH.nil
          · (try simp only [List.getElem_toArray, List.getElem_cons_zero, List.getElem_cons_succ])
            go_simp
            go_at_call 38
            refine (HA'.out _).mono ?_
            rintro e w5 ⟨rfl, hb⟩
            have HB5 : Hid (Below Wu.heap.size Wu w5) := Lib.hid (Below.trans (by repeat (first | (with_reducible exact Below.refl _ _) | (with_reducible exact HB0.out) | (refine Below.drew ?_) | (refine Below.setCell ?_ (by first | (simp; done) | (have := HB0.out.size; simp; omega) | (have := HB0.out.size; omega)) _) | (refine Below.alloc ?_ (by first | (simp; done) | (have := HB0.out.size; simp; omega) | (have := HB0.out.size; omega)) _))) (hb.mono (by simp <;> omega)))
            (try have B0 : Cell w5 Wu.heap.size 0 (.int .i64 0) ∧ Cell w5 Wu.heap.size 1 (.bool false) := ⟨Cell.below (by exact Cell.alloc (w := Wu.drew.alloc (.cells #[.int .i64 0, .bool false] 39)) (Cell.box (w := Wu.drew) (cs := #[.int .i64 0, .bool false]) (t := 39) 0 rfl) _) hb, Cell.below (by exact Cell.alloc (w := Wu.drew.alloc (.cells #[.int .i64 0, .bool false] 39)) (Cell.box (w := Wu.drew) (cs := #[.int .i64 0, .bool false]) (t := 39) 1 rfl) _) hb⟩)
            (try have B1 : Cell w5 (Wu.heap.size + 1) 0 (.int .i64 0) ∧ Cell w5 (Wu.heap.size + 1) 1 (.bool false) := ⟨Cell.below (by have q := Cell.box (w := Wu.drew.alloc (.cells #[.int .i64 0, .int .i64 3, .int .i64 24, .int .i64 31] 3)) (cs := #[.int .i64 0, .bool false]) (t := 39) 0 rfl; simp only [World.size_alloc, World.size_drew] at q; exact q) hb, Cell.below (by have q := Cell.box (w := Wu.drew.alloc (.cells #[.int .i64 0, .int .i64 3, .int .i64 24, .int .i64 31] 3)) (cs := #[.int .i64 0, .bool false]) (t := 39) 1 rfl; simp only [World.size_alloc, World.size_drew] at q; exact q) hb⟩)
            (try (have b0 := B0.1.1; have b1 := B0.2.1; have b2 := B0.1.2; have b3 := B0.2.2))
            (try (have b0 := B1.1.1; have b1 := B1.2.1; have b2 := B1.1.2; have b3 := B1.2.2))
            refine hK.out _ _ ?_ (fun hHeld => ?_)
            · exact HD2.out _ (by repeat (first | (with_reducible exact Below.refl _ _) | (with_reducible exact HB5.out) | (refine Below.drew ?_) | (refine Below.setCell ?_ (by first | (simp; done) | (have := HB5.out.size; simp; omega) | (have := HB5.out.size; omega)) _) | (refine Below.alloc ?_ (by first | (simp; done) | (have := HB5.out.size; simp; omega) | (have := HB5.out.size; omega)) _)))
            clear hK K
            (try simp only [Act.put, List.setIfInBounds_toArray, List.set_cons_zero, List.set_cons_succ, List.getElem_toArray, List.getElem_cons_zero, List.getElem_cons_succ])
            refine wpAnyH_take (i := 9) (oi := _) (v := ?vu2539_15) rfl (by kernel_rfl) (by kernel_rfl) (by kernel_rfl) (fun _ _ _ h => h) (Or.inl ⟨by rfl, ?hyu2539_15⟩) (by assumption) ?restu2539_15
            case hyu2539_15 => (intro w hSw; (try dsimp only at hSw); (try simp only [List.getElem_toArray, List.getElem_cons_zero, List.getElem_cons_succ]); go_simp; (try with_reducible rfl))
            (try simp only [Act.put, List.setIfInBounds_toArray, List.set_cons_zero, List.set_cons_succ, List.getElem_toArray, List.getElem_cons_zero, List.getElem_cons_succ])
            refine wpAnyH_take (i := 10) (oi := _) (v := ?vu25310_16) rfl (by kernel_rfl) (by kernel_rfl) (by kernel_rfl) (fun _ _ _ h => h) (Or.inl ⟨by rfl, ?hyu25310_16⟩) (by assumption) ?restu25310_16
            case hyu25310_16 => (intro w hSw; (try dsimp only at hSw); (try simp only [List.getElem_toArray, List.getElem_cons_zero, List.getElem_cons_succ]); go_simp; (try with_reducible rfl))
            (try simp only [Act.put, List.setIfInBounds_toArray, List.set_cons_zero, List.set_cons_succ, List.getElem_toArray, List.getElem_cons_zero, List.getElem_cons_succ])
            refine wpAnyH_take (i := 11) (oi := _) (v := ?vu25311_17) rfl (by kernel_rfl) (by kernel_rfl) (by kernel_rfl) (fun _ _ _ h => h) (Or.inl ⟨by rfl, ?hyu25311_17⟩) (by assumption) ?restu25311_17
            case hyu25311_17 => (intro w hSw; (try dsimp only at hSw); (try simp only [List.getElem_toArray, List.getElem_cons_zero, List.getElem_cons_succ]); go_simp; (try with_reducible rfl))
            (try simp only [Act.put, List.setIfInBounds_toArray, List.set_cons_zero, List.set_cons_succ, List.getElem_toArray, List.getElem_cons_zero, List.getElem_cons_succ])
            refine wpAnyH_ready (rs := [13]) (by kernel_rfl) (by simp) ?_
            refine AllReadyH.cons (o := _) rfl (fun K hK => ?_) AllReadyH.nil
            · (try simp only [List.getElem_toArray, List.getElem_cons_zero, List.getElem_cons_succ])
              go_simp
              refine hK.out _ _ ?_ (fun hHeld => ?_)
              · exact HD2.out _ (by repeat (first | (with_reducible exact Below.refl _ _) | (with_reducible exact HB5.out) | (refine Below.drew ?_) | (refine Below.setCell ?_ (by first | (simp; done) | (have := HB5.out.size; simp; omega) | (have := HB5.out.size; omega)) _) | (refine Below.alloc ?_ (by first | (simp; done) | (have := HB5.out.size; simp; omega) | (have := HB5.out.size; omega)) _)))
              clear hK K
              (try simp only [Act.put, List.setIfInBounds_toArray, List.set_cons_zero, List.set_cons_succ, List.getElem_toArray, List.getElem_cons_zero, List.getElem_cons_succ])
              refine wpAnyH_take (i := 14) (oi := _) (v := ?vu25314_18) rfl (by kernel_rfl) (by kernel_rfl) (by kernel_rfl) (fun _ _ _ h => h) (Or.inl ⟨by rfl, ?hyu25314_18⟩) (by assumption) ?restu25314_18
              case hyu25314_18 => (intro w hSw; (try dsimp only at hSw); (try simp only [List.getElem_toArray, List.getElem_cons_zero, List.getElem_cons_succ]); go_simp; (try with_reducible rfl))
              (try simp only [Act.put, List.setIfInBounds_toArray, List.set_cons_zero, List.set_cons_succ, List.getElem_toArray, List.getElem_cons_zero, List.getElem_cons_succ])
              refine wpAnyH_done (by kernel_rfl) ?_ _
              refine NoPanic.normal ?_
              go_wp2_with fail
              go_meet
              exact ⟨_, rfl, rfl, Lib.hid (by first | omega | exact Nat.le_refl _ | exact Nat.le_succ _ | exact HB5.out.size), Lib.hid (by first | exact ⟨(B0.1.set _).far (by omega) _, (B0.2.far (by omega) _).set _⟩ | exact ⟨(B1.1.set _).far (by omega) _, (B1.2.far (by omega) _).set _⟩ | exact ⟨Cell.box 0 rfl, Cell.box 1 rfl⟩), Lib.hid (by repeat (first | (with_reducible exact Below.refl _ _) | (with_reducible exact HB5.out) | (refine Below.drew ?_) | (refine Below.setCell ?_ (by first | (simp; done) | (have := HB5.out.size; simp; omega) | (have := HB5.out.size; omega)) _) | (refine Below.alloc ?_ (by first | (simp; done) | (have := HB5.out.size; simp; omega) | (have := HB5.out.size; omega)) _)))⟩
    · (try simp only [List.getElem_toArray, List.getElem_cons_zero, List.getElem_cons_succ])
      go_simp
      refine hK.out _ _ ?_ (fun hHeld => ?_)
      · exact HD2.out _ (by repeat (first | (with_reducible exact Below.refl _ _) | (with_reducible exact HB5.out) | (refine Below.drew ?_) | (refine Below.setCell ?_ (by first | (simp; done) | (have := HB5.out.size; simp; omega) | (have := HB5.out.size; omega)) _) | (refine Below.alloc ?_ (by first | (simp; done) | (have := HB5.out.size; simp; omega) | (have := HB5.out.size; omega)) _)))
      clear hK K
      (try simp only [Act.put, List.setIfInBounds_toArray, List.set_cons_zero, List.set_cons_succ, List.getElem_toArray, List.getElem_cons_zero, List.getElem_cons_succ])
      refine wpAnyH_ready (rs := [6]) (by kernel_rfl) (by simp) ?_
      refine AllReadyH.cons (o := _) rfl (fun K hK => ?_) AllReadyH.nil
      · (try simp only [List.getElem_toArray, List.getElem_cons_zero, List.getElem_cons_succ])
        go_simp
        refine hK.out _ _ ?_ (fun hHeld => ?_)
        · exact HD2.out _ (by repeat (first | (with_reducible exact Below.refl _ _) | (with_reducible exact HB5.out) | (refine Below.drew ?_) | (refine Below.setCell ?_ (by first | (simp; done) | (have := HB5.out.size; simp; omega) | (have := HB5.out.size; omega)) _) | (refine Below.alloc ?_ (by first | (simp; done) | (have := HB5.out.size; simp; omega) | (have := HB5.out.size; omega)) _)))
        clear hK K
        (try simp only [Act.put, List.setIfInBounds_toArray, List.set_cons_zero, List.set_cons_succ, List.getElem_toArray, List.getElem_cons_zero, List.getElem_cons_succ])
        refine wpAnyH_ready (rs := [7]) (by kernel_rfl) (by simp) ?_
        refine AllReadyH.cons (o := _) rfl (fun K hK => ?_) AllReadyH.nil
        · (try simp only [List.getElem_toArray, List.getElem_cons_zero, List.getElem_cons_succ])
          go_simp
          go_at_call 39
          refine (HG.out _ _ (by first | exact ints_row (w := Wu.drew) rfl [0, 3, 24, 31] 4 rfl 3 (by decide) (by simp) (Below.refl _ _) | exact ints_row (w := Wu) rfl [0, 3, 24, 31] 4 rfl 3 (by decide) (by simp) (Below.refl _ _) | exact ints_row (w := Wu.drew) rfl [0, 3, 24, 31] 4 rfl 3 (by decide) (by simp) ((Below.refl _ _).alloc (by simp) _) | exact ints_row (w := Wu) rfl [0, 3, 24, 31] 4 rfl 3 (by decide) (by simp) (Below.refl _ _).drew | exact ints_row (w := Wu) rfl [0, 3, 24, 31] 4 rfl 3 (by decide) (by simp) ((Below.refl _ _).drew.alloc (by simp) _) | exact ints_row (w := Wu) rfl [0, 3, 24, 31] 4 rfl 3 (by decide) (by simp) (((Below.refl _ _).alloc (by simp) _).drew) | exact ints_row (w := Wu.drew.alloc (.cells #[.int .i64 0, .bool false] 39)) (by simp) [0, 3, 24, 31] 4 rfl 3 (by decide) (by simp) (Below.refl _ _) | exact ints_row (w := Wu.alloc (.cells #[.int .i64 0, .bool false] 39)) (by simp) [0, 3, 24, 31] 4 rfl 3 (by decide) (by simp) (Below.refl _ _).drew)).mono ?_
          rintro e w4 ⟨rfl, rfl⟩
          refine hK.out _ _ ?_ (fun hHeld => ?_)
          · exact HD2.out _ (by repeat (first | (with_reducible exact Below.refl _ _) | (with_reducible exact HB5.out) | (refine Below.drew ?_) | (refine Below.setCell ?_ (by first | (simp; done) | (have := HB5.out.size; simp; omega) | (have := HB5.out.size; omega)) _) | (refine Below.alloc ?_ (by first | (simp; done) | (have := HB5.out.size; simp; omega) | (have := HB5.out.size; omega)) _)))
          clear hK K
          (try simp only [Act.put, List.setIfInBounds_toArray, List.set_cons_zero, List.set_cons_succ, List.getElem_toArray, List.getElem_cons_zero, List.getElem_cons_succ])
          refine wpAnyH_ready (rs := [8]) (by kernel_rfl) (by simp) ?_
          refine AllReadyH.cons (o := _) rfl (fun K hK => ?_) AllReadyH.nil
          · (try simp only [List.getElem_toArray, List.getElem_cons_zero, List.getElem_cons_succ])
            go_simp
            go_at_call 38
            refine (HA'.out _).mono ?_
            rintro e w5 ⟨rfl, hb⟩
            have HB5 : Hid (Below Wu.heap.size Wu w5) := Lib.hid (Below.trans (by repeat (first | (with_reducible exact Below.refl _ _) | (with_reducible exact HB0.out) | (refine Below.drew ?_) | (refine Below.setCell ?_ (by first | (simp; done) | (have := HB0.out.size; simp; omega) | (have := HB0.out.size; omega)) _) | (refine Below.alloc ?_ (by first | (simp; done) | (have := HB0.out.size; simp; omega) | (have := HB0.out.size; omega)) _))) (hb.mono (by simp <;> omega)))
            (try have B0 : Cell w5 Wu.heap.size 0 (.int .i64 0) ∧ Cell w5 Wu.heap.size 1 (.bool false) := ⟨Cell.below (by exact Cell.alloc (w := Wu.drew.alloc (.cells #[.int .i64 0, .bool false] 39)) (Cell.box (w := Wu.drew) (cs := #[.int .i64 0, .bool false]) (t := 39) 0 rfl) _) hb, Cell.below (by exact Cell.alloc (w := Wu.drew.alloc (.cells #[.int .i64 0, .bool false] 39)) (Cell.box (w := Wu.drew) (cs := #[.int .i64 0, .bool false]) (t := 39) 1 rfl) _) hb⟩)
            (try have B1 : Cell w5 (Wu.heap.size + 1) 0 (.int .i64 0) ∧ Cell w5 (Wu.heap.size + 1) 1 (.bool false) := ⟨Cell.below (by have q := Cell.box (w := Wu.drew.alloc (.cells #[.int .i64 0, .int .i64 3, .int .i64 24, .int .i64 31] 3)) (cs := #[.int .i64 0, .bool false]) (t := 39) 0 rfl; simp only [World.size_alloc, World.size_drew] at q; exact q) hb, Cell.below (by have q := Cell.box (w := Wu.drew.alloc (.cells #[.int .i64 0, .int .i64 3, .int .i64 24, .int .i64 31] 3)) (cs := #[.int .i64 0, .bool false]) (t := 39) 1 rfl; simp only [World.size_alloc, World.size_drew] at q; exact q) hb⟩)
            (try (have b0 := B0.1.1; have b1 := B0.2.1; have b2 := B0.1.2; have b3 := B0.2.2))
            (try (have b0 := B1.1.1; have b1 := B1.2.1; have b2 := B1.1.2; have b3 := B1.2.2))
            refine hK.out _ _ ?_ (fun hHeld => ?_)
            · exact HD2.out _ (by repeat (first | (with_reducible exact Below.refl _ _) | (with_reducible exact HB5.out) | (refine Below.drew ?_) | (refine Below.setCell ?_ (by first | (simp; done) | (have := HB5.out.size; simp; omega) | (have := HB5.out.size; omega)) _) | (refine Below.alloc ?_ (by first | (simp; done) | (have := HB5.out.size; simp; omega) | (have := HB5.out.size; omega)) _)))
            clear hK K
            (try simp only [Act.put, List.setIfInBounds_toArray, List.set_cons_zero, List.set_cons_succ, List.getElem_toArray, List.getElem_cons_zero, List.getElem_cons_succ])
            refine wpAnyH_take (i := 9) (oi := _) (v := ?vu2539_19) rfl (by kernel_rfl) (by kernel_rfl) (by kernel_rfl) (fun _ _ _ h => h) (Or.inl ⟨by rfl, ?hyu2539_19⟩) (by assumption) ?restu2539_19
            case hyu2539_19 => (intro w hSw; (try dsimp only at hSw); (try simp only [List.getElem_toArray, List.getElem_cons_zero, List.getElem_cons_succ]); go_simp; (try with_reducible rfl))
            (try simp only [Act.put, List.setIfInBounds_toArray, List.set_cons_zero, List.set_cons_succ, List.getElem_toArray, List.getElem_cons_zero, List.getElem_cons_succ])
            refine wpAnyH_take (i := 10) (oi := _) (v := ?vu25310_20) rfl (by kernel_rfl) (by kernel_rfl) (by kernel_rfl) (fun _ _ _ h => h) (Or.inl ⟨by rfl, ?hyu25310_20⟩) (by assumption) ?restu25310_20
            case hyu25310_20 => (intro w hSw; (try dsimp only at hSw); (try simp only [List.getElem_toArray, List.getElem_cons_zero, List.getElem_cons_succ]); go_simp; (try with_reducible rfl))
            (try simp only [Act.put, List.setIfInBounds_toArray, List.set_cons_zero, List.set_cons_succ, List.getElem_toArray, List.getElem_cons_zero, List.getElem_cons_succ])
            refine wpAnyH_take (i := 11) (oi := _) (v := ?vu25311_21) rfl (by kernel_rfl) (by kernel_rfl) (by kernel_rfl) (fun _ _ _ h => h) (Or.inl ⟨by rfl, ?hyu25311_21⟩) (by assumption) ?restu25311_21
            case hyu25311_21 => (intro w hSw; (try dsimp only at hSw); (try simp only [List.getElem_toArray, List.getElem_cons_zero, List.getElem_cons_succ]); go_simp; (try with_reducible rfl))
            (try simp only [Act.put, List.setIfInBounds_toArray, List.set_cons_zero, List.set_cons_succ, List.getElem_toArray, List.getElem_cons_zero, List.getElem_cons_succ])
            refine wpAnyH_ready (rs := [13]) (by kernel_rfl) (by simp) ?_
            refine AllReadyH.cons (o := _) rfl (fun K hK => ?_) AllReadyH.nil
            · (try simp only [List.getElem_toArray, List.getElem_cons_zero, List.getElem_cons_succ])
              go_simp
              refine hK.out _ _ ?_ (fun hHeld => ?_)
              · exact HD2.out _ (by repeat (first | (with_reducible exact Below.refl _ _) | (with_reducible exact HB5.out) | (refine Below.drew ?_) | (refine Below.setCell ?_ (by first | (simp; done) | (have := HB5.out.size; simp; omega) | (have := HB5.out.size; omega)) _) | (refine Below.alloc ?_ (by first | (simp; done) | (have := HB5.out.size; simp; omega) | (have := HB5.out.size; omega)) _)))
              clear hK K
              (try simp only [Act.put, List.setIfInBounds_toArray, List.set_cons_zero, List.set_cons_succ, List.getElem_toArray, List.getElem_cons_zero, List.getElem_cons_succ])
              refine wpAnyH_take (i := 14) (oi := _) (v := ?vu25314_22) rfl (by kernel_rfl) (by kernel_rfl) (by kernel_rfl) (fun _ _ _ h => h) (Or.inl ⟨by rfl, ?hyu25314_22⟩) (by assumption) ?restu25314_22
              case hyu25314_22 => (intro w hSw; (try dsimp only at hSw); (try simp only [List.getElem_toArray, List.getElem_cons_zero, List.getElem_cons_succ]); go_simp; (try with_reducible rfl))
              (try simp only [Act.put, List.setIfInBounds_toArray, List.set_cons_zero, List.set_cons_succ, List.getElem_toArray, List.getElem_cons_zero, List.getElem_cons_succ])
              refine wpAnyH_done (by kernel_rfl) ?_ _
              refine NoPanic.normal ?_
              go_wp2_with fail
              go_meet
              exact ⟨_, rfl, rfl, Lib.hid (by first | omega | exact Nat.le_refl _ | exact Nat.le_succ _ | exact HB5.out.size), Lib.hid (by first | exact ⟨(B0.1.set _).far (by omega) _, (B0.2.far (by omega) _).set _⟩ | exact ⟨(B1.1.set _).far (by omega) _, (B1.2.far (by omega) _).set _⟩ | exact ⟨Cell.box 0 rfl, Cell.box 1 rfl⟩), Lib.hid (by repeat (first | (with_reducible exact Below.refl _ _) | (with_reducible exact HB5.out) | (refine Below.drew ?_) | (refine Below.setCell ?_ (by first | (simp; done) | (have := HB5.out.size; simp; omega) | (have := HB5.out.size; omega)) _) | (refine Below.alloc ?_ (by first | (simp; done) | (have := HB5.out.size; simp; omega) | (have := HB5.out.size; omega)) _)))⟩
  case rest =>
    obtain ⟨g, rfl, rfl, hg, HC, HB⟩ := hcut
    have HBT : Hid (Below Wt.heap.size Wt wc) := Lib.hid (HU.out.trans (HB.out.mono HU.out.size))
    obtain ⟨e1, e2, e3, e4⟩ := HD.out _ HBT.out
    obtain ⟨f3, f4⟩ := HF.out _ HBT.out
    obtain ⟨⟨g0, g0f⟩, g1, g1f⟩ := HC.out
    have HP := Lib.hid (HPUT.out _ (H.out.below HBT.out))
    have hne : Hid (g ≠ r ∧ g7 ≠ r ∧ w.heap.size ≠ r ∧ w.heap.size < wc.heap.size ∧ g < wc.heap.size) := Lib.hid (by have h1 := HPT.out; have h2 := hg.out; have h3 := HG7.out.1; have h4 := HG7.out.2; have h5 := HU.out.size; have h6 := HPW.out; have h7 := HZ.out; have h8 := HB.out.size; have h9 := HC.out.1.lt; omega)
    have x7 := HC7.out.1.below HB.out
    go_upto_region 15 with fail
    go_region
    have HK2 : Hid (Keep (· = r) wc ((wc.setCell ⟨r, 3 + o * 2, none⟩ (.int .i64 s')).setCell ⟨r, 3 + o * 2 + 1, none⟩ (.bool false)).drew) := Lib.hid (((keep_set wc r (3 + o * 2) _).own (3 + o * 2 + 1) _).drew)
    have HP2 := Lib.hid HP.out.drew
    clear HP
    dsimp only at HP2
    generalize ((wc.setCell ⟨r, 3 + o * 2, none⟩ (.int .i64 s')).setCell ⟨r, 3 + o * 2 + 1, none⟩ (.bool false)).drew = Wv at *
    have y2 := (HK2.out.cell (p := ⟨w.heap.size, 2, none⟩) hne.out.2.2.2.1 hne.out.2.2.1).trans e2
    have y8 := (Cell.keep ⟨g0, g0f⟩ HK2.out hne.out.1)
    have y7 := (x7.keep HK2.out hne.out.2.1)
    clear e1 e2 e3 e4 f3 f4 g0 g0f g1 g1f x7
    go_wp2_with fail
    refine (HSD.out _ HP2.out).mono ?_
    rintro e w7 ⟨rfl, hq, hk⟩
    have HQ := Lib.hid hq
    have HK : Hid (Keep (· = r) w w7) := Lib.hid ((((K.out.trans (Keep.of_below (· = r) HBT.out) (fun _ _ x => x)).trans HK2.out (fun _ _ x => x))).trans hk (fun _ _ x => x))
    have z2' := (hk.cell (p := ⟨w.heap.size, 2, none⟩) (World.block_lt_of_cell? _ _ y2) hne.out.2.2.1).trans y2
    have z8' := (y8.keep hk hne.out.1).1
    have z7' := (y7.keep hk hne.out.2.1).1
    clear hq hk y2 y7 y8
    cases b31
    · go_wp2_with fail
      go_ret
      exact ⟨by rw [HR.out.2]; rfl, by rw [show m.heardUs o _ = _ from HR.out.1]; exact HQ.out, HK.out⟩
    · cases b1
      · go_wp2_with fail
        go_ret
        exact ⟨by rw [HR.out.2]; rfl, by rw [show m.heardUs o _ = _ from HR.out.1]; exact HQ.out, HK.out⟩
      · cases b0
        · go_wp2_with fail
          go_ret
          exact ⟨by rw [HR.out.2]; rfl, by rw [show m.heardUs o _ = _ from HR.out.1]; exact HQ.out, HK.out⟩
        · go_wp2_with fail
          refine (HTL.out _ HQ.out).mono ?_
          rintro e w8 ⟨rfl, hq, hk⟩
          have H8 := Lib.hid hq
          have K8 := Lib.hid (HK.out.trans hk (fun _ _ x => x))
          clear hq hk
          go_wp2_with fail
          go_ret
          exact ⟨by rw [HR.out.2]; rfl, by rw [show m.heardUs o _ = _ from HR.out.1]; exact H8.out, K8.out⟩

set_option maxRecDepth 100000 in
set_option maxHeartbeats 16000000 in
theorem rtake_us254 (o : Nat) (s : ByteArray) (h : RefAt w r name m) (hok : m.Ok) (ho : o ≤ 255) (hs : m.sent < 1000000) :
    Calls Try.prog 16 #[.pointer (some ⟨r, 0, none⟩), .agg #[.int .i64 2, .int .i64 254, .int .i64 (o : Int), .string s]] w fun e w' =>
      e = .returned (.string ⟨(m.heardUsT o false).toArray⟩) ∧ RefAt w' r name (m.heardUs o false) ∧ Keep (· = r) w w' := by
  obtain ⟨Wt, hWt⟩ : ∃ Wt, Wt = w.alloc (.cells #[.int .i64 2, .int .i64 254, .int .i64 (o : Int), .string s] 29) := ⟨_, rfl⟩
  have hT : RefAt Wt r name m := by rw [hWt]; exact h.alloc _
  have kT : Keep (· = r) w Wt := by rw [hWt]; exact (Keep.refl _ w).alloc _
  have zT : w.heap.size < Wt.heap.size := by rw [hWt]; simp
  have hp := h.lt
  have d1 : Wt.cell? ⟨w.heap.size, 1, none⟩ = some (.int .i64 254) := by rw [hWt]; exact (Cell.box (w := w) 1 rfl).1
  have d2 : Wt.cell? ⟨w.heap.size, 2, none⟩ = some (.int .i64 (o : Int)) := by rw [hWt]; exact (Cell.box (w := w) 2 rfl).1
  have HD : Hid (∀ W, Below Wt.heap.size Wt W → W.cell? ⟨w.heap.size, 1, none⟩ = some (.int .i64 254) ∧ W.cell? ⟨w.heap.size, 2, none⟩ = some (.int .i64 (o : Int)) ∧ W.cell? ⟨r, 3 + o * 2, none⟩ = some (.int .i64 (m.us o).1) ∧ W.cell? ⟨r, 3 + o * 2 + 1, none⟩ = some (.bool (m.us o).2)) :=
    Lib.hid (fun W q => ⟨(q.cell (p := ⟨w.heap.size, 1, none⟩) zT).trans d1, (q.cell (p := ⟨w.heap.size, 2, none⟩) zT).trans d2, ((hT.below q).us o ho).1.1, ((hT.below q).us o ho).2.1⟩)
  have HF : Hid (∀ W, Below Wt.heap.size Wt W → W.frozen? ⟨r, 3 + o * 2, none⟩ = false ∧ W.frozen? ⟨r, 3 + o * 2 + 1, none⟩ = false) :=
    Lib.hid (fun W q => ⟨((hT.below q).us o ho).1.2, ((hT.below q).us o ho).2.2⟩)
  have H := Lib.hid hT
  have K := Lib.hid kT
  have HW := Lib.hid hWt
  have o0 : (0 : Int) ≤ (o : Int) := by omega
  have o1 : (o : Int) < 256 := by omega
  have o2 : (o : Int) ≤ 255 := by omega
  have o3 : ¬ (o : Int) < 0 := by omega
  have o4 : ¬ (255 : Int) < (o : Int) := by omega
  have HZ := Lib.hid zT
  have HPT := Lib.hid hT.lt
  have HPW := Lib.hid hp
  obtain ⟨ag, hag⟩ : ∃ ag, ag = decide ((o : Int) ∈ agreedL true) := ⟨_, rfl⟩
  have HA := Lib.hid (fun W => rside_heard (m.us o).1 (m.us o).2 false ag W (hok.us o))
  obtain ⟨s', hs1⟩ : ∃ s, s = (m.hearR true o false).1 := ⟨_, rfl⟩
  obtain ⟨n, hn1⟩ : ∃ n, n = (m.hearR true o false).2 := ⟨_, rfl⟩
  have HA' : Hid (∀ W, Calls Try.prog 38 #[.agg #[.int .i64 (m.us o).1, .bool (m.us o).2], .bool false, .bool ag] W fun e w' => e = .returned (.tuple #[.agg #[.int .i64 s', .bool false], .int .i64 n]) ∧ Below W.heap.size W w') := by rw [hs1, hn1, Pm.hearR, ← hag]; exact HA
  have HG : Hid (∀ W A, Ints W (some ⟨A, 0, none⟩) 4 [0, 3, 24, 31] → Calls Try.prog 39 #[.int .i64 (o : Int), .slice (some ⟨A, 0, none⟩) 4 4] W fun e w' => e = .returned (.bool ag) ∧ W = w') := Lib.hid (fun W A q => by rw [hag]; exact agree_any _ 4 4 _ _ W q)
  have HSD := Lib.hid (fun W (q : RefAt W r name (m.turn true o (s', false) 0)) => rsend_any r name m W true o (s', false) n o 251 252 rfl rfl q ho hs)
  have HPUT := Lib.hid (fun W (q : RefAt W r name m) => q.putUs o ho (s', false))
  obtain ⟨b1, hb1⟩ : ∃ b, (s' == 1) = b := ⟨_, rfl⟩
  obtain ⟨b0, hb0⟩ : ∃ b, ((m.us o).1 != 1) = b := ⟨_, rfl⟩
  obtain ⟨b31, hb31⟩ : ∃ b, ((o : Int) == 31) = b := ⟨_, rfl⟩
  have HTL := Lib.hid (fun W (q : RefAt W r name (m.turn true o (s', false) n)) => rtell_any r name _ W q hok.w hok.h)
  obtain ⟨T1, hT1⟩ : ∃ T : ByteArray, T = ⟨(cmdL true o n).toArray⟩ := ⟨_, rfl⟩
  obtain ⟨T2, hT2⟩ : ∃ T : ByteArray, T = ⟨(sizeL (m.turn true o (s', false) n)).toArray⟩ := ⟨_, rfl⟩
  rw [← hT2] at HTL
  rw [← hT1] at HSD
  have z1 : T1.size ≤ 3 := by rw [hT1, size_mk]; exact cmd_len _ _ _
  have z2 : T2.size ≤ 13 := by rw [hT2, size_mk]; exact sizeL_len _
  have z3 : T1.size + T2.size ≤ 9223372036854775807 := by omega
  have HR : Hid (if b31 = true ∧ b1 = true ∧ b0 = true then m.heardUs o false = (m.turn true o (s', false) n).tell ∧ (⟨(m.heardUsT o false).toArray⟩ : ByteArray) = T1 ++ T2 else m.heardUs o false = m.turn true o (s', false) n ∧ (⟨(m.heardUsT o false).toArray⟩ : ByteArray) = T1) := Lib.hid (by
    have e1 : m.hear true o false = m.turn true o (s', false) n := by rw [hs1, hn1]; rfl
    have e2 : m.hearT true o false = cmdL true o n := by rw [hn1]; rfl
    have e3 : (b31 = true ∧ b1 = true ∧ b0 = true) ↔ ((m.us 31).1 ≠ 1 ∧ ((m.hear true o false).us 31).1 = 1) := by
      subst hb31 hb1 hb0
      rw [e1]
      by_cases e : (31 : Int) = (o : Int)
      · simp only [Pm.turn, ← e, setS_same]; simp [and_comm]
      · simp only [Pm.turn, setS_other _ _ e]
        have : ¬ (o : Int) = 31 := fun q => e q.symm
        simp [this]
    unfold Pm.heardUs Pm.heardUsT
    by_cases e : (m.us 31).1 ≠ 1 ∧ ((m.hear true o false).us 31).1 = 1
    · rw [if_pos (e3.2 e), if_pos e, if_pos e, hT1, hT2, mk_add, e1, e2]; exact ⟨rfl, rfl⟩
    · rw [if_neg (fun q => e (e3.1 q)), if_neg e, if_neg e, hT1, e1, e2]; exact ⟨rfl, rfl⟩)
  clear hs1 hn1 HA hag hT kT zT hs ho hok h hT1 hT2 z1 z2
  generalize (m.us o).1 = s0 at *
  generalize (m.us o).2 = t0 at *
  go_enter Try.func16, Try.ntmps16
  go_upto_region 13 with fail
  rw [← HW.out]
  clear HW hWt d1 d2
  obtain ⟨e1, e2, e3, e4⟩ := HD.out _ (Below.refl _ _)
  have zz := HZ.out
  have pp := HPT.out
  go_region
  clear e1 e2 e3 e4 zz pp
  obtain ⟨Wu, hWu⟩ : ∃ Wu, Wu = (Wt.alloc (.cells #[.int .i64 s0, .bool t0] 39)).drew := ⟨_, rfl⟩
  have zu : Wt.heap.size < Wu.heap.size := by rw [hWu]; simp
  obtain ⟨g7, hg7⟩ : ∃ g, g = Wt.heap.size := ⟨_, rfl⟩
  have HU : Hid (Below Wt.heap.size Wt Wu) := Lib.hid (by rw [hWu]; exact ((Below.refl _ _).alloc (Nat.le_refl _) _).drew)
  have HC7 : Hid (Cell Wu g7 0 (.int .i64 s0) ∧ Cell Wu g7 1 (.bool t0)) := Lib.hid (by rw [hWu, hg7]; exact ⟨(Cell.box 0 rfl).drew, (Cell.box 1 rfl).drew⟩)
  have HG7 : Hid (g7 < Wu.heap.size ∧ g7 ≠ r) := Lib.hid (by have := HPT.out; omega)
  have HD2 : Hid (∀ W, Below Wu.heap.size Wu W → W.cell? ⟨w.heap.size, 1, none⟩ = some (.int .i64 254) ∧ W.cell? ⟨w.heap.size, 2, none⟩ = some (.int .i64 (o : Int)) ∧ W.cell? ⟨g7, 0, none⟩ = some (.int .i64 s0) ∧ W.cell? ⟨g7, 1, none⟩ = some (.bool t0)) :=
    Lib.hid (fun W q => ⟨(HD.out W (HU.out.trans (q.mono (by omega)))).1, (HD.out W (HU.out.trans (q.mono (by omega)))).2.1, (HC7.out.1.below q).1, (HC7.out.2.below q).1⟩)
  rw [← hWu, ← hg7]
  have HWU := Lib.hid hWu
  clear hWu hg7 zu
  go_upto_region 14 with fail
  go_cut [8, 9] from 11 to 139 (fun bv nv wx => ∃ g, bv = .pointer (some ⟨g, 0, none⟩) ∧ nv = .int .i64 n ∧ Hid (Wu.heap.size ≤ g) ∧ Hid (Cell wx g 0 (.int .i64 s') ∧ Cell wx g 1 (.bool false)) ∧ Hid (Below Wu.heap.size Wu wx))
  case first =>
    refine wp_region_noPanic ?_
    refine wp_region_held_drew (S := fun W => W.cell? ⟨w.heap.size, 1, none⟩ = some (.int .i64 254) ∧ W.cell? ⟨w.heap.size, 2, none⟩ = some (.int .i64 (o : Int)) ∧ W.cell? ⟨g7, 0, none⟩ = some (.int .i64 s0) ∧ W.cell? ⟨g7, 1, none⟩ = some (.bool t0)) (by kernel_rfl) (HD2.out _ (Below.refl _ _).drew) (fun hHeld => ?_)
    have HB0 : Hid (Below Wu.heap.size Wu Wu) := Lib.hid (Below.refl _ _)
    have HB5 := HB0
    refine wpAnyH_take (i := 0) (oi := _) (v := ?vu2540_1) rfl (by kernel_rfl) (by kernel_rfl) (by kernel_rfl) (fun _ _ _ h => h) (Or.inl ⟨by rfl, ?hyu2540_1⟩) (by assumption) ?restu2540_1
    case hyu2540_1 => (intro w hSw; (try dsimp only at hSw); (try simp only [List.getElem_toArray, List.getElem_cons_zero, List.getElem_cons_succ]); go_simp; (try with_reducible rfl))
    (try simp only [Act.put, List.setIfInBounds_toArray, List.set_cons_zero, List.set_cons_succ, List.getElem_toArray, List.getElem_cons_zero, List.getElem_cons_succ])
    refine wpAnyH_take (i := 1) (oi := _) (v := ?vu2541_2) rfl (by kernel_rfl) (by kernel_rfl) (by kernel_rfl) (fun _ _ _ h => h) (Or.inl ⟨by rfl, ?hyu2541_2⟩) (by assumption) ?restu2541_2
    case hyu2541_2 => (intro w hSw; (try dsimp only at hSw); (try simp only [List.getElem_toArray, List.getElem_cons_zero, List.getElem_cons_succ]); go_simp; (try with_reducible rfl))
    (try simp only [Act.put, List.setIfInBounds_toArray, List.set_cons_zero, List.set_cons_succ, List.getElem_toArray, List.getElem_cons_zero, List.getElem_cons_succ])
    refine wpAnyH_take (i := 4) (oi := _) (v := ?vu2544_3) rfl (by kernel_rfl) (by kernel_rfl) (by kernel_rfl) (fun _ _ _ h => h) (Or.inl ⟨by rfl, ?hyu2544_3⟩) (by assumption) ?restu2544_3
    case hyu2544_3 => (intro w hSw; (try dsimp only at hSw); (try simp only [List.getElem_toArray, List.getElem_cons_zero, List.getElem_cons_succ]); go_simp; (try with_reducible rfl))
    (try simp only [Act.put, List.setIfInBounds_toArray, List.set_cons_zero, List.set_cons_succ, List.getElem_toArray, List.getElem_cons_zero, List.getElem_cons_succ])
    refine wpAnyH_take (i := 2) (oi := _) (v := ?vu2542_4) rfl (by kernel_rfl) (by kernel_rfl) (by kernel_rfl) (fun _ _ _ h => h) (Or.inl ⟨by rfl, ?hyu2542_4⟩) (by assumption) ?restu2542_4
    case hyu2542_4 => (intro w hSw; (try dsimp only at hSw); (try simp only [List.getElem_toArray, List.getElem_cons_zero, List.getElem_cons_succ]); go_simp; (try with_reducible rfl))
    (try simp only [Act.put, List.setIfInBounds_toArray, List.set_cons_zero, List.set_cons_succ, List.getElem_toArray, List.getElem_cons_zero, List.getElem_cons_succ])
    refine wpAnyH_take (i := 5) (oi := _) (v := ?vu2545_5) rfl (by kernel_rfl) (by kernel_rfl) (by kernel_rfl) (fun _ _ _ h => h) (Or.inl ⟨by rfl, ?hyu2545_5⟩) (by assumption) ?restu2545_5
    case hyu2545_5 => (intro w hSw; (try dsimp only at hSw); (try simp only [List.getElem_toArray, List.getElem_cons_zero, List.getElem_cons_succ]); go_simp; (try with_reducible rfl))
    (try simp only [Act.put, List.setIfInBounds_toArray, List.set_cons_zero, List.set_cons_succ, List.getElem_toArray, List.getElem_cons_zero, List.getElem_cons_succ])
    refine wpAnyH_take (i := 3) (oi := _) (v := ?vu2543_6) rfl (by kernel_rfl) (by kernel_rfl) (by kernel_rfl) (fun _ _ _ h => h) (Or.inl ⟨by rfl, ?hyu2543_6⟩) (by assumption) ?restu2543_6
    case hyu2543_6 => (intro w hSw; (try dsimp only at hSw); (try simp only [List.getElem_toArray, List.getElem_cons_zero, List.getElem_cons_succ]); go_simp; (try with_reducible rfl))
    (try simp only [Act.put, List.setIfInBounds_toArray, List.set_cons_zero, List.set_cons_succ, List.getElem_toArray, List.getElem_cons_zero, List.getElem_cons_succ])
    refine wpAnyH_ready (rs := [6, 12]) (by kernel_rfl) (by simp) ?_
    refine AllReadyH.cons (o := _) rfl (fun K hK => ?_) (AllReadyH.cons (o := _) rfl (fun K hK => ?_) AllReadyH.nil)
    · (try simp only [List.getElem_toArray, List.getElem_cons_zero, List.getElem_cons_succ])
      go_simp
      refine hK.out _ _ ?_ (fun hHeld => ?_)
      · exact HD2.out _ (by repeat (first | (with_reducible exact Below.refl _ _) | (with_reducible exact HB5.out) | (refine Below.drew ?_) | (refine Below.setCell ?_ (by first | (simp; done) | (have := HB5.out.size; simp; omega) | (have := HB5.out.size; omega)) _) | (refine Below.alloc ?_ (by first | (simp; done) | (have := HB5.out.size; simp; omega) | (have := HB5.out.size; omega)) _)))
      clear hK K
      (try simp only [Act.put, List.setIfInBounds_toArray, List.set_cons_zero, List.set_cons_succ, List.getElem_toArray, List.getElem_cons_zero, List.getElem_cons_succ])
      refine wpAnyH_ready (rs := [7, 12]) (by kernel_rfl) (by simp) ?_
      refine AllReadyH.cons (o := _) rfl (fun K hK => ?_) (AllReadyH.cons (o := _) rfl (fun K hK => ?_) AllReadyH.nil)
      · (try simp only [List.getElem_toArray, List.getElem_cons_zero, List.getElem_cons_succ])
        go_simp
        go_at_call 39
        refine (HG.out _ _ (by first | exact ints_row (w := Wu.drew) rfl [0, 3, 24, 31] 4 rfl 3 (by decide) (by simp) (Below.refl _ _) | exact ints_row (w := Wu) rfl [0, 3, 24, 31] 4 rfl 3 (by decide) (by simp) (Below.refl _ _) | exact ints_row (w := Wu.drew) rfl [0, 3, 24, 31] 4 rfl 3 (by decide) (by simp) ((Below.refl _ _).alloc (by simp) _) | exact ints_row (w := Wu) rfl [0, 3, 24, 31] 4 rfl 3 (by decide) (by simp) (Below.refl _ _).drew | exact ints_row (w := Wu) rfl [0, 3, 24, 31] 4 rfl 3 (by decide) (by simp) ((Below.refl _ _).drew.alloc (by simp) _) | exact ints_row (w := Wu) rfl [0, 3, 24, 31] 4 rfl 3 (by decide) (by simp) (((Below.refl _ _).alloc (by simp) _).drew) | exact ints_row (w := Wu.drew.alloc (.cells #[.int .i64 0, .bool false] 39)) (by simp) [0, 3, 24, 31] 4 rfl 3 (by decide) (by simp) (Below.refl _ _) | exact ints_row (w := Wu.alloc (.cells #[.int .i64 0, .bool false] 39)) (by simp) [0, 3, 24, 31] 4 rfl 3 (by decide) (by simp) (Below.refl _ _).drew)).mono ?_
        rintro e w4 ⟨rfl, rfl⟩
        refine hK.out _ _ ?_ (fun hHeld => ?_)
        · exact HD2.out _ (by repeat (first | (with_reducible exact Below.refl _ _) | (with_reducible exact HB5.out) | (refine Below.drew ?_) | (refine Below.setCell ?_ (by first | (simp; done) | (have := HB5.out.size; simp; omega) | (have := HB5.out.size; omega)) _) | (refine Below.alloc ?_ (by first | (simp; done) | (have := HB5.out.size; simp; omega) | (have := HB5.out.size; omega)) _)))
        clear hK K
        (try simp only [Act.put, List.setIfInBounds_toArray, List.set_cons_zero, List.set_cons_succ, List.getElem_toArray, List.getElem_cons_zero, List.getElem_cons_succ])
        refine wpAnyH_ready (rs := [8, 12]) (by kernel_rfl) (by simp) ?_
        refine AllReadyH.cons (o := _) rfl (fun K hK => ?_) (AllReadyH.cons (o := _) rfl (fun K hK => ?_) AllReadyH.nil)
        · (try simp only [List.getElem_toArray, List.getElem_cons_zero, List.getElem_cons_succ])
          go_simp
          go_at_call 38
          refine (HA'.out _).mono ?_
          rintro e w5 ⟨rfl, hb⟩
          have HB5 : Hid (Below Wu.heap.size Wu w5) := Lib.hid (Below.trans (by repeat (first | (with_reducible exact Below.refl _ _) | (with_reducible exact HB0.out) | (refine Below.drew ?_) | (refine Below.setCell ?_ (by first | (simp; done) | (have := HB0.out.size; simp; omega) | (have := HB0.out.size; omega)) _) | (refine Below.alloc ?_ (by first | (simp; done) | (have := HB0.out.size; simp; omega) | (have := HB0.out.size; omega)) _))) (hb.mono (by simp <;> omega)))
          (try have B0 : Cell w5 Wu.heap.size 0 (.int .i64 0) ∧ Cell w5 Wu.heap.size 1 (.bool false) := ⟨Cell.below (by exact Cell.alloc (w := Wu.drew.alloc (.cells #[.int .i64 0, .bool false] 39)) (Cell.box (w := Wu.drew) (cs := #[.int .i64 0, .bool false]) (t := 39) 0 rfl) _) hb, Cell.below (by exact Cell.alloc (w := Wu.drew.alloc (.cells #[.int .i64 0, .bool false] 39)) (Cell.box (w := Wu.drew) (cs := #[.int .i64 0, .bool false]) (t := 39) 1 rfl) _) hb⟩)
          (try have B1 : Cell w5 (Wu.heap.size + 1) 0 (.int .i64 0) ∧ Cell w5 (Wu.heap.size + 1) 1 (.bool false) := ⟨Cell.below (by have q := Cell.box (w := Wu.drew.alloc (.cells #[.int .i64 0, .int .i64 3, .int .i64 24, .int .i64 31] 3)) (cs := #[.int .i64 0, .bool false]) (t := 39) 0 rfl; simp only [World.size_alloc, World.size_drew] at q; exact q) hb, Cell.below (by have q := Cell.box (w := Wu.drew.alloc (.cells #[.int .i64 0, .int .i64 3, .int .i64 24, .int .i64 31] 3)) (cs := #[.int .i64 0, .bool false]) (t := 39) 1 rfl; simp only [World.size_alloc, World.size_drew] at q; exact q) hb⟩)
          (try (have b0 := B0.1.1; have b1 := B0.2.1; have b2 := B0.1.2; have b3 := B0.2.2))
          (try (have b0 := B1.1.1; have b1 := B1.2.1; have b2 := B1.1.2; have b3 := B1.2.2))
          refine hK.out _ _ ?_ (fun hHeld => ?_)
          · exact HD2.out _ (by repeat (first | (with_reducible exact Below.refl _ _) | (with_reducible exact HB5.out) | (refine Below.drew ?_) | (refine Below.setCell ?_ (by first | (simp; done) | (have := HB5.out.size; simp; omega) | (have := HB5.out.size; omega)) _) | (refine Below.alloc ?_ (by first | (simp; done) | (have := HB5.out.size; simp; omega) | (have := HB5.out.size; omega)) _)))
          clear hK K
          (try simp only [Act.put, List.setIfInBounds_toArray, List.set_cons_zero, List.set_cons_succ, List.getElem_toArray, List.getElem_cons_zero, List.getElem_cons_succ])
          refine wpAnyH_take (i := 9) (oi := _) (v := ?vu2549_7) rfl (by kernel_rfl) (by kernel_rfl) (by kernel_rfl) (fun _ _ _ h => h) (Or.inl ⟨by rfl, ?hyu2549_7⟩) (by assumption) ?restu2549_7
          case hyu2549_7 => (intro w hSw; (try dsimp only at hSw); (try simp only [List.getElem_toArray, List.getElem_cons_zero, List.getElem_cons_succ]); go_simp; (try with_reducible rfl))
          (try simp only [Act.put, List.setIfInBounds_toArray, List.set_cons_zero, List.set_cons_succ, List.getElem_toArray, List.getElem_cons_zero, List.getElem_cons_succ])
          refine wpAnyH_take (i := 10) (oi := _) (v := ?vu25410_8) rfl (by kernel_rfl) (by kernel_rfl) (by kernel_rfl) (fun _ _ _ h => h) (Or.inl ⟨by rfl, ?hyu25410_8⟩) (by assumption) ?restu25410_8
          case hyu25410_8 => (intro w hSw; (try dsimp only at hSw); (try simp only [List.getElem_toArray, List.getElem_cons_zero, List.getElem_cons_succ]); go_simp; (try with_reducible rfl))
          (try simp only [Act.put, List.setIfInBounds_toArray, List.set_cons_zero, List.set_cons_succ, List.getElem_toArray, List.getElem_cons_zero, List.getElem_cons_succ])
          refine wpAnyH_take (i := 11) (oi := _) (v := ?vu25411_9) rfl (by kernel_rfl) (by kernel_rfl) (by kernel_rfl) (fun _ _ _ h => h) (Or.inl ⟨by rfl, ?hyu25411_9⟩) (by assumption) ?restu25411_9
          case hyu25411_9 => (intro w hSw; (try dsimp only at hSw); (try simp only [List.getElem_toArray, List.getElem_cons_zero, List.getElem_cons_succ]); go_simp; (try with_reducible rfl))
          (try simp only [Act.put, List.setIfInBounds_toArray, List.set_cons_zero, List.set_cons_succ, List.getElem_toArray, List.getElem_cons_zero, List.getElem_cons_succ])
          refine wpAnyH_ready (rs := [12]) (by kernel_rfl) (by simp) ?_
          refine AllReadyH.cons (o := _) rfl (fun K hK => ?_) AllReadyH.nil
          · (try simp only [List.getElem_toArray, List.getElem_cons_zero, List.getElem_cons_succ])
            go_simp
            refine hK.out _ _ ?_ (fun hHeld => ?_)
            · exact HD2.out _ (by repeat (first | (with_reducible exact Below.refl _ _) | (with_reducible exact HB5.out) | (refine Below.drew ?_) | (refine Below.setCell ?_ (by first | (simp; done) | (have := HB5.out.size; simp; omega) | (have := HB5.out.size; omega)) _) | (refine Below.alloc ?_ (by first | (simp; done) | (have := HB5.out.size; simp; omega) | (have := HB5.out.size; omega)) _)))
            clear hK K
            (try simp only [Act.put, List.setIfInBounds_toArray, List.set_cons_zero, List.set_cons_succ, List.getElem_toArray, List.getElem_cons_zero, List.getElem_cons_succ])
            refine wpAnyH_ready (rs := [13]) (by kernel_rfl) (by simp) ?_
            refine AllReadyH.cons (o := _) rfl (fun K hK => ?_) AllReadyH.nil
            · (try simp only [List.getElem_toArray, List.getElem_cons_zero, List.getElem_cons_succ])
              go_simp
              refine hK.out _ _ ?_ (fun hHeld => ?_)
              · exact HD2.out _ (by repeat (first | (with_reducible exact Below.refl _ _) | (with_reducible exact HB5.out) | (refine Below.drew ?_) | (refine Below.setCell ?_ (by first | (simp; done) | (have := HB5.out.size; simp; omega) | (have := HB5.out.size; omega)) _) | (refine Below.alloc ?_ (by first | (simp; done) | (have := HB5.out.size; simp; omega) | (have := HB5.out.size; omega)) _)))
              clear hK K
              (try simp only [Act.put, List.setIfInBounds_toArray, List.set_cons_zero, List.set_cons_succ, List.getElem_toArray, List.getElem_cons_zero, List.getElem_cons_succ])
              refine wpAnyH_take (i := 14) (oi := _) (v := ?vu25414_10) rfl (by kernel_rfl) (by kernel_rfl) (by kernel_rfl) (fun _ _ _ h => h) (Or.inl ⟨by rfl, ?hyu25414_10⟩) (by assumption) ?restu25414_10
              case hyu25414_10 => (intro w hSw; (try dsimp only at hSw); (try simp only [List.getElem_toArray, List.getElem_cons_zero, List.getElem_cons_succ]); go_simp; (try with_reducible rfl))
              (try simp only [Act.put, List.setIfInBounds_toArray, List.set_cons_zero, List.set_cons_succ, List.getElem_toArray, List.getElem_cons_zero, List.getElem_cons_succ])
              refine wpAnyH_done (by kernel_rfl) ?_ _
              refine NoPanic.normal ?_
              go_wp2_with fail
              go_meet
              exact ⟨_, rfl, rfl, Lib.hid (by first | omega | exact Nat.le_refl _ | exact Nat.le_succ _ | exact HB5.out.size), Lib.hid (by first | exact ⟨(B0.1.set _).far (by omega) _, (B0.2.far (by omega) _).set _⟩ | exact ⟨(B1.1.set _).far (by omega) _, (B1.2.far (by omega) _).set _⟩ | exact ⟨Cell.box 0 rfl, Cell.box 1 rfl⟩), Lib.hid (by repeat (first | (with_reducible exact Below.refl _ _) | (with_reducible exact HB5.out) | (refine Below.drew ?_) | (refine Below.setCell ?_ (by first | (simp; done) | (have := HB5.out.size; simp; omega) | (have := HB5.out.size; omega)) _) | (refine Below.alloc ?_ (by first | (simp; done) | (have := HB5.out.size; simp; omega) | (have := HB5.out.size; omega)) _)))⟩
        · (try simp only [List.getElem_toArray, List.getElem_cons_zero, List.getElem_cons_succ])
          go_simp
          refine hK.out _ _ ?_ (fun hHeld => ?_)
          · exact HD2.out _ (by repeat (first | (with_reducible exact Below.refl _ _) | (with_reducible exact HB5.out) | (refine Below.drew ?_) | (refine Below.setCell ?_ (by first | (simp; done) | (have := HB5.out.size; simp; omega) | (have := HB5.out.size; omega)) _) | (refine Below.alloc ?_ (by first | (simp; done) | (have := HB5.out.size; simp; omega) | (have := HB5.out.size; omega)) _)))
          clear hK K
          (try simp only [Act.put, List.setIfInBounds_toArray, List.set_cons_zero, List.set_cons_succ, List.getElem_toArray, List.getElem_cons_zero, List.getElem_cons_succ])
          refine wpAnyH_ready (rs := [8]) (by kernel_rfl) (by simp) ?_
          refine AllReadyH.cons (o := _) rfl (fun K hK => ?_) AllReadyH.nil
          · (try simp only [List.getElem_toArray, List.getElem_cons_zero, List.getElem_cons_succ])
            go_simp
            go_at_call 38
            refine (HA'.out _).mono ?_
            rintro e w5 ⟨rfl, hb⟩
            have HB5 : Hid (Below Wu.heap.size Wu w5) := Lib.hid (Below.trans (by repeat (first | (with_reducible exact Below.refl _ _) | (with_reducible exact HB0.out) | (refine Below.drew ?_) | (refine Below.setCell ?_ (by first | (simp; done) | (have := HB0.out.size; simp; omega) | (have := HB0.out.size; omega)) _) | (refine Below.alloc ?_ (by first | (simp; done) | (have := HB0.out.size; simp; omega) | (have := HB0.out.size; omega)) _))) (hb.mono (by simp <;> omega)))
            (try have B0 : Cell w5 Wu.heap.size 0 (.int .i64 0) ∧ Cell w5 Wu.heap.size 1 (.bool false) := ⟨Cell.below (by exact Cell.alloc (w := Wu.drew.alloc (.cells #[.int .i64 0, .bool false] 39)) (Cell.box (w := Wu.drew) (cs := #[.int .i64 0, .bool false]) (t := 39) 0 rfl) _) hb, Cell.below (by exact Cell.alloc (w := Wu.drew.alloc (.cells #[.int .i64 0, .bool false] 39)) (Cell.box (w := Wu.drew) (cs := #[.int .i64 0, .bool false]) (t := 39) 1 rfl) _) hb⟩)
            (try have B1 : Cell w5 (Wu.heap.size + 1) 0 (.int .i64 0) ∧ Cell w5 (Wu.heap.size + 1) 1 (.bool false) := ⟨Cell.below (by have q := Cell.box (w := Wu.drew.alloc (.cells #[.int .i64 0, .int .i64 3, .int .i64 24, .int .i64 31] 3)) (cs := #[.int .i64 0, .bool false]) (t := 39) 0 rfl; simp only [World.size_alloc, World.size_drew] at q; exact q) hb, Cell.below (by have q := Cell.box (w := Wu.drew.alloc (.cells #[.int .i64 0, .int .i64 3, .int .i64 24, .int .i64 31] 3)) (cs := #[.int .i64 0, .bool false]) (t := 39) 1 rfl; simp only [World.size_alloc, World.size_drew] at q; exact q) hb⟩)
            (try (have b0 := B0.1.1; have b1 := B0.2.1; have b2 := B0.1.2; have b3 := B0.2.2))
            (try (have b0 := B1.1.1; have b1 := B1.2.1; have b2 := B1.1.2; have b3 := B1.2.2))
            refine hK.out _ _ ?_ (fun hHeld => ?_)
            · exact HD2.out _ (by repeat (first | (with_reducible exact Below.refl _ _) | (with_reducible exact HB5.out) | (refine Below.drew ?_) | (refine Below.setCell ?_ (by first | (simp; done) | (have := HB5.out.size; simp; omega) | (have := HB5.out.size; omega)) _) | (refine Below.alloc ?_ (by first | (simp; done) | (have := HB5.out.size; simp; omega) | (have := HB5.out.size; omega)) _)))
            clear hK K
            (try simp only [Act.put, List.setIfInBounds_toArray, List.set_cons_zero, List.set_cons_succ, List.getElem_toArray, List.getElem_cons_zero, List.getElem_cons_succ])
            refine wpAnyH_take (i := 9) (oi := _) (v := ?vu2549_11) rfl (by kernel_rfl) (by kernel_rfl) (by kernel_rfl) (fun _ _ _ h => h) (Or.inl ⟨by rfl, ?hyu2549_11⟩) (by assumption) ?restu2549_11
            case hyu2549_11 => (intro w hSw; (try dsimp only at hSw); (try simp only [List.getElem_toArray, List.getElem_cons_zero, List.getElem_cons_succ]); go_simp; (try with_reducible rfl))
            (try simp only [Act.put, List.setIfInBounds_toArray, List.set_cons_zero, List.set_cons_succ, List.getElem_toArray, List.getElem_cons_zero, List.getElem_cons_succ])
            refine wpAnyH_take (i := 10) (oi := _) (v := ?vu25410_12) rfl (by kernel_rfl) (by kernel_rfl) (by kernel_rfl) (fun _ _ _ h => h) (Or.inl ⟨by rfl, ?hyu25410_12⟩) (by assumption) ?restu25410_12
            case hyu25410_12 => (intro w hSw; (try dsimp only at hSw); (try simp only [List.getElem_toArray, List.getElem_cons_zero, List.getElem_cons_succ]); go_simp; (try with_reducible rfl))
            (try simp only [Act.put, List.setIfInBounds_toArray, List.set_cons_zero, List.set_cons_succ, List.getElem_toArray, List.getElem_cons_zero, List.getElem_cons_succ])
            refine wpAnyH_take (i := 11) (oi := _) (v := ?vu25411_13) rfl (by kernel_rfl) (by kernel_rfl) (by kernel_rfl) (fun _ _ _ h => h) (Or.inl ⟨by rfl, ?hyu25411_13⟩) (by assumption) ?restu25411_13
            case hyu25411_13 => (intro w hSw; (try dsimp only at hSw); (try simp only [List.getElem_toArray, List.getElem_cons_zero, List.getElem_cons_succ]); go_simp; (try with_reducible rfl))
            (try simp only [Act.put, List.setIfInBounds_toArray, List.set_cons_zero, List.set_cons_succ, List.getElem_toArray, List.getElem_cons_zero, List.getElem_cons_succ])
            refine wpAnyH_ready (rs := [13]) (by kernel_rfl) (by simp) ?_
            refine AllReadyH.cons (o := _) rfl (fun K hK => ?_) AllReadyH.nil
            · (try simp only [List.getElem_toArray, List.getElem_cons_zero, List.getElem_cons_succ])
              go_simp
              refine hK.out _ _ ?_ (fun hHeld => ?_)
              · exact HD2.out _ (by repeat (first | (with_reducible exact Below.refl _ _) | (with_reducible exact HB5.out) | (refine Below.drew ?_) | (refine Below.setCell ?_ (by first | (simp; done) | (have := HB5.out.size; simp; omega) | (have := HB5.out.size; omega)) _) | (refine Below.alloc ?_ (by first | (simp; done) | (have := HB5.out.size; simp; omega) | (have := HB5.out.size; omega)) _)))
              clear hK K
              (try simp only [Act.put, List.setIfInBounds_toArray, List.set_cons_zero, List.set_cons_succ, List.getElem_toArray, List.getElem_cons_zero, List.getElem_cons_succ])
              refine wpAnyH_take (i := 14) (oi := _) (v := ?vu25414_14) rfl (by kernel_rfl) (by kernel_rfl) (by kernel_rfl) (fun _ _ _ h => h) (Or.inl ⟨by rfl, ?hyu25414_14⟩) (by assumption) ?restu25414_14
              case hyu25414_14 => (intro w hSw; (try dsimp only at hSw); (try simp only [List.getElem_toArray, List.getElem_cons_zero, List.getElem_cons_succ]); go_simp; (try with_reducible rfl))
              (try simp only [Act.put, List.setIfInBounds_toArray, List.set_cons_zero, List.set_cons_succ, List.getElem_toArray, List.getElem_cons_zero, List.getElem_cons_succ])
              refine wpAnyH_done (by kernel_rfl) ?_ _
              refine NoPanic.normal ?_
              go_wp2_with fail
              go_meet
              exact ⟨_, rfl, rfl, Lib.hid (by first | omega | exact Nat.le_refl _ | exact Nat.le_succ _ | exact HB5.out.size), Lib.hid (by first | exact ⟨(B0.1.set _).far (by omega) _, (B0.2.far (by omega) _).set _⟩ | exact ⟨(B1.1.set _).far (by omega) _, (B1.2.far (by omega) _).set _⟩ | exact ⟨Cell.box 0 rfl, Cell.box 1 rfl⟩), Lib.hid (by repeat (first | (with_reducible exact Below.refl _ _) | (with_reducible exact HB5.out) | (refine Below.drew ?_) | (refine Below.setCell ?_ (by first | (simp; done) | (have := HB5.out.size; simp; omega) | (have := HB5.out.size; omega)) _) | (refine Below.alloc ?_ (by first | (simp; done) | (have := HB5.out.size; simp; omega) | (have := HB5.out.size; omega)) _)))⟩
      · (try simp only [List.getElem_toArray, List.getElem_cons_zero, List.getElem_cons_succ])
        go_simp
        refine hK.out _ _ ?_ (fun hHeld => ?_)
        · exact HD2.out _ (by repeat (first | (with_reducible exact Below.refl _ _) | (with_reducible exact HB5.out) | (refine Below.drew ?_) | (refine Below.setCell ?_ (by first | (simp; done) | (have := HB5.out.size; simp; omega) | (have := HB5.out.size; omega)) _) | (refine Below.alloc ?_ (by first | (simp; done) | (have := HB5.out.size; simp; omega) | (have := HB5.out.size; omega)) _)))
        clear hK K
        (try simp only [Act.put, List.setIfInBounds_toArray, List.set_cons_zero, List.set_cons_succ, List.getElem_toArray, List.getElem_cons_zero, List.getElem_cons_succ])
        refine wpAnyH_ready (rs := [7]) (by kernel_rfl) (by simp) ?_
        refine AllReadyH.cons (o := _) rfl (fun K hK => ?_) AllReadyH.nil
        · (try simp only [List.getElem_toArray, List.getElem_cons_zero, List.getElem_cons_succ])
          go_simp
          go_at_call 39
          refine (HG.out _ _ (by first | exact ints_row (w := Wu.drew) rfl [0, 3, 24, 31] 4 rfl 3 (by decide) (by simp) (Below.refl _ _) | exact ints_row (w := Wu) rfl [0, 3, 24, 31] 4 rfl 3 (by decide) (by simp) (Below.refl _ _) | exact ints_row (w := Wu.drew) rfl [0, 3, 24, 31] 4 rfl 3 (by decide) (by simp) ((Below.refl _ _).alloc (by simp) _) | exact ints_row (w := Wu) rfl [0, 3, 24, 31] 4 rfl 3 (by decide) (by simp) (Below.refl _ _).drew | exact ints_row (w := Wu) rfl [0, 3, 24, 31] 4 rfl 3 (by decide) (by simp) ((Below.refl _ _).drew.alloc (by simp) _) | exact ints_row (w := Wu) rfl [0, 3, 24, 31] 4 rfl 3 (by decide) (by simp) (((Below.refl _ _).alloc (by simp) _).drew) | exact ints_row (w := Wu.drew.alloc (.cells #[.int .i64 0, .bool false] 39)) (by simp) [0, 3, 24, 31] 4 rfl 3 (by decide) (by simp) (Below.refl _ _) | exact ints_row (w := Wu.alloc (.cells #[.int .i64 0, .bool false] 39)) (by simp) [0, 3, 24, 31] 4 rfl 3 (by decide) (by simp) (Below.refl _ _).drew)).mono ?_
          rintro e w4 ⟨rfl, rfl⟩
          refine hK.out _ _ ?_ (fun hHeld => ?_)
          · exact HD2.out _ (by repeat (first | (with_reducible exact Below.refl _ _) | (with_reducible exact HB5.out) | (refine Below.drew ?_) | (refine Below.setCell ?_ (by first | (simp; done) | (have := HB5.out.size; simp; omega) | (have := HB5.out.size; omega)) _) | (refine Below.alloc ?_ (by first | (simp; done) | (have := HB5.out.size; simp; omega) | (have := HB5.out.size; omega)) _)))
          clear hK K
          (try simp only [Act.put, List.setIfInBounds_toArray, List.set_cons_zero, List.set_cons_succ, List.getElem_toArray, List.getElem_cons_zero, List.getElem_cons_succ])
          refine wpAnyH_ready (rs := [8]) (by kernel_rfl) (by simp) ?_
          refine AllReadyH.cons (o := _) rfl (fun K hK => ?_) AllReadyH.nil
          · (try simp only [List.getElem_toArray, List.getElem_cons_zero, List.getElem_cons_succ])
            go_simp
            go_at_call 38
            refine (HA'.out _).mono ?_
            rintro e w5 ⟨rfl, hb⟩
            have HB5 : Hid (Below Wu.heap.size Wu w5) := Lib.hid (Below.trans (by repeat (first | (with_reducible exact Below.refl _ _) | (with_reducible exact HB0.out) | (refine Below.drew ?_) | (refine Below.setCell ?_ (by first | (simp; done) | (have := HB0.out.size; simp; omega) | (have := HB0.out.size; omega)) _) | (refine Below.alloc ?_ (by first | (simp; done) | (have := HB0.out.size; simp; omega) | (have := HB0.out.size; omega)) _))) (hb.mono (by simp <;> omega)))
            (try have B0 : Cell w5 Wu.heap.size 0 (.int .i64 0) ∧ Cell w5 Wu.heap.size 1 (.bool false) := ⟨Cell.below (by exact Cell.alloc (w := Wu.drew.alloc (.cells #[.int .i64 0, .bool false] 39)) (Cell.box (w := Wu.drew) (cs := #[.int .i64 0, .bool false]) (t := 39) 0 rfl) _) hb, Cell.below (by exact Cell.alloc (w := Wu.drew.alloc (.cells #[.int .i64 0, .bool false] 39)) (Cell.box (w := Wu.drew) (cs := #[.int .i64 0, .bool false]) (t := 39) 1 rfl) _) hb⟩)
            (try have B1 : Cell w5 (Wu.heap.size + 1) 0 (.int .i64 0) ∧ Cell w5 (Wu.heap.size + 1) 1 (.bool false) := ⟨Cell.below (by have q := Cell.box (w := Wu.drew.alloc (.cells #[.int .i64 0, .int .i64 3, .int .i64 24, .int .i64 31] 3)) (cs := #[.int .i64 0, .bool false]) (t := 39) 0 rfl; simp only [World.size_alloc, World.size_drew] at q; exact q) hb, Cell.below (by have q := Cell.box (w := Wu.drew.alloc (.cells #[.int .i64 0, .int .i64 3, .int .i64 24, .int .i64 31] 3)) (cs := #[.int .i64 0, .bool false]) (t := 39) 1 rfl; simp only [World.size_alloc, World.size_drew] at q; exact q) hb⟩)
            (try (have b0 := B0.1.1; have b1 := B0.2.1; have b2 := B0.1.2; have b3 := B0.2.2))
            (try (have b0 := B1.1.1; have b1 := B1.2.1; have b2 := B1.1.2; have b3 := B1.2.2))
            refine hK.out _ _ ?_ (fun hHeld => ?_)
            · exact HD2.out _ (by repeat (first | (with_reducible exact Below.refl _ _) | (with_reducible exact HB5.out) | (refine Below.drew ?_) | (refine Below.setCell ?_ (by first | (simp; done) | (have := HB5.out.size; simp; omega) | (have := HB5.out.size; omega)) _) | (refine Below.alloc ?_ (by first | (simp; done) | (have := HB5.out.size; simp; omega) | (have := HB5.out.size; omega)) _)))
            clear hK K
            (try simp only [Act.put, List.setIfInBounds_toArray, List.set_cons_zero, List.set_cons_succ, List.getElem_toArray, List.getElem_cons_zero, List.getElem_cons_succ])
            refine wpAnyH_take (i := 9) (oi := _) (v := ?vu2549_15) rfl (by kernel_rfl) (by kernel_rfl) (by kernel_rfl) (fun _ _ _ h => h) (Or.inl ⟨by rfl, ?hyu2549_15⟩) (by assumption) ?restu2549_15
            case hyu2549_15 => (intro w hSw; (try dsimp only at hSw); (try simp only [List.getElem_toArray, List.getElem_cons_zero, List.getElem_cons_succ]); go_simp; (try with_reducible rfl))
            (try simp only [Act.put, List.setIfInBounds_toArray, List.set_cons_zero, List.set_cons_succ, List.getElem_toArray, List.getElem_cons_zero, List.getElem_cons_succ])
            refine wpAnyH_take (i := 10) (oi := _) (v := ?vu25410_16) rfl (by kernel_rfl) (by kernel_rfl) (by kernel_rfl) (fun _ _ _ h => h) (Or.inl ⟨by rfl, ?hyu25410_16⟩) (by assumption) ?restu25410_16
            case hyu25410_16 => (intro w hSw; (try dsimp only at hSw); (try simp only [List.getElem_toArray, List.getElem_cons_zero, List.getElem_cons_succ]); go_simp; (try with_reducible rfl))
            (try simp only [Act.put, List.setIfInBounds_toArray, List.set_cons_zero, List.set_cons_succ, List.getElem_toArray, List.getElem_cons_zero, List.getElem_cons_succ])
            refine wpAnyH_take (i := 11) (oi := _) (v := ?vu25411_17) rfl (by kernel_rfl) (by kernel_rfl) (by kernel_rfl) (fun _ _ _ h => h) (Or.inl ⟨by rfl, ?hyu25411_17⟩) (by assumption) ?restu25411_17
            case hyu25411_17 => (intro w hSw; (try dsimp only at hSw); (try simp only [List.getElem_toArray, List.getElem_cons_zero, List.getElem_cons_succ]); go_simp; (try with_reducible rfl))
            (try simp only [Act.put, List.setIfInBounds_toArray, List.set_cons_zero, List.set_cons_succ, List.getElem_toArray, List.getElem_cons_zero, List.getElem_cons_succ])
            refine wpAnyH_ready (rs := [13]) (by kernel_rfl) (by simp) ?_
            refine AllReadyH.cons (o := _) rfl (fun K hK => ?_) AllReadyH.nil
            · (try simp only [List.getElem_toArray, List.getElem_cons_zero, List.getElem_cons_succ])
              go_simp
              refine hK.out _ _ ?_ (fun hHeld => ?_)
              · exact HD2.out _ (by repeat (first | (with_reducible exact Below.refl _ _) | (with_reducible exact HB5.out) | (refine Below.drew ?_) | (refine Below.setCell ?_ (by first | (simp; done) | (have := HB5.out.size; simp; omega) | (have := HB5.out.size; omega)) _) | (refine Below.alloc ?_ (by first | (simp; done) | (have := HB5.out.size; simp; omega) | (have := HB5.out.size; omega)) _)))
              clear hK K
              (try simp only [Act.put, List.setIfInBounds_toArray, List.set_cons_zero, List.set_cons_succ, List.getElem_toArray, List.getElem_cons_zero, List.getElem_cons_succ])
              refine wpAnyH_take (i := 14) (oi := _) (v := ?vu25414_18) rfl (by kernel_rfl) (by kernel_rfl) (by kernel_rfl) (fun _ _ _ h => h) (Or.inl ⟨by rfl, ?hyu25414_18⟩) (by assumption) ?restu25414_18
              case hyu25414_18 => (intro w hSw; (try dsimp only at hSw); (try simp only [List.getElem_toArray, List.getElem_cons_zero, List.getElem_cons_succ]); go_simp; (try with_reducible rfl))
              (try simp only [Act.put, List.setIfInBounds_toArray, List.set_cons_zero, List.set_cons_succ, List.getElem_toArray, List.getElem_cons_zero, List.getElem_cons_succ])
              refine wpAnyH_done (by kernel_rfl) ?_ _
              refine NoPanic.normal ?_
              go_wp2_with fail
              go_meet
              exact ⟨_, rfl, rfl, Lib.hid (by first | omega | exact Nat.le_refl _ | exact Nat.le_succ _ | exact HB5.out.size), Lib.hid (by first | exact ⟨(B0.1.set _).far (by omega) _, (B0.2.far (by omega) _).set _⟩ | exact ⟨(B1.1.set _).far (by omega) _, (B1.2.far (by omega) _).set _⟩ | exact ⟨Cell.box 0 rfl, Cell.box 1 rfl⟩), Lib.hid (by repeat (first | (with_reducible exact Below.refl _ _) | (with_reducible exact HB5.out) | (refine Below.drew ?_) | (refine Below.setCell ?_ (by first | (simp; done) | (have := HB5.out.size; simp; omega) | (have := HB5.out.size; omega)) _) | (refine Below.alloc ?_ (by first | (simp; done) | (have := HB5.out.size; simp; omega) | (have := HB5.out.size; omega)) _)))⟩
    · (try simp only [List.getElem_toArray, List.getElem_cons_zero, List.getElem_cons_succ])
      go_simp
      refine hK.out _ _ ?_ (fun hHeld => ?_)
      · exact HD2.out _ (by repeat (first | (with_reducible exact Below.refl _ _) | (with_reducible exact HB5.out) | (refine Below.drew ?_) | (refine Below.setCell ?_ (by first | (simp; done) | (have := HB5.out.size; simp; omega) | (have := HB5.out.size; omega)) _) | (refine Below.alloc ?_ (by first | (simp; done) | (have := HB5.out.size; simp; omega) | (have := HB5.out.size; omega)) _)))
      clear hK K
      (try simp only [Act.put, List.setIfInBounds_toArray, List.set_cons_zero, List.set_cons_succ, List.getElem_toArray, List.getElem_cons_zero, List.getElem_cons_succ])
      refine wpAnyH_ready (rs := [6]) (by kernel_rfl) (by simp) ?_
      refine AllReadyH.cons (o := _) rfl (fun K hK => ?_) AllReadyH.nil
      · (try simp only [List.getElem_toArray, List.getElem_cons_zero, List.getElem_cons_succ])
        go_simp
        refine hK.out _ _ ?_ (fun hHeld => ?_)
        · exact HD2.out _ (by repeat (first | (with_reducible exact Below.refl _ _) | (with_reducible exact HB5.out) | (refine Below.drew ?_) | (refine Below.setCell ?_ (by first | (simp; done) | (have := HB5.out.size; simp; omega) | (have := HB5.out.size; omega)) _) | (refine Below.alloc ?_ (by first | (simp; done) | (have := HB5.out.size; simp; omega) | (have := HB5.out.size; omega)) _)))
        clear hK K
        (try simp only [Act.put, List.setIfInBounds_toArray, List.set_cons_zero, List.set_cons_succ, List.getElem_toArray, List.getElem_cons_zero, List.getElem_cons_succ])
        refine wpAnyH_ready (rs := [7]) (by kernel_rfl) (by simp) ?_
        refine AllReadyH.cons (o := _) rfl (fun K hK => ?_) AllReadyH.nil
        · (try simp only [List.getElem_toArray, List.getElem_cons_zero, List.getElem_cons_succ])
          go_simp
          go_at_call 39
          refine (HG.out _ _ (by first | exact ints_row (w := Wu.drew) rfl [0, 3, 24, 31] 4 rfl 3 (by decide) (by simp) (Below.refl _ _) | exact ints_row (w := Wu) rfl [0, 3, 24, 31] 4 rfl 3 (by decide) (by simp) (Below.refl _ _) | exact ints_row (w := Wu.drew) rfl [0, 3, 24, 31] 4 rfl 3 (by decide) (by simp) ((Below.refl _ _).alloc (by simp) _) | exact ints_row (w := Wu) rfl [0, 3, 24, 31] 4 rfl 3 (by decide) (by simp) (Below.refl _ _).drew | exact ints_row (w := Wu) rfl [0, 3, 24, 31] 4 rfl 3 (by decide) (by simp) ((Below.refl _ _).drew.alloc (by simp) _) | exact ints_row (w := Wu) rfl [0, 3, 24, 31] 4 rfl 3 (by decide) (by simp) (((Below.refl _ _).alloc (by simp) _).drew) | exact ints_row (w := Wu.drew.alloc (.cells #[.int .i64 0, .bool false] 39)) (by simp) [0, 3, 24, 31] 4 rfl 3 (by decide) (by simp) (Below.refl _ _) | exact ints_row (w := Wu.alloc (.cells #[.int .i64 0, .bool false] 39)) (by simp) [0, 3, 24, 31] 4 rfl 3 (by decide) (by simp) (Below.refl _ _).drew)).mono ?_
          rintro e w4 ⟨rfl, rfl⟩
          refine hK.out _ _ ?_ (fun hHeld => ?_)
          · exact HD2.out _ (by repeat (first | (with_reducible exact Below.refl _ _) | (with_reducible exact HB5.out) | (refine Below.drew ?_) | (refine Below.setCell ?_ (by first | (simp; done) | (have := HB5.out.size; simp; omega) | (have := HB5.out.size; omega)) _) | (refine Below.alloc ?_ (by first | (simp; done) | (have := HB5.out.size; simp; omega) | (have := HB5.out.size; omega)) _)))
          clear hK K
          (try simp only [Act.put, List.setIfInBounds_toArray, List.set_cons_zero, List.set_cons_succ, List.getElem_toArray, List.getElem_cons_zero, List.getElem_cons_succ])
          refine wpAnyH_ready (rs := [8]) (by kernel_rfl) (by simp) ?_
          refine AllReadyH.cons (o := _) rfl (fun K hK => ?_) AllReadyH.nil
          · (try simp only [List.getElem_toArray, List.getElem_cons_zero, List.getElem_cons_succ])
            go_simp
            go_at_call 38
            refine (HA'.out _).mono ?_
            rintro e w5 ⟨rfl, hb⟩
            have HB5 : Hid (Below Wu.heap.size Wu w5) := Lib.hid (Below.trans (by repeat (first | (with_reducible exact Below.refl _ _) | (with_reducible exact HB0.out) | (refine Below.drew ?_) | (refine Below.setCell ?_ (by first | (simp; done) | (have := HB0.out.size; simp; omega) | (have := HB0.out.size; omega)) _) | (refine Below.alloc ?_ (by first | (simp; done) | (have := HB0.out.size; simp; omega) | (have := HB0.out.size; omega)) _))) (hb.mono (by simp <;> omega)))
            (try have B0 : Cell w5 Wu.heap.size 0 (.int .i64 0) ∧ Cell w5 Wu.heap.size 1 (.bool false) := ⟨Cell.below (by exact Cell.alloc (w := Wu.drew.alloc (.cells #[.int .i64 0, .bool false] 39)) (Cell.box (w := Wu.drew) (cs := #[.int .i64 0, .bool false]) (t := 39) 0 rfl) _) hb, Cell.below (by exact Cell.alloc (w := Wu.drew.alloc (.cells #[.int .i64 0, .bool false] 39)) (Cell.box (w := Wu.drew) (cs := #[.int .i64 0, .bool false]) (t := 39) 1 rfl) _) hb⟩)
            (try have B1 : Cell w5 (Wu.heap.size + 1) 0 (.int .i64 0) ∧ Cell w5 (Wu.heap.size + 1) 1 (.bool false) := ⟨Cell.below (by have q := Cell.box (w := Wu.drew.alloc (.cells #[.int .i64 0, .int .i64 3, .int .i64 24, .int .i64 31] 3)) (cs := #[.int .i64 0, .bool false]) (t := 39) 0 rfl; simp only [World.size_alloc, World.size_drew] at q; exact q) hb, Cell.below (by have q := Cell.box (w := Wu.drew.alloc (.cells #[.int .i64 0, .int .i64 3, .int .i64 24, .int .i64 31] 3)) (cs := #[.int .i64 0, .bool false]) (t := 39) 1 rfl; simp only [World.size_alloc, World.size_drew] at q; exact q) hb⟩)
            (try (have b0 := B0.1.1; have b1 := B0.2.1; have b2 := B0.1.2; have b3 := B0.2.2))
            (try (have b0 := B1.1.1; have b1 := B1.2.1; have b2 := B1.1.2; have b3 := B1.2.2))
            refine hK.out _ _ ?_ (fun hHeld => ?_)
            · exact HD2.out _ (by repeat (first | (with_reducible exact Below.refl _ _) | (with_reducible exact HB5.out) | (refine Below.drew ?_) | (refine Below.setCell ?_ (by first | (simp; done) | (have := HB5.out.size; simp; omega) | (have := HB5.out.size; omega)) _) | (refine Below.alloc ?_ (by first | (simp; done) | (have := HB5.out.size; simp; omega) | (have := HB5.out.size; omega)) _)))
            clear hK K
            (try simp only [Act.put, List.setIfInBounds_toArray, List.set_cons_zero, List.set_cons_succ, List.getElem_toArray, List.getElem_cons_zero, List.getElem_cons_succ])
            refine wpAnyH_take (i := 9) (oi := _) (v := ?vu2549_19) rfl (by kernel_rfl) (by kernel_rfl) (by kernel_rfl) (fun _ _ _ h => h) (Or.inl ⟨by rfl, ?hyu2549_19⟩) (by assumption) ?restu2549_19
            case hyu2549_19 => (intro w hSw; (try dsimp only at hSw); (try simp only [List.getElem_toArray, List.getElem_cons_zero, List.getElem_cons_succ]); go_simp; (try with_reducible rfl))
            (try simp only [Act.put, List.setIfInBounds_toArray, List.set_cons_zero, List.set_cons_succ, List.getElem_toArray, List.getElem_cons_zero, List.getElem_cons_succ])
            refine wpAnyH_take (i := 10) (oi := _) (v := ?vu25410_20) rfl (by kernel_rfl) (by kernel_rfl) (by kernel_rfl) (fun _ _ _ h => h) (Or.inl ⟨by rfl, ?hyu25410_20⟩) (by assumption) ?restu25410_20
            case hyu25410_20 => (intro w hSw; (try dsimp only at hSw); (try simp only [List.getElem_toArray, List.getElem_cons_zero, List.getElem_cons_succ]); go_simp; (try with_reducible rfl))
            (try simp only [Act.put, List.setIfInBounds_toArray, List.set_cons_zero, List.set_cons_succ, List.getElem_toArray, List.getElem_cons_zero, List.getElem_cons_succ])
            refine wpAnyH_take (i := 11) (oi := _) (v := ?vu25411_21) rfl (by kernel_rfl) (by kernel_rfl) (by kernel_rfl) (fun _ _ _ h => h) (Or.inl ⟨by rfl, ?hyu25411_21⟩) (by assumption) ?restu25411_21
            case hyu25411_21 => (intro w hSw; (try dsimp only at hSw); (try simp only [List.getElem_toArray, List.getElem_cons_zero, List.getElem_cons_succ]); go_simp; (try with_reducible rfl))
            (try simp only [Act.put, List.setIfInBounds_toArray, List.set_cons_zero, List.set_cons_succ, List.getElem_toArray, List.getElem_cons_zero, List.getElem_cons_succ])
            refine wpAnyH_ready (rs := [13]) (by kernel_rfl) (by simp) ?_
            refine AllReadyH.cons (o := _) rfl (fun K hK => ?_) AllReadyH.nil
            · (try simp only [List.getElem_toArray, List.getElem_cons_zero, List.getElem_cons_succ])
              go_simp
              refine hK.out _ _ ?_ (fun hHeld => ?_)
              · exact HD2.out _ (by repeat (first | (with_reducible exact Below.refl _ _) | (with_reducible exact HB5.out) | (refine Below.drew ?_) | (refine Below.setCell ?_ (by first | (simp; done) | (have := HB5.out.size; simp; omega) | (have := HB5.out.size; omega)) _) | (refine Below.alloc ?_ (by first | (simp; done) | (have := HB5.out.size; simp; omega) | (have := HB5.out.size; omega)) _)))
              clear hK K
              (try simp only [Act.put, List.setIfInBounds_toArray, List.set_cons_zero, List.set_cons_succ, List.getElem_toArray, List.getElem_cons_zero, List.getElem_cons_succ])
              refine wpAnyH_take (i := 14) (oi := _) (v := ?vu25414_22) rfl (by kernel_rfl) (by kernel_rfl) (by kernel_rfl) (fun _ _ _ h => h) (Or.inl ⟨by rfl, ?hyu25414_22⟩) (by assumption) ?restu25414_22
              case hyu25414_22 => (intro w hSw; (try dsimp only at hSw); (try simp only [List.getElem_toArray, List.getElem_cons_zero, List.getElem_cons_succ]); go_simp; (try with_reducible rfl))
              (try simp only [Act.put, List.setIfInBounds_toArray, List.set_cons_zero, List.set_cons_succ, List.getElem_toArray, List.getElem_cons_zero, List.getElem_cons_succ])
              refine wpAnyH_done (by kernel_rfl) ?_ _
              refine NoPanic.normal ?_
              go_wp2_with fail
              go_meet
              exact ⟨_, rfl, rfl, Lib.hid (by first | omega | exact Nat.le_refl _ | exact Nat.le_succ _ | exact HB5.out.size), Lib.hid (by first | exact ⟨(B0.1.set _).far (by omega) _, (B0.2.far (by omega) _).set _⟩ | exact ⟨(B1.1.set _).far (by omega) _, (B1.2.far (by omega) _).set _⟩ | exact ⟨Cell.box 0 rfl, Cell.box 1 rfl⟩), Lib.hid (by repeat (first | (with_reducible exact Below.refl _ _) | (with_reducible exact HB5.out) | (refine Below.drew ?_) | (refine Below.setCell ?_ (by first | (simp; done) | (have := HB5.out.size; simp; omega) | (have := HB5.out.size; omega)) _) | (refine Below.alloc ?_ (by first | (simp; done) | (have := HB5.out.size; simp; omega) | (have := HB5.out.size; omega)) _)))⟩
  case rest =>
    obtain ⟨g, rfl, rfl, hg, HC, HB⟩ := hcut
    have HBT : Hid (Below Wt.heap.size Wt wc) := Lib.hid (HU.out.trans (HB.out.mono HU.out.size))
    obtain ⟨e1, e2, e3, e4⟩ := HD.out _ HBT.out
    obtain ⟨f3, f4⟩ := HF.out _ HBT.out
    obtain ⟨⟨g0, g0f⟩, g1, g1f⟩ := HC.out
    have HP := Lib.hid (HPUT.out _ (H.out.below HBT.out))
    have hne : Hid (g ≠ r ∧ g7 ≠ r ∧ w.heap.size ≠ r ∧ w.heap.size < wc.heap.size ∧ g < wc.heap.size) := Lib.hid (by have h1 := HPT.out; have h2 := hg.out; have h3 := HG7.out.1; have h4 := HG7.out.2; have h5 := HU.out.size; have h6 := HPW.out; have h7 := HZ.out; have h8 := HB.out.size; have h9 := HC.out.1.lt; omega)
    have x7 := HC7.out.1.below HB.out
    go_upto_region 15 with fail
    go_region
    have HK2 : Hid (Keep (· = r) wc ((wc.setCell ⟨r, 3 + o * 2, none⟩ (.int .i64 s')).setCell ⟨r, 3 + o * 2 + 1, none⟩ (.bool false)).drew) := Lib.hid (((keep_set wc r (3 + o * 2) _).own (3 + o * 2 + 1) _).drew)
    have HP2 := Lib.hid HP.out.drew
    clear HP
    dsimp only at HP2
    generalize ((wc.setCell ⟨r, 3 + o * 2, none⟩ (.int .i64 s')).setCell ⟨r, 3 + o * 2 + 1, none⟩ (.bool false)).drew = Wv at *
    have y2 := (HK2.out.cell (p := ⟨w.heap.size, 2, none⟩) hne.out.2.2.2.1 hne.out.2.2.1).trans e2
    have y8 := (Cell.keep ⟨g0, g0f⟩ HK2.out hne.out.1)
    have y7 := (x7.keep HK2.out hne.out.2.1)
    clear e1 e2 e3 e4 f3 f4 g0 g0f g1 g1f x7
    go_wp2_with fail
    refine (HSD.out _ HP2.out).mono ?_
    rintro e w7 ⟨rfl, hq, hk⟩
    have HQ := Lib.hid hq
    have HK : Hid (Keep (· = r) w w7) := Lib.hid ((((K.out.trans (Keep.of_below (· = r) HBT.out) (fun _ _ x => x)).trans HK2.out (fun _ _ x => x))).trans hk (fun _ _ x => x))
    have z2' := (hk.cell (p := ⟨w.heap.size, 2, none⟩) (World.block_lt_of_cell? _ _ y2) hne.out.2.2.1).trans y2
    have z8' := (y8.keep hk hne.out.1).1
    have z7' := (y7.keep hk hne.out.2.1).1
    clear hq hk y2 y7 y8
    cases b31
    · go_wp2_with fail
      go_ret
      exact ⟨by rw [HR.out.2]; rfl, by rw [show m.heardUs o _ = _ from HR.out.1]; exact HQ.out, HK.out⟩
    · cases b1
      · go_wp2_with fail
        go_ret
        exact ⟨by rw [HR.out.2]; rfl, by rw [show m.heardUs o _ = _ from HR.out.1]; exact HQ.out, HK.out⟩
      · cases b0
        · go_wp2_with fail
          go_ret
          exact ⟨by rw [HR.out.2]; rfl, by rw [show m.heardUs o _ = _ from HR.out.1]; exact HQ.out, HK.out⟩
        · go_wp2_with fail
          refine (HTL.out _ HQ.out).mono ?_
          rintro e w8 ⟨rfl, hq, hk⟩
          have H8 := Lib.hid hq
          have K8 := Lib.hid (HK.out.trans hk (fun _ _ x => x))
          clear hq hk
          go_wp2_with fail
          go_ret
          exact ⟨by rw [HR.out.2]; rfl, by rw [show m.heardUs o _ = _ from HR.out.1]; exact H8.out, K8.out⟩

end

end Go.Proofs.Ytmkgcmnimpkmjaa
