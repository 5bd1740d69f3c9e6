/- The document's Take of an Option. Own work. -/
import Derived.Test.YtmkgcmnimpkmjaaRPactA
import Derived.Test.YtmkgcmnimpkmjaaRowI
namespace Go.Proofs.Ytmkgcmnimpkmjaa
set_option linter.unusedVariables false
set_option linter.unusedSimpArgs false
open Go.RowKit

theorem Cell.below {w w' : World} {b o : Nat} {v : Value} (h : Cell w b o v) (k : Below w.heap.size w w') : Cell w' b o v := h.keep (S := fun _ => False) (Keep.of_below _ k) (fun x => x)

section
variable (r : Nat) (name : ByteArray) (m : Pm) (w : World)

set_option maxRecDepth 100000 in
set_option maxHeartbeats 16000000 in
theorem rtake_him251 (o : Nat) (s : ByteArray) (h : RefAt w r name m) (hok : m.Ok) (ho : o ≤ 255) (hs : m.sent < 1000000) :
    Calls Try.prog 16 #[.pointer (some ⟨r, 0, none⟩), .agg #[.int .i64 2, .int .i64 251, .int .i64 (o : Int), .string s]] w fun e w' =>
      e = .returned (.string ⟨(m.hearT false o true).toArray⟩) ∧ RefAt w' r name (m.hear false o true) ∧ Keep (· = r) w w' := by
  obtain ⟨Wt, hWt⟩ : ∃ Wt, Wt = w.alloc (.cells #[.int .i64 2, .int .i64 251, .int .i64 (o : Int), .string s] 29) := ⟨_, rfl⟩
  have hT : RefAt Wt r name m := by rw [hWt]; exact h.alloc _
  have kT : Keep (· = r) w Wt := by rw [hWt]; exact (Keep.refl _ w).alloc _
  have zT : w.heap.size < Wt.heap.size := by rw [hWt]; simp
  have hp := h.lt
  have d1 : Wt.cell? ⟨w.heap.size, 1, none⟩ = some (.int .i64 251) := by rw [hWt]; exact (Cell.box (w := w) 1 rfl).1
  have d2 : Wt.cell? ⟨w.heap.size, 2, none⟩ = some (.int .i64 (o : Int)) := by rw [hWt]; exact (Cell.box (w := w) 2 rfl).1
  have HD : Hid (∀ W, Below Wt.heap.size Wt W → W.cell? ⟨w.heap.size, 1, none⟩ = some (.int .i64 251) ∧ W.cell? ⟨w.heap.size, 2, none⟩ = some (.int .i64 (o : Int)) ∧ W.cell? ⟨r, 515 + o * 2, none⟩ = some (.int .i64 (m.him o).1) ∧ W.cell? ⟨r, 515 + o * 2 + 1, none⟩ = some (.bool (m.him o).2)) :=
    Lib.hid (fun W q => ⟨(q.cell (p := ⟨w.heap.size, 1, none⟩) zT).trans d1, (q.cell (p := ⟨w.heap.size, 2, none⟩) zT).trans d2, ((hT.below q).him o ho).1.1, ((hT.below q).him o ho).2.1⟩)
  have HF : Hid (∀ W, Below Wt.heap.size Wt W → W.frozen? ⟨r, 515 + o * 2, none⟩ = false ∧ W.frozen? ⟨r, 515 + o * 2 + 1, none⟩ = false) :=
    Lib.hid (fun W q => ⟨((hT.below q).him o ho).1.2, ((hT.below q).him o ho).2.2⟩)
  have H := Lib.hid hT
  have K := Lib.hid kT
  have HW := Lib.hid hWt
  have o0 : (0 : Int) ≤ (o : Int) := by omega
  have o1 : (o : Int) < 256 := by omega
  have o2 : (o : Int) ≤ 255 := by omega
  have o3 : ¬ (o : Int) < 0 := by omega
  have o4 : ¬ (255 : Int) < (o : Int) := by omega
  have HZ := Lib.hid zT
  have HPT := Lib.hid hT.lt
  have HPW := Lib.hid hp
  obtain ⟨ag, hag⟩ : ∃ ag, ag = decide ((o : Int) ∈ agreedL false) := ⟨_, rfl⟩
  have HA := Lib.hid (fun W => rside_heard (m.him o).1 (m.him o).2 true ag W (hok.him o))
  obtain ⟨s', hs1⟩ : ∃ s, s = (m.hearR false o true).1 := ⟨_, rfl⟩
  obtain ⟨n, hn1⟩ : ∃ n, n = (m.hearR false o true).2 := ⟨_, rfl⟩
  have HA' : Hid (∀ W, Calls Try.prog 38 #[.agg #[.int .i64 (m.him o).1, .bool (m.him o).2], .bool true, .bool ag] W fun e w' => e = .returned (.tuple #[.agg #[.int .i64 s', .bool false], .int .i64 n]) ∧ Below W.heap.size W w') := by rw [hs1, hn1, Pm.hearR, ← hag]; exact HA
  have HG : Hid (∀ W A, Ints W (some ⟨A, 0, none⟩) 3 [0, 1, 3] → Calls Try.prog 39 #[.int .i64 (o : Int), .slice (some ⟨A, 0, none⟩) 3 3] W fun e w' => e = .returned (.bool ag) ∧ W = w') := Lib.hid (fun W A q => by rw [hag]; exact agree_any _ 3 3 _ _ W q)
  have HSD := Lib.hid (fun W (q : RefAt W r name (m.turn false o (s', false) 0)) => rsend_any r name m W false o (s', false) n o 253 254 rfl rfl q ho hs)
  have HPUT := Lib.hid (fun W (q : RefAt W r name m) => q.putHim o ho (s', false))
  have HR : Hid (m.hearT false o true = cmdL false o n ∧ m.hear false o true = m.turn false o (s', false) n) := Lib.hid (by rw [hs1, hn1]; exact ⟨rfl, rfl⟩)
  clear hs1 hn1 HA hag hT kT zT hs ho hok h
  generalize (m.him o).1 = s0 at *
  generalize (m.him o).2 = t0 at *
  go_enter Try.func16, Try.ntmps16
  go_upto_region 8 with fail
  rw [← HW.out]
  clear HW hWt d1 d2
  go_cut [5, 6] from 11 to 139 (fun bv nv wx => ∃ g, bv = .pointer (some ⟨g, 0, none⟩) ∧ nv = .int .i64 n ∧ Hid (Wt.heap.size ≤ g) ∧ Hid (Cell wx g 0 (.int .i64 s') ∧ Cell wx g 1 (.bool false)) ∧ Hid (Below Wt.heap.size Wt wx))
  case first =>
    refine wp_region_noPanic ?_
    refine wp_region_held_drew (S := fun W => W.cell? ⟨w.heap.size, 1, none⟩ = some (.int .i64 251) ∧ W.cell? ⟨w.heap.size, 2, none⟩ = some (.int .i64 (o : Int)) ∧ W.cell? ⟨r, 515 + o * 2, none⟩ = some (.int .i64 s0) ∧ W.cell? ⟨r, 515 + o * 2 + 1, none⟩ = some (.bool t0)) (by kernel_rfl) (HD.out _ (Below.refl _ _).drew) (fun hHeld => ?_)
    have HB0 : Hid (Below Wt.heap.size Wt Wt) := Lib.hid (Below.refl _ _)
    have HB5 := HB0
    refine wpAnyH_take (i := 0) (oi := _) (v := ?vh2510_1) rfl (by kernel_rfl) (by kernel_rfl) (by kernel_rfl) (fun _ _ _ h => h) (Or.inl ⟨by rfl, ?hyh2510_1⟩) (by assumption) ?resth2510_1
    case hyh2510_1 => (intro w hSw; (try dsimp only at hSw); (try simp only [List.getElem_toArray, List.getElem_cons_zero, List.getElem_cons_succ]); go_simp; (try with_reducible rfl))
    (try simp only [Act.put, List.setIfInBounds_toArray, List.set_cons_zero, List.set_cons_succ, List.getElem_toArray, List.getElem_cons_zero, List.getElem_cons_succ])
    refine wpAnyH_take (i := 1) (oi := _) (v := ?vh2511_2) rfl (by kernel_rfl) (by kernel_rfl) (by kernel_rfl) (fun _ _ _ h => h) (Or.inl ⟨by rfl, ?hyh2511_2⟩) (by assumption) ?resth2511_2
    case hyh2511_2 => (intro w hSw; (try dsimp only at hSw); (try simp only [List.getElem_toArray, List.getElem_cons_zero, List.getElem_cons_succ]); go_simp; (try with_reducible rfl))
    (try simp only [Act.put, List.setIfInBounds_toArray, List.set_cons_zero, List.set_cons_succ, List.getElem_toArray, List.getElem_cons_zero, List.getElem_cons_succ])
    refine wpAnyH_take (i := 7) (oi := _) (v := ?vh2517_3) rfl (by kernel_rfl) (by kernel_rfl) (by kernel_rfl) (fun _ _ _ h => h) (Or.inl ⟨by rfl, ?hyh2517_3⟩) (by assumption) ?resth2517_3
    case hyh2517_3 => (intro w hSw; (try dsimp only at hSw); (try simp only [List.getElem_toArray, List.getElem_cons_zero, List.getElem_cons_succ]); go_simp; (try with_reducible rfl))
    (try simp only [Act.put, List.setIfInBounds_toArray, List.set_cons_zero, List.set_cons_succ, List.getElem_toArray, List.getElem_cons_zero, List.getElem_cons_succ])
    refine wpAnyH_take (i := 10) (oi := _) (v := ?vh25110_4) rfl (by kernel_rfl) (by kernel_rfl) (by kernel_rfl) (fun _ _ _ h => h) (Or.inl ⟨by rfl, ?hyh25110_4⟩) (by assumption) ?resth25110_4
    case hyh25110_4 => (intro w hSw; (try dsimp only at hSw); (try simp only [List.getElem_toArray, List.getElem_cons_zero, List.getElem_cons_succ]); go_simp; (try with_reducible rfl))
    (try simp only [Act.put, List.setIfInBounds_toArray, List.set_cons_zero, List.set_cons_succ, List.getElem_toArray, List.getElem_cons_zero, List.getElem_cons_succ])
    refine wpAnyH_take (i := 2) (oi := _) (v := ?vh2512_5) rfl (by kernel_rfl) (by kernel_rfl) (by kernel_rfl) (fun _ _ _ h => h) (Or.inl ⟨by rfl, ?hyh2512_5⟩) (by assumption) ?resth2512_5
    case hyh2512_5 => (intro w hSw; (try dsimp only at hSw); (try simp only [List.getElem_toArray, List.getElem_cons_zero, List.getElem_cons_succ]); go_simp; (try with_reducible rfl))
    (try simp only [Act.put, List.setIfInBounds_toArray, List.set_cons_zero, List.set_cons_succ, List.getElem_toArray, List.getElem_cons_zero, List.getElem_cons_succ])
    refine wpAnyH_take (i := 3) (oi := _) (v := ?vh2513_6) rfl (by kernel_rfl) (by kernel_rfl) (by kernel_rfl) (fun _ _ _ h => h) (Or.inl ⟨by rfl, ?hyh2513_6⟩) (by assumption) ?resth2513_6
    case hyh2513_6 => (intro w hSw; (try dsimp only at hSw); (try simp only [List.getElem_toArray, List.getElem_cons_zero, List.getElem_cons_succ]); go_simp; (try with_reducible rfl))
    (try simp only [Act.put, List.setIfInBounds_toArray, List.set_cons_zero, List.set_cons_succ, List.getElem_toArray, List.getElem_cons_zero, List.getElem_cons_succ])
    refine wpAnyH_take (i := 8) (oi := _) (v := ?vh2518_7) rfl (by kernel_rfl) (by kernel_rfl) (by kernel_rfl) (fun _ _ _ h => h) (Or.inl ⟨by rfl, ?hyh2518_7⟩) (by assumption) ?resth2518_7
    case hyh2518_7 => (intro w hSw; (try dsimp only at hSw); (try simp only [List.getElem_toArray, List.getElem_cons_zero, List.getElem_cons_succ]); go_simp; (try with_reducible rfl))
    (try simp only [Act.put, List.setIfInBounds_toArray, List.set_cons_zero, List.set_cons_succ, List.getElem_toArray, List.getElem_cons_zero, List.getElem_cons_succ])
    refine wpAnyH_take (i := 11) (oi := _) (v := ?vh25111_8) rfl (by kernel_rfl) (by kernel_rfl) (by kernel_rfl) (fun _ _ _ h => h) (Or.inl ⟨by rfl, ?hyh25111_8⟩) (by assumption) ?resth25111_8
    case hyh25111_8 => (intro w hSw; (try dsimp only at hSw); (try simp only [List.getElem_toArray, List.getElem_cons_zero, List.getElem_cons_succ]); go_simp; (try with_reducible rfl))
    (try simp only [Act.put, List.setIfInBounds_toArray, List.set_cons_zero, List.set_cons_succ, List.getElem_toArray, List.getElem_cons_zero, List.getElem_cons_succ])
    refine wpAnyH_take (i := 4) (oi := _) (v := ?vh2514_9) rfl (by kernel_rfl) (by kernel_rfl) (by kernel_rfl) (fun _ _ _ h => h) (Or.inl ⟨by rfl, ?hyh2514_9⟩) (by assumption) ?resth2514_9
    case hyh2514_9 => (intro w hSw; (try dsimp only at hSw); (try simp only [List.getElem_toArray, List.getElem_cons_zero, List.getElem_cons_succ]); go_simp; (try with_reducible rfl))
    (try simp only [Act.put, List.setIfInBounds_toArray, List.set_cons_zero, List.set_cons_succ, List.getElem_toArray, List.getElem_cons_zero, List.getElem_cons_succ])
    refine wpAnyH_take (i := 9) (oi := _) (v := ?vh2519_10) rfl (by kernel_rfl) (by kernel_rfl) (by kernel_rfl) (fun _ _ _ h => h) (Or.inl ⟨by rfl, ?hyh2519_10⟩) (by assumption) ?resth2519_10
    case hyh2519_10 => (intro w hSw; (try dsimp only at hSw); (try simp only [List.getElem_toArray, List.getElem_cons_zero, List.getElem_cons_succ]); go_simp; (try with_reducible rfl))
    (try simp only [Act.put, List.setIfInBounds_toArray, List.set_cons_zero, List.set_cons_succ, List.getElem_toArray, List.getElem_cons_zero, List.getElem_cons_succ])
    refine wpAnyH_take (i := 5) (oi := _) (v := ?vh2515_11) rfl (by kernel_rfl) (by kernel_rfl) (by kernel_rfl) (fun _ _ _ h => h) (Or.inl ⟨by rfl, ?hyh2515_11⟩) (by assumption) ?resth2515_11
    case hyh2515_11 => (intro w hSw; (try dsimp only at hSw); (try simp only [List.getElem_toArray, List.getElem_cons_zero, List.getElem_cons_succ]); go_simp; (try with_reducible rfl))
    (try simp only [Act.put, List.setIfInBounds_toArray, List.set_cons_zero, List.set_cons_succ, List.getElem_toArray, List.getElem_cons_zero, List.getElem_cons_succ])
    refine wpAnyH_take (i := 6) (oi := _) (v := ?vh2516_12) rfl (by kernel_rfl) (by kernel_rfl) (by kernel_rfl) (fun _ _ _ h => h) (Or.inl ⟨by rfl, ?hyh2516_12⟩) (by assumption) ?resth2516_12
    case hyh2516_12 => (intro w hSw; (try dsimp only at hSw); (try simp only [List.getElem_toArray, List.getElem_cons_zero, List.getElem_cons_succ]); go_simp; (try with_reducible rfl))
    (try simp only [Act.put, List.setIfInBounds_toArray, List.set_cons_zero, List.set_cons_succ, List.getElem_toArray, List.getElem_cons_zero, List.getElem_cons_succ])
    refine wpAnyH_ready (rs := [12, 18]) (by kernel_rfl) (by simp) ?_
    refine AllReadyH.cons (o := _) rfl (fun K hK => ?_) (AllReadyH.cons (o := _) rfl (fun K hK => ?_) AllReadyH.nil)
    · (try simp only [List.getElem_toArray, List.getElem_cons_zero, List.getElem_cons_succ])
      go_simp
      refine hK.out _ _ ?_ (fun hHeld => ?_)
      · exact HD.out _ (by repeat (first | (with_reducible exact Below.refl _ _) | (with_reducible exact HB5.out) | (refine Below.drew ?_) | (refine Below.setCell ?_ (by first | (simp; done) | (have := HB5.out.size; simp; omega) | (have := HB5.out.size; omega)) _) | (refine Below.alloc ?_ (by first | (simp; done) | (have := HB5.out.size; simp; omega) | (have := HB5.out.size; omega)) _)))
      clear hK K
      (try simp only [Act.put, List.setIfInBounds_toArray, List.set_cons_zero, List.set_cons_succ, List.getElem_toArray, List.getElem_cons_zero, List.getElem_cons_succ])
      refine wpAnyH_ready (rs := [13, 18]) (by kernel_rfl) (by simp) ?_
      refine AllReadyH.cons (o := _) rfl (fun K hK => ?_) (AllReadyH.cons (o := _) rfl (fun K hK => ?_) AllReadyH.nil)
      · (try simp only [List.getElem_toArray, List.getElem_cons_zero, List.getElem_cons_succ])
        go_simp
        go_at_call 39
        refine (HG.out _ _ (by first | exact ints_row (w := Wt.drew) rfl [0, 1, 3] 3 rfl 3 (by decide) (by simp) (Below.refl _ _) | exact ints_row (w := Wt) rfl [0, 1, 3] 3 rfl 3 (by decide) (by simp) (Below.refl _ _) | exact ints_row (w := Wt.drew) rfl [0, 1, 3] 3 rfl 3 (by decide) (by simp) ((Below.refl _ _).alloc (by simp) _) | exact ints_row (w := Wt) rfl [0, 1, 3] 3 rfl 3 (by decide) (by simp) (Below.refl _ _).drew | exact ints_row (w := Wt) rfl [0, 1, 3] 3 rfl 3 (by decide) (by simp) ((Below.refl _ _).drew.alloc (by simp) _) | exact ints_row (w := Wt) rfl [0, 1, 3] 3 rfl 3 (by decide) (by simp) (((Below.refl _ _).alloc (by simp) _).drew) | exact ints_row (w := Wt.drew.alloc (.cells #[.int .i64 0, .bool false] 39)) (by simp) [0, 1, 3] 3 rfl 3 (by decide) (by simp) (Below.refl _ _) | exact ints_row (w := Wt.alloc (.cells #[.int .i64 0, .bool false] 39)) (by simp) [0, 1, 3] 3 rfl 3 (by decide) (by simp) (Below.refl _ _).drew)).mono ?_
        rintro e w4 ⟨rfl, rfl⟩
        refine hK.out _ _ ?_ (fun hHeld => ?_)
        · exact HD.out _ (by repeat (first | (with_reducible exact Below.refl _ _) | (with_reducible exact HB5.out) | (refine Below.drew ?_) | (refine Below.setCell ?_ (by first | (simp; done) | (have := HB5.out.size; simp; omega) | (have := HB5.out.size; omega)) _) | (refine Below.alloc ?_ (by first | (simp; done) | (have := HB5.out.size; simp; omega) | (have := HB5.out.size; omega)) _)))
        clear hK K
        (try simp only [Act.put, List.setIfInBounds_toArray, List.set_cons_zero, List.set_cons_succ, List.getElem_toArray, List.getElem_cons_zero, List.getElem_cons_succ])
        refine wpAnyH_ready (rs := [14, 18]) (by kernel_rfl) (by simp) ?_
        refine AllReadyH.cons (o := _) rfl (fun K hK => ?_) (AllReadyH.cons (o := _) rfl (fun K hK => ?_) AllReadyH.nil)
        · (try simp only [List.getElem_toArray, List.getElem_cons_zero, List.getElem_cons_succ])
          go_simp
          go_at_call 38
          refine (HA'.out _).mono ?_
          rintro e w5 ⟨rfl, hb⟩
          have HB5 : Hid (Below Wt.heap.size Wt w5) := Lib.hid (Below.trans (by repeat (first | (with_reducible exact Below.refl _ _) | (with_reducible exact HB0.out) | (refine Below.drew ?_) | (refine Below.setCell ?_ (by first | (simp; done) | (have := HB0.out.size; simp; omega) | (have := HB0.out.size; omega)) _) | (refine Below.alloc ?_ (by first | (simp; done) | (have := HB0.out.size; simp; omega) | (have := HB0.out.size; omega)) _))) (hb.mono (by simp <;> omega)))
          (try have B0 : Cell w5 Wt.heap.size 0 (.int .i64 0) ∧ Cell w5 Wt.heap.size 1 (.bool false) := ⟨Cell.below (by exact Cell.alloc (w := Wt.drew.alloc (.cells #[.int .i64 0, .bool false] 39)) (Cell.box (w := Wt.drew) (cs := #[.int .i64 0, .bool false]) (t := 39) 0 rfl) _) hb, Cell.below (by exact Cell.alloc (w := Wt.drew.alloc (.cells #[.int .i64 0, .bool false] 39)) (Cell.box (w := Wt.drew) (cs := #[.int .i64 0, .bool false]) (t := 39) 1 rfl) _) hb⟩)
          (try have B1 : Cell w5 (Wt.heap.size + 1) 0 (.int .i64 0) ∧ Cell w5 (Wt.heap.size + 1) 1 (.bool false) := ⟨Cell.below (by have q := Cell.box (w := Wt.drew.alloc (.cells #[.int .i64 0, .int .i64 1, .int .i64 3] 3)) (cs := #[.int .i64 0, .bool false]) (t := 39) 0 rfl; simp only [World.size_alloc, World.size_drew] at q; exact q) hb, Cell.below (by have q := Cell.box (w := Wt.drew.alloc (.cells #[.int .i64 0, .int .i64 1, .int .i64 3] 3)) (cs := #[.int .i64 0, .bool false]) (t := 39) 1 rfl; simp only [World.size_alloc, World.size_drew] at q; exact q) hb⟩)
          (try (have b0 := B0.1.1; have b1 := B0.2.1; have b2 := B0.1.2; have b3 := B0.2.2))
          (try (have b0 := B1.1.1; have b1 := B1.2.1; have b2 := B1.1.2; have b3 := B1.2.2))
          refine hK.out _ _ ?_ (fun hHeld => ?_)
          · exact HD.out _ (by repeat (first | (with_reducible exact Below.refl _ _) | (with_reducible exact HB5.out) | (refine Below.drew ?_) | (refine Below.setCell ?_ (by first | (simp; done) | (have := HB5.out.size; simp; omega) | (have := HB5.out.size; omega)) _) | (refine Below.alloc ?_ (by first | (simp; done) | (have := HB5.out.size; simp; omega) | (have := HB5.out.size; omega)) _)))
          clear hK K
          (try simp only [Act.put, List.setIfInBounds_toArray, List.set_cons_zero, List.set_cons_succ, List.getElem_toArray, List.getElem_cons_zero, List.getElem_cons_succ])
          refine wpAnyH_take (i := 15) (oi := _) (v := ?vh25115_13) rfl (by kernel_rfl) (by kernel_rfl) (by kernel_rfl) (fun _ _ _ h => h) (Or.inl ⟨by rfl, ?hyh25115_13⟩) (by assumption) ?resth25115_13
          case hyh25115_13 => (intro w hSw; (try dsimp only at hSw); (try simp only [List.getElem_toArray, List.getElem_cons_zero, List.getElem_cons_succ]); go_simp; (try with_reducible rfl))
          (try simp only [Act.put, List.setIfInBounds_toArray, List.set_cons_zero, List.set_cons_succ, List.getElem_toArray, List.getElem_cons_zero, List.getElem_cons_succ])
          refine wpAnyH_take (i := 16) (oi := _) (v := ?vh25116_14) rfl (by kernel_rfl) (by kernel_rfl) (by kernel_rfl) (fun _ _ _ h => h) (Or.inl ⟨by rfl, ?hyh25116_14⟩) (by assumption) ?resth25116_14
          case hyh25116_14 => (intro w hSw; (try dsimp only at hSw); (try simp only [List.getElem_toArray, List.getElem_cons_zero, List.getElem_cons_succ]); go_simp; (try with_reducible rfl))
          (try simp only [Act.put, List.setIfInBounds_toArray, List.set_cons_zero, List.set_cons_succ, List.getElem_toArray, List.getElem_cons_zero, List.getElem_cons_succ])
          refine wpAnyH_take (i := 17) (oi := _) (v := ?vh25117_15) rfl (by kernel_rfl) (by kernel_rfl) (by kernel_rfl) (fun _ _ _ h => h) (Or.inl ⟨by rfl, ?hyh25117_15⟩) (by assumption) ?resth25117_15
          case hyh25117_15 => (intro w hSw; (try dsimp only at hSw); (try simp only [List.getElem_toArray, List.getElem_cons_zero, List.getElem_cons_succ]); go_simp; (try with_reducible rfl))
          (try simp only [Act.put, List.setIfInBounds_toArray, List.set_cons_zero, List.set_cons_succ, List.getElem_toArray, List.getElem_cons_zero, List.getElem_cons_succ])
          refine wpAnyH_ready (rs := [18]) (by kernel_rfl) (by simp) ?_
          refine AllReadyH.cons (o := _) rfl (fun K hK => ?_) AllReadyH.nil
          · (try simp only [List.getElem_toArray, List.getElem_cons_zero, List.getElem_cons_succ])
            go_simp
            refine hK.out _ _ ?_ (fun hHeld => ?_)
            · exact HD.out _ (by repeat (first | (with_reducible exact Below.refl _ _) | (with_reducible exact HB5.out) | (refine Below.drew ?_) | (refine Below.setCell ?_ (by first | (simp; done) | (have := HB5.out.size; simp; omega) | (have := HB5.out.size; omega)) _) | (refine Below.alloc ?_ (by first | (simp; done) | (have := HB5.out.size; simp; omega) | (have := HB5.out.size; omega)) _)))
            clear hK K
            (try simp only [Act.put, List.setIfInBounds_toArray, List.set_cons_zero, List.set_cons_succ, List.getElem_toArray, List.getElem_cons_zero, List.getElem_cons_succ])
            refine wpAnyH_ready (rs := [19]) (by kernel_rfl) (by simp) ?_
            refine AllReadyH.cons (o := _) rfl (fun K hK => ?_) AllReadyH.nil
            · (try simp only [List.getElem_toArray, List.getElem_cons_zero, List.getElem_cons_succ])
              go_simp
              refine hK.out _ _ ?_ (fun hHeld => ?_)
              · exact HD.out _ (by repeat (first | (with_reducible exact Below.refl _ _) | (with_reducible exact HB5.out) | (refine Below.drew ?_) | (refine Below.setCell ?_ (by first | (simp; done) | (have := HB5.out.size; simp; omega) | (have := HB5.out.size; omega)) _) | (refine Below.alloc ?_ (by first | (simp; done) | (have := HB5.out.size; simp; omega) | (have := HB5.out.size; omega)) _)))
              clear hK K
              (try simp only [Act.put, List.setIfInBounds_toArray, List.set_cons_zero, List.set_cons_succ, List.getElem_toArray, List.getElem_cons_zero, List.getElem_cons_succ])
              refine wpAnyH_take (i := 20) (oi := _) (v := ?vh25120_16) rfl (by kernel_rfl) (by kernel_rfl) (by kernel_rfl) (fun _ _ _ h => h) (Or.inl ⟨by rfl, ?hyh25120_16⟩) (by assumption) ?resth25120_16
              case hyh25120_16 => (intro w hSw; (try dsimp only at hSw); (try simp only [List.getElem_toArray, List.getElem_cons_zero, List.getElem_cons_succ]); go_simp; (try with_reducible rfl))
              (try simp only [Act.put, List.setIfInBounds_toArray, List.set_cons_zero, List.set_cons_succ, List.getElem_toArray, List.getElem_cons_zero, List.getElem_cons_succ])
              refine wpAnyH_done (by kernel_rfl) ?_ _
              refine NoPanic.normal ?_
              go_wp2_with fail
              go_meet
              exact ⟨_, rfl, rfl, Lib.hid (by first | omega | exact Nat.le_refl _ | exact Nat.le_succ _ | exact HB5.out.size), Lib.hid (by first | exact ⟨(B0.1.set _).far (by omega) _, (B0.2.far (by omega) _).set _⟩ | exact ⟨(B1.1.set _).far (by omega) _, (B1.2.far (by omega) _).set _⟩ | exact ⟨Cell.box 0 rfl, Cell.box 1 rfl⟩), Lib.hid (by repeat (first | (with_reducible exact Below.refl _ _) | (with_reducible exact HB5.out) | (refine Below.drew ?_) | (refine Below.setCell ?_ (by first | (simp; done) | (have := HB5.out.size; simp; omega) | (have := HB5.out.size; omega)) _) | (refine Below.alloc ?_ (by first | (simp; done) | (have := HB5.out.size; simp; omega) | (have := HB5.out.size; omega)) _)))⟩
        · (try simp only [List.getElem_toArray, List.getElem_cons_zero, List.getElem_cons_succ])
          go_simp
          refine hK.out _ _ ?_ (fun hHeld => ?_)
          · exact HD.out _ (by repeat (first | (with_reducible exact Below.refl _ _) | (with_reducible exact HB5.out) | (refine Below.drew ?_) | (refine Below.setCell ?_ (by first | (simp; done) | (have := HB5.out.size; simp; omega) | (have := HB5.out.size; omega)) _) | (refine Below.alloc ?_ (by first | (simp; done) | (have := HB5.out.size; simp; omega) | (have := HB5.out.size; omega)) _)))
          clear hK K
          (try simp only [Act.put, List.setIfInBounds_toArray, List.set_cons_zero, List.set_cons_succ, List.getElem_toArray, List.getElem_cons_zero, List.getElem_cons_succ])
          refine wpAnyH_ready (rs := [14]) (by kernel_rfl) (by simp) ?_
          refine AllReadyH.cons (o := _) rfl (fun K hK => ?_) AllReadyH.nil
          · (try simp only [List.getElem_toArray, List.getElem_cons_zero, List.getElem_cons_succ])
            go_simp
            go_at_call 38
            refine (HA'.out _).mono ?_
            rintro e w5 ⟨rfl, hb⟩
            have HB5 : Hid (Below Wt.heap.size Wt w5) := Lib.hid (Below.trans (by repeat (first | (with_reducible exact Below.refl _ _) | (with_reducible exact HB0.out) | (refine Below.drew ?_) | (refine Below.setCell ?_ (by first | (simp; done) | (have := HB0.out.size; simp; omega) | (have := HB0.out.size; omega)) _) | (refine Below.alloc ?_ (by first | (simp; done) | (have := HB0.out.size; simp; omega) | (have := HB0.out.size; omega)) _))) (hb.mono (by simp <;> omega)))
            (try have B0 : Cell w5 Wt.heap.size 0 (.int .i64 0) ∧ Cell w5 Wt.heap.size 1 (.bool false) := ⟨Cell.below (by exact Cell.alloc (w := Wt.drew.alloc (.cells #[.int .i64 0, .bool false] 39)) (Cell.box (w := Wt.drew) (cs := #[.int .i64 0, .bool false]) (t := 39) 0 rfl) _) hb, Cell.below (by exact Cell.alloc (w := Wt.drew.alloc (.cells #[.int .i64 0, .bool false] 39)) (Cell.box (w := Wt.drew) (cs := #[.int .i64 0, .bool false]) (t := 39) 1 rfl) _) hb⟩)
            (try have B1 : Cell w5 (Wt.heap.size + 1) 0 (.int .i64 0) ∧ Cell w5 (Wt.heap.size + 1) 1 (.bool false) := ⟨Cell.below (by have q := Cell.box (w := Wt.drew.alloc (.cells #[.int .i64 0, .int .i64 1, .int .i64 3] 3)) (cs := #[.int .i64 0, .bool false]) (t := 39) 0 rfl; simp only [World.size_alloc, World.size_drew] at q; exact q) hb, Cell.below (by have q := Cell.box (w := Wt.drew.alloc (.cells #[.int .i64 0, .int .i64 1, .int .i64 3] 3)) (cs := #[.int .i64 0, .bool false]) (t := 39) 1 rfl; simp only [World.size_alloc, World.size_drew] at q; exact q) hb⟩)
            (try (have b0 := B0.1.1; have b1 := B0.2.1; have b2 := B0.1.2; have b3 := B0.2.2))
            (try (have b0 := B1.1.1; have b1 := B1.2.1; have b2 := B1.1.2; have b3 := B1.2.2))
            refine hK.out _ _ ?_ (fun hHeld => ?_)
            · exact HD.out _ (by repeat (first | (with_reducible exact Below.refl _ _) | (with_reducible exact HB5.out) | (refine Below.drew ?_) | (refine Below.setCell ?_ (by first | (simp; done) | (have := HB5.out.size; simp; omega) | (have := HB5.out.size; omega)) _) | (refine Below.alloc ?_ (by first | (simp; done) | (have := HB5.out.size; simp; omega) | (have := HB5.out.size; omega)) _)))
            clear hK K
            (try simp only [Act.put, List.setIfInBounds_toArray, List.set_cons_zero, List.set_cons_succ, List.getElem_toArray, List.getElem_cons_zero, List.getElem_cons_succ])
            refine wpAnyH_take (i := 15) (oi := _) (v := ?vh25115_17) rfl (by kernel_rfl) (by kernel_rfl) (by kernel_rfl) (fun _ _ _ h => h) (Or.inl ⟨by rfl, ?hyh25115_17⟩) (by assumption) ?resth25115_17
            case hyh25115_17 => (intro w hSw; (try dsimp only at hSw); (try simp only [List.getElem_toArray, List.getElem_cons_zero, List.getElem_cons_succ]); go_simp; (try with_reducible rfl))
            (try simp only [Act.put, List.setIfInBounds_toArray, List.set_cons_zero, List.set_cons_succ, List.getElem_toArray, List.getElem_cons_zero, List.getElem_cons_succ])
            refine wpAnyH_take (i := 16) (oi := _) (v := ?vh25116_18) rfl (by kernel_rfl) (by kernel_rfl) (by kernel_rfl) (fun _ _ _ h => h) (Or.inl ⟨by rfl, ?hyh25116_18⟩) (by assumption) ?resth25116_18
            case hyh25116_18 => (intro w hSw; (try dsimp only at hSw); (try simp only [List.getElem_toArray, List.getElem_cons_zero, List.getElem_cons_succ]); go_simp; (try with_reducible rfl))
            (try simp only [Act.put, List.setIfInBounds_toArray, List.set_cons_zero, List.set_cons_succ, List.getElem_toArray, List.getElem_cons_zero, List.getElem_cons_succ])
            refine wpAnyH_take (i := 17) (oi := _) (v := ?vh25117_19) rfl (by kernel_rfl) (by kernel_rfl) (by kernel_rfl) (fun _ _ _ h => h) (Or.inl ⟨by rfl, ?hyh25117_19⟩) (by assumption) ?resth25117_19
            case hyh25117_19 => (intro w hSw; (try dsimp only at hSw); (try simp only [List.getElem_toArray, List.getElem_cons_zero, List.getElem_cons_succ]); go_simp; (try with_reducible rfl))
            (try simp only [Act.put, List.setIfInBounds_toArray, List.set_cons_zero, List.set_cons_succ, List.getElem_toArray, List.getElem_cons_zero, List.getElem_cons_succ])
            refine wpAnyH_ready (rs := [19]) (by kernel_rfl) (by simp) ?_
            refine AllReadyH.cons (o := _) rfl (fun K hK => ?_) AllReadyH.nil
            · (try simp only [List.getElem_toArray, List.getElem_cons_zero, List.getElem_cons_succ])
              go_simp
              refine hK.out _ _ ?_ (fun hHeld => ?_)
              · exact HD.out _ (by repeat (first | (with_reducible exact Below.refl _ _) | (with_reducible exact HB5.out) | (refine Below.drew ?_) | (refine Below.setCell ?_ (by first | (simp; done) | (have := HB5.out.size; simp; omega) | (have := HB5.out.size; omega)) _) | (refine Below.alloc ?_ (by first | (simp; done) | (have := HB5.out.size; simp; omega) | (have := HB5.out.size; omega)) _)))
              clear hK K
              (try simp only [Act.put, List.setIfInBounds_toArray, List.set_cons_zero, List.set_cons_succ, List.getElem_toArray, List.getElem_cons_zero, List.getElem_cons_succ])
              refine wpAnyH_take (i := 20) (oi := _) (v := ?vh25120_20) rfl (by kernel_rfl) (by kernel_rfl) (by kernel_rfl) (fun _ _ _ h => h) (Or.inl ⟨by rfl, ?hyh25120_20⟩) (by assumption) ?resth25120_20
              case hyh25120_20 => (intro w hSw; (try dsimp only at hSw); (try simp only [List.getElem_toArray, List.getElem_cons_zero, List.getElem_cons_succ]); go_simp; (try with_reducible rfl))
              (try simp only [Act.put, List.setIfInBounds_toArray, List.set_cons_zero, List.set_cons_succ, List.getElem_toArray, List.getElem_cons_zero, List.getElem_cons_succ])
              refine wpAnyH_done (by kernel_rfl) ?_ _
              refine NoPanic.normal ?_
              go_wp2_with fail
              go_meet
              exact ⟨_, rfl, rfl, Lib.hid (by first | omega | exact Nat.le_refl _ | exact Nat.le_succ _ | exact HB5.out.size), Lib.hid (by first | exact ⟨(B0.1.set _).far (by omega) _, (B0.2.far (by omega) _).set _⟩ | exact ⟨(B1.1.set _).far (by omega) _, (B1.2.far (by omega) _).set _⟩ | exact ⟨Cell.box 0 rfl, Cell.box 1 rfl⟩), Lib.hid (by repeat (first | (with_reducible exact Below.refl _ _) | (with_reducible exact HB5.out) | (refine Below.drew ?_) | (refine Below.setCell ?_ (by first | (simp; done) | (have := HB5.out.size; simp; omega) | (have := HB5.out.size; omega)) _) | (refine Below.alloc ?_ (by first | (simp; done) | (have := HB5.out.size; simp; omega) | (have := HB5.out.size; omega)) _)))⟩
      · (try simp only [List.getElem_toArray, List.getElem_cons_zero, List.getElem_cons_succ])
        go_simp
        refine hK.out _ _ ?_ (fun hHeld => ?_)
        · exact HD.out _ (by repeat (first | (with_reducible exact Below.refl _ _) | (with_reducible exact HB5.out) | (refine Below.drew ?_) | (refine Below.setCell ?_ (by first | (simp; done) | (have := HB5.out.size; simp; omega) | (have := HB5.out.size; omega)) _) | (refine Below.alloc ?_ (by first | (simp; done) | (have := HB5.out.size; simp; omega) | (have := HB5.out.size; omega)) _)))
        clear hK K
        (try simp only [Act.put, List.setIfInBounds_toArray, List.set_cons_zero, List.set_cons_succ, List.getElem_toArray, List.getElem_cons_zero, List.getElem_cons_succ])
        refine wpAnyH_ready (rs := [13]) (by kernel_rfl) (by simp) ?_
        refine AllReadyH.cons (o := _) rfl (fun K hK => ?_) AllReadyH.nil
        · (try simp only [List.getElem_toArray, List.getElem_cons_zero, List.getElem_cons_succ])
          go_simp
          go_at_call 39
          refine (HG.out _ _ (by first | exact ints_row (w := Wt.drew) rfl [0, 1, 3] 3 rfl 3 (by decide) (by simp) (Below.refl _ _) | exact ints_row (w := Wt) rfl [0, 1, 3] 3 rfl 3 (by decide) (by simp) (Below.refl _ _) | exact ints_row (w := Wt.drew) rfl [0, 1, 3] 3 rfl 3 (by decide) (by simp) ((Below.refl _ _).alloc (by simp) _) | exact ints_row (w := Wt) rfl [0, 1, 3] 3 rfl 3 (by decide) (by simp) (Below.refl _ _).drew | exact ints_row (w := Wt) rfl [0, 1, 3] 3 rfl 3 (by decide) (by simp) ((Below.refl _ _).drew.alloc (by simp) _) | exact ints_row (w := Wt) rfl [0, 1, 3] 3 rfl 3 (by decide) (by simp) (((Below.refl _ _).alloc (by simp) _).drew) | exact ints_row (w := Wt.drew.alloc (.cells #[.int .i64 0, .bool false] 39)) (by simp) [0, 1, 3] 3 rfl 3 (by decide) (by simp) (Below.refl _ _) | exact ints_row (w := Wt.alloc (.cells #[.int .i64 0, .bool false] 39)) (by simp) [0, 1, 3] 3 rfl 3 (by decide) (by simp) (Below.refl _ _).drew)).mono ?_
          rintro e w4 ⟨rfl, rfl⟩
          refine hK.out _ _ ?_ (fun hHeld => ?_)
          · exact HD.out _ (by repeat (first | (with_reducible exact Below.refl _ _) | (with_reducible exact HB5.out) | (refine Below.drew ?_) | (refine Below.setCell ?_ (by first | (simp; done) | (have := HB5.out.size; simp; omega) | (have := HB5.out.size; omega)) _) | (refine Below.alloc ?_ (by first | (simp; done) | (have := HB5.out.size; simp; omega) | (have := HB5.out.size; omega)) _)))
          clear hK K
          (try simp only [Act.put, List.setIfInBounds_toArray, List.set_cons_zero, List.set_cons_succ, List.getElem_toArray, List.getElem_cons_zero, List.getElem_cons_succ])
          refine wpAnyH_ready (rs := [14]) (by kernel_rfl) (by simp) ?_
          refine AllReadyH.cons (o := _) rfl (fun K hK => ?_) AllReadyH.nil
          · (try simp only [List.getElem_toArray, List.getElem_cons_zero, List.getElem_cons_succ])
            go_simp
            go_at_call 38
            refine (HA'.out _).mono ?_
            rintro e w5 ⟨rfl, hb⟩
            have HB5 : Hid (Below Wt.heap.size Wt w5) := Lib.hid (Below.trans (by repeat (first | (with_reducible exact Below.refl _ _) | (with_reducible exact HB0.out) | (refine Below.drew ?_) | (refine Below.setCell ?_ (by first | (simp; done) | (have := HB0.out.size; simp; omega) | (have := HB0.out.size; omega)) _) | (refine Below.alloc ?_ (by first | (simp; done) | (have := HB0.out.size; simp; omega) | (have := HB0.out.size; omega)) _))) (hb.mono (by simp <;> omega)))
            (try have B0 : Cell w5 Wt.heap.size 0 (.int .i64 0) ∧ Cell w5 Wt.heap.size 1 (.bool false) := ⟨Cell.below (by exact Cell.alloc (w := Wt.drew.alloc (.cells #[.int .i64 0, .bool false] 39)) (Cell.box (w := Wt.drew) (cs := #[.int .i64 0, .bool false]) (t := 39) 0 rfl) _) hb, Cell.below (by exact Cell.alloc (w := Wt.drew.alloc (.cells #[.int .i64 0, .bool false] 39)) (Cell.box (w := Wt.drew) (cs := #[.int .i64 0, .bool false]) (t := 39) 1 rfl) _) hb⟩)
            (try have B1 : Cell w5 (Wt.heap.size + 1) 0 (.int .i64 0) ∧ Cell w5 (Wt.heap.size + 1) 1 (.bool false) := ⟨Cell.below (by have q := Cell.box (w := Wt.drew.alloc (.cells #[.int .i64 0, .int .i64 1, .int .i64 3] 3)) (cs := #[.int .i64 0, .bool false]) (t := 39) 0 rfl; simp only [World.size_alloc, World.size_drew] at q; exact q) hb, Cell.below (by have q := Cell.box (w := Wt.drew.alloc (.cells #[.int .i64 0, .int .i64 1, .int .i64 3] 3)) (cs := #[.int .i64 0, .bool false]) (t := 39) 1 rfl; simp only [World.size_alloc, World.size_drew] at q; exact q) hb⟩)
            (try (have b0 := B0.1.1; have b1 := B0.2.1; have b2 := B0.1.2; have b3 := B0.2.2))
            (try (have b0 := B1.1.1; have b1 := B1.2.1; have b2 := B1.1.2; have b3 := B1.2.2))
            refine hK.out _ _ ?_ (fun hHeld => ?_)
            · exact HD.out _ (by repeat (first | (with_reducible exact Below.refl _ _) | (with_reducible exact HB5.out) | (refine Below.drew ?_) | (refine Below.setCell ?_ (by first | (simp; done) | (have := HB5.out.size; simp; omega) | (have := HB5.out.size; omega)) _) | (refine Below.alloc ?_ (by first | (simp; done) | (have := HB5.out.size; simp; omega) | (have := HB5.out.size; omega)) _)))
            clear hK K
            (try simp only [Act.put, List.setIfInBounds_toArray, List.set_cons_zero, List.set_cons_succ, List.getElem_toArray, List.getElem_cons_zero, List.getElem_cons_succ])
            refine wpAnyH_take (i := 15) (oi := _) (v := ?vh25115_21) rfl (by kernel_rfl) (by kernel_rfl) (by kernel_rfl) (fun _ _ _ h => h) (Or.inl ⟨by rfl, ?hyh25115_21⟩) (by assumption) ?resth25115_21
            case hyh25115_21 => (intro w hSw; (try dsimp only at hSw); (try simp only [List.getElem_toArray, List.getElem_cons_zero, List.getElem_cons_succ]); go_simp; (try with_reducible rfl))
            (try simp only [Act.put, List.setIfInBounds_toArray, List.set_cons_zero, List.set_cons_succ, List.getElem_toArray, List.getElem_cons_zero, List.getElem_cons_succ])
            refine wpAnyH_take (i := 16) (oi := _) (v := ?vh25116_22) rfl (by kernel_rfl) (by kernel_rfl) (by kernel_rfl) (fun _ _ _ h => h) (Or.inl ⟨by rfl, ?hyh25116_22⟩) (by assumption) ?resth25116_22
            case hyh25116_22 => (intro w hSw; (try dsimp only at hSw); (try simp only [List.getElem_toArray, List.getElem_cons_zero, List.getElem_cons_succ]); go_simp; (try with_reducible rfl))
            (try simp only [Act.put, List.setIfInBounds_toArray, List.set_cons_zero, List.set_cons_succ, List.getElem_toArray, List.getElem_cons_zero, List.getElem_cons_succ])
            refine wpAnyH_take (i := 17) (oi := _) (v := ?vh25117_23) rfl (by kernel_rfl) (by kernel_rfl) (by kernel_rfl) (fun _ _ _ h => h) (Or.inl ⟨by rfl, ?hyh25117_23⟩) (by assumption) ?resth25117_23
            case hyh25117_23 => (intro w hSw; (try dsimp only at hSw); (try simp only [List.getElem_toArray, List.getElem_cons_zero, List.getElem_cons_succ]); go_simp; (try with_reducible rfl))
            (try simp only [Act.put, List.setIfInBounds_toArray, List.set_cons_zero, List.set_cons_succ, List.getElem_toArray, List.getElem_cons_zero, List.getElem_cons_succ])
            refine wpAnyH_ready (rs := [19]) (by kernel_rfl) (by simp) ?_
            refine AllReadyH.cons (o := _) rfl (fun K hK => ?_) AllReadyH.nil
            · (try simp only [List.getElem_toArray, List.getElem_cons_zero, List.getElem_cons_succ])
              go_simp
              refine hK.out _ _ ?_ (fun hHeld => ?_)
              · exact HD.out _ (by repeat (first | (with_reducible exact Below.refl _ _) | (with_reducible exact HB5.out) | (refine Below.drew ?_) | (refine Below.setCell ?_ (by first | (simp; done) | (have := HB5.out.size; simp; omega) | (have := HB5.out.size; omega)) _) | (refine Below.alloc ?_ (by first | (simp; done) | (have := HB5.out.size; simp; omega) | (have := HB5.out.size; omega)) _)))
              clear hK K
              (try simp only [Act.put, List.setIfInBounds_toArray, List.set_cons_zero, List.set_cons_succ, List.getElem_toArray, List.getElem_cons_zero, List.getElem_cons_succ])
              refine wpAnyH_take (i := 20) (oi := _) (v := ?vh25120_24) rfl (by kernel_rfl) (by kernel_rfl) (by kernel_rfl) (fun _ _ _ h => h) (Or.inl ⟨by rfl, ?hyh25120_24⟩) (by assumption) ?resth25120_24
              case hyh25120_24 => (intro w hSw; (try dsimp only at hSw); (try simp only [List.getElem_toArray, List.getElem_cons_zero, List.getElem_cons_succ]); go_simp; (try with_reducible rfl))
              (try simp only [Act.put, List.setIfInBounds_toArray, List.set_cons_zero, List.set_cons_succ, List.getElem_toArray, List.getElem_cons_zero, List.getElem_cons_succ])
              refine wpAnyH_done (by kernel_rfl) ?_ _
              refine NoPanic.normal ?_
              go_wp2_with fail
              go_meet
              exact ⟨_, rfl, rfl, Lib.hid (by first | omega | exact Nat.le_refl _ | exact Nat.le_succ _ | exact HB5.out.size), Lib.hid (by first | exact ⟨(B0.1.set _).far (by omega) _, (B0.2.far (by omega) _).set _⟩ | exact ⟨(B1.1.set _).far (by omega) _, (B1.2.far (by omega) _).set _⟩ | exact ⟨Cell.box 0 rfl, Cell.box 1 rfl⟩), Lib.hid (by repeat (first | (with_reducible exact Below.refl _ _) | (with_reducible exact HB5.out) | (refine Below.drew ?_) | (refine Below.setCell ?_ (by first | (simp; done) | (have := HB5.out.size; simp; omega) | (have := HB5.out.size; omega)) _) | (refine Below.alloc ?_ (by first | (simp; done) | (have := HB5.out.size; simp; omega) | (have := HB5.out.size; omega)) _)))⟩
    · (try simp only [List.getElem_toArray, List.getElem_cons_zero, List.getElem_cons_succ])
      go_simp
      refine hK.out _ _ ?_ (fun hHeld => ?_)
      · exact HD.out _ (by repeat (first | (with_reducible exact Below.refl _ _) | (with_reducible exact HB5.out) | (refine Below.drew ?_) | (refine Below.setCell ?_ (by first | (simp; done) | (have := HB5.out.size; simp; omega) | (have := HB5.out.size; omega)) _) | (refine Below.alloc ?_ (by first | (simp; done) | (have := HB5.out.size; simp; omega) | (have := HB5.out.size; omega)) _)))
      clear hK K
      (try simp only [Act.put, List.setIfInBounds_toArray, List.set_cons_zero, List.set_cons_succ, List.getElem_toArray, List.getElem_cons_zero, List.getElem_cons_succ])
      refine wpAnyH_ready (rs := [12]) (by kernel_rfl) (by simp) ?_
      refine AllReadyH.cons (o := _) rfl (fun K hK => ?_) AllReadyH.nil
      · (try simp only [List.getElem_toArray, List.getElem_cons_zero, List.getElem_cons_succ])
        go_simp
        refine hK.out _ _ ?_ (fun hHeld => ?_)
        · exact HD.out _ (by repeat (first | (with_reducible exact Below.refl _ _) | (with_reducible exact HB5.out) | (refine Below.drew ?_) | (refine Below.setCell ?_ (by first | (simp; done) | (have := HB5.out.size; simp; omega) | (have := HB5.out.size; omega)) _) | (refine Below.alloc ?_ (by first | (simp; done) | (have := HB5.out.size; simp; omega) | (have := HB5.out.size; omega)) _)))
        clear hK K
        (try simp only [Act.put, List.setIfInBounds_toArray, List.set_cons_zero, List.set_cons_succ, List.getElem_toArray, List.getElem_cons_zero, List.getElem_cons_succ])
        refine wpAnyH_ready (rs := [13]) (by kernel_rfl) (by simp) ?_
        refine AllReadyH.cons (o := _) rfl (fun K hK => ?_) AllReadyH.nil
        · (try simp only [List.getElem_toArray, List.getElem_cons_zero, List.getElem_cons_succ])
          go_simp
          go_at_call 39
          refine (HG.out _ _ (by first | exact ints_row (w := Wt.drew) rfl [0, 1, 3] 3 rfl 3 (by decide) (by simp) (Below.refl _ _) | exact ints_row (w := Wt) rfl [0, 1, 3] 3 rfl 3 (by decide) (by simp) (Below.refl _ _) | exact ints_row (w := Wt.drew) rfl [0, 1, 3] 3 rfl 3 (by decide) (by simp) ((Below.refl _ _).alloc (by simp) _) | exact ints_row (w := Wt) rfl [0, 1, 3] 3 rfl 3 (by decide) (by simp) (Below.refl _ _).drew | exact ints_row (w := Wt) rfl [0, 1, 3] 3 rfl 3 (by decide) (by simp) ((Below.refl _ _).drew.alloc (by simp) _) | exact ints_row (w := Wt) rfl [0, 1, 3] 3 rfl 3 (by decide) (by simp) (((Below.refl _ _).alloc (by simp) _).drew) | exact ints_row (w := Wt.drew.alloc (.cells #[.int .i64 0, .bool false] 39)) (by simp) [0, 1, 3] 3 rfl 3 (by decide) (by simp) (Below.refl _ _) | exact ints_row (w := Wt.alloc (.cells #[.int .i64 0, .bool false] 39)) (by simp) [0, 1, 3] 3 rfl 3 (by decide) (by simp) (Below.refl _ _).drew)).mono ?_
          rintro e w4 ⟨rfl, rfl⟩
          refine hK.out _ _ ?_ (fun hHeld => ?_)
          · exact HD.out _ (by repeat (first | (with_reducible exact Below.refl _ _) | (with_reducible exact HB5.out) | (refine Below.drew ?_) | (refine Below.setCell ?_ (by first | (simp; done) | (have := HB5.out.size; simp; omega) | (have := HB5.out.size; omega)) _) | (refine Below.alloc ?_ (by first | (simp; done) | (have := HB5.out.size; simp; omega) | (have := HB5.out.size; omega)) _)))
          clear hK K
          (try simp only [Act.put, List.setIfInBounds_toArray, List.set_cons_zero, List.set_cons_succ, List.getElem_toArray, List.getElem_cons_zero, List.getElem_cons_succ])
          refine wpAnyH_ready (rs := [14]) (by kernel_rfl) (by simp) ?_
          refine AllReadyH.cons (o := _) rfl (fun K hK => ?_) AllReadyH.nil
          · (try simp only [List.getElem_toArray, List.getElem_cons_zero, List.getElem_cons_succ])
            go_simp
            go_at_call 38
            refine (HA'.out _).mono ?_
            rintro e w5 ⟨rfl, hb⟩
            have HB5 : Hid (Below Wt.heap.size Wt w5) := Lib.hid (Below.trans (by repeat (first | (with_reducible exact Below.refl _ _) | (with_reducible exact HB0.out) | (refine Below.drew ?_) | (refine Below.setCell ?_ (by first | (simp; done) | (have := HB0.out.size; simp; omega) | (have := HB0.out.size; omega)) _) | (refine Below.alloc ?_ (by first | (simp; done) | (have := HB0.out.size; simp; omega) | (have := HB0.out.size; omega)) _))) (hb.mono (by simp <;> omega)))
            (try have B0 : Cell w5 Wt.heap.size 0 (.int .i64 0) ∧ Cell w5 Wt.heap.size 1 (.bool false) := ⟨Cell.below (by exact Cell.alloc (w := Wt.drew.alloc (.cells #[.int .i64 0, .bool false] 39)) (Cell.box (w := Wt.drew) (cs := #[.int .i64 0, .bool false]) (t := 39) 0 rfl) _) hb, Cell.below (by exact Cell.alloc (w := Wt.drew.alloc (.cells #[.int .i64 0, .bool false] 39)) (Cell.box (w := Wt.drew) (cs := #[.int .i64 0, .bool false]) (t := 39) 1 rfl) _) hb⟩)
            (try have B1 : Cell w5 (Wt.heap.size + 1) 0 (.int .i64 0) ∧ Cell w5 (Wt.heap.size + 1) 1 (.bool false) := ⟨Cell.below (by have q := Cell.box (w := Wt.drew.alloc (.cells #[.int .i64 0, .int .i64 1, .int .i64 3] 3)) (cs := #[.int .i64 0, .bool false]) (t := 39) 0 rfl; simp only [World.size_alloc, World.size_drew] at q; exact q) hb, Cell.below (by have q := Cell.box (w := Wt.drew.alloc (.cells #[.int .i64 0, .int .i64 1, .int .i64 3] 3)) (cs := #[.int .i64 0, .bool false]) (t := 39) 1 rfl; simp only [World.size_alloc, World.size_drew] at q; exact q) hb⟩)
            (try (have b0 := B0.1.1; have b1 := B0.2.1; have b2 := B0.1.2; have b3 := B0.2.2))
            (try (have b0 := B1.1.1; have b1 := B1.2.1; have b2 := B1.1.2; have b3 := B1.2.2))
            refine hK.out _ _ ?_ (fun hHeld => ?_)
            · exact HD.out _ (by repeat (first | (with_reducible exact Below.refl _ _) | (with_reducible exact HB5.out) | (refine Below.drew ?_) | (refine Below.setCell ?_ (by first | (simp; done) | (have := HB5.out.size; simp; omega) | (have := HB5.out.size; omega)) _) | (refine Below.alloc ?_ (by first | (simp; done) | (have := HB5.out.size; simp; omega) | (have := HB5.out.size; omega)) _)))
            clear hK K
            (try simp only [Act.put, List.setIfInBounds_toArray, List.set_cons_zero, List.set_cons_succ, List.getElem_toArray, List.getElem_cons_zero, List.getElem_cons_succ])
            refine wpAnyH_take (i := 15) (oi := _) (v := ?vh25115_25) rfl (by kernel_rfl) (by kernel_rfl) (by kernel_rfl) (fun _ _ _ h => h) (Or.inl ⟨by rfl, ?hyh25115_25⟩) (by assumption) ?resth25115_25
            case hyh25115_25 => (intro w hSw; (try dsimp only at hSw); (try simp only [List.getElem_toArray, List.getElem_cons_zero, List.getElem_cons_succ]); go_simp; (try with_reducible rfl))
            (try simp only [Act.put, List.setIfInBounds_toArray, List.set_cons_zero, List.set_cons_succ, List.getElem_toArray, List.getElem_cons_zero, List.getElem_cons_succ])
            refine wpAnyH_take (i := 16) (oi := _) (v := ?vh25116_26) rfl (by kernel_rfl) (by kernel_rfl) (by kernel_rfl) (fun _ _ _ h => h) (Or.inl ⟨by rfl, ?hyh25116_26⟩) (by assumption) ?resth25116_26
            case hyh25116_26 => (intro w hSw; (try dsimp only at hSw); (try simp only [List.getElem_toArray, List.getElem_cons_zero, List.getElem_cons_succ]); go_simp; (try with_reducible rfl))
            (try simp only [Act.put, List.setIfInBounds_toArray, List.set_cons_zero, List.set_cons_succ, List.getElem_toArray, List.getElem_cons_zero, List.getElem_cons_succ])
            refine wpAnyH_take (i := 17) (oi := _) (v := ?vh25117_27) rfl (by kernel_rfl) (by kernel_rfl) (by kernel_rfl) (fun _ _ _ h => h) (Or.inl ⟨by rfl, ?hyh25117_27⟩) (by assumption) ?resth25117_27
            case hyh25117_27 => (intro w hSw; (try dsimp only at hSw); (try simp only [List.getElem_toArray, List.getElem_cons_zero, List.getElem_cons_succ]); go_simp; (try with_reducible rfl))
            (try simp only [Act.put, List.setIfInBounds_toArray, List.set_cons_zero, List.set_cons_succ, List.getElem_toArray, List.getElem_cons_zero, List.getElem_cons_succ])
            refine wpAnyH_ready (rs := [19]) (by kernel_rfl) (by simp) ?_
            refine AllReadyH.cons (o := _) rfl (fun K hK => ?_) AllReadyH.nil
            · (try simp only [List.getElem_toArray, List.getElem_cons_zero, List.getElem_cons_succ])
              go_simp
              refine hK.out _ _ ?_ (fun hHeld => ?_)
              · exact HD.out _ (by repeat (first | (with_reducible exact Below.refl _ _) | (with_reducible exact HB5.out) | (refine Below.drew ?_) | (refine Below.setCell ?_ (by first | (simp; done) | (have := HB5.out.size; simp; omega) | (have := HB5.out.size; omega)) _) | (refine Below.alloc ?_ (by first | (simp; done) | (have := HB5.out.size; simp; omega) | (have := HB5.out.size; omega)) _)))
              clear hK K
              (try simp only [Act.put, List.setIfInBounds_toArray, List.set_cons_zero, List.set_cons_succ, List.getElem_toArray, List.getElem_cons_zero, List.getElem_cons_succ])
              refine wpAnyH_take (i := 20) (oi := _) (v := ?vh25120_28) rfl (by kernel_rfl) (by kernel_rfl) (by kernel_rfl) (fun _ _ _ h => h) (Or.inl ⟨by rfl, ?hyh25120_28⟩) (by assumption) ?resth25120_28
              case hyh25120_28 => (intro w hSw; (try dsimp only at hSw); (try simp only [List.getElem_toArray, List.getElem_cons_zero, List.getElem_cons_succ]); go_simp; (try with_reducible rfl))
              (try simp only [Act.put, List.setIfInBounds_toArray, List.set_cons_zero, List.set_cons_succ, List.getElem_toArray, List.getElem_cons_zero, List.getElem_cons_succ])
              refine wpAnyH_done (by kernel_rfl) ?_ _
              refine NoPanic.normal ?_
              go_wp2_with fail
              go_meet
              exact ⟨_, rfl, rfl, Lib.hid (by first | omega | exact Nat.le_refl _ | exact Nat.le_succ _ | exact HB5.out.size), Lib.hid (by first | exact ⟨(B0.1.set _).far (by omega) _, (B0.2.far (by omega) _).set _⟩ | exact ⟨(B1.1.set _).far (by omega) _, (B1.2.far (by omega) _).set _⟩ | exact ⟨Cell.box 0 rfl, Cell.box 1 rfl⟩), Lib.hid (by repeat (first | (with_reducible exact Below.refl _ _) | (with_reducible exact HB5.out) | (refine Below.drew ?_) | (refine Below.setCell ?_ (by first | (simp; done) | (have := HB5.out.size; simp; omega) | (have := HB5.out.size; omega)) _) | (refine Below.alloc ?_ (by first | (simp; done) | (have := HB5.out.size; simp; omega) | (have := HB5.out.size; omega)) _)))⟩
  case rest =>
    obtain ⟨g, rfl, rfl, hg, HC, HB⟩ := hcut
    obtain ⟨e1, e2, e3, e4⟩ := HD.out _ HB.out
    obtain ⟨f3, f4⟩ := HF.out _ HB.out
    obtain ⟨⟨g0, g0f⟩, g1, g1f⟩ := HC.out
    have HP := Lib.hid (HPUT.out _ (H.out.below HB.out))
    go_upto_region 9 with fail
    go_region
    all_goals
      go_wp2_with fail
      refine (HSD.out _ (by exact HP.out.drew)).mono ?_
      rintro e w7 ⟨rfl, hq, hk⟩
      have HQ := Lib.hid hq
      have HK : Hid (Keep (· = r) w w7) := Lib.hid ((((K.out.trans (Keep.of_below (· = r) HB.out) (fun _ _ x => x)).trans (((keep_set wc r (515 + o * 2) _).own (515 + o * 2 + 1) _).drew) (fun _ _ x => x))).trans hk (fun _ _ x => x))
      clear hq hk
      go_wp2_with fail
      go_ret
      exact ⟨by rw [HR.out.1]; rfl, by rw [HR.out.2]; exact HQ.out, HK.out⟩

set_option maxRecDepth 100000 in
set_option maxHeartbeats 16000000 in
theorem rtake_him252 (o : Nat) (s : ByteArray) (h : RefAt w r name m) (hok : m.Ok) (ho : o ≤ 255) (hs : m.sent < 1000000) :
    Calls Try.prog 16 #[.pointer (some ⟨r, 0, none⟩), .agg #[.int .i64 2, .int .i64 252, .int .i64 (o : Int), .string s]] w fun e w' =>
      e = .returned (.string ⟨(m.hearT false o false).toArray⟩) ∧ RefAt w' r name (m.hear false o false) ∧ Keep (· = r) w w' := by
  obtain ⟨Wt, hWt⟩ : ∃ Wt, Wt = w.alloc (.cells #[.int .i64 2, .int .i64 252, .int .i64 (o : Int), .string s] 29) := ⟨_, rfl⟩
  have hT : RefAt Wt r name m := by rw [hWt]; exact h.alloc _
  have kT : Keep (· = r) w Wt := by rw [hWt]; exact (Keep.refl _ w).alloc _
  have zT : w.heap.size < Wt.heap.size := by rw [hWt]; simp
  have hp := h.lt
  have d1 : Wt.cell? ⟨w.heap.size, 1, none⟩ = some (.int .i64 252) := by rw [hWt]; exact (Cell.box (w := w) 1 rfl).1
  have d2 : Wt.cell? ⟨w.heap.size, 2, none⟩ = some (.int .i64 (o : Int)) := by rw [hWt]; exact (Cell.box (w := w) 2 rfl).1
  have HD : Hid (∀ W, Below Wt.heap.size Wt W → W.cell? ⟨w.heap.size, 1, none⟩ = some (.int .i64 252) ∧ W.cell? ⟨w.heap.size, 2, none⟩ = some (.int .i64 (o : Int)) ∧ W.cell? ⟨r, 515 + o * 2, none⟩ = some (.int .i64 (m.him o).1) ∧ W.cell? ⟨r, 515 + o * 2 + 1, none⟩ = some (.bool (m.him o).2)) :=
    Lib.hid (fun W q => ⟨(q.cell (p := ⟨w.heap.size, 1, none⟩) zT).trans d1, (q.cell (p := ⟨w.heap.size, 2, none⟩) zT).trans d2, ((hT.below q).him o ho).1.1, ((hT.below q).him o ho).2.1⟩)
  have HF : Hid (∀ W, Below Wt.heap.size Wt W → W.frozen? ⟨r, 515 + o * 2, none⟩ = false ∧ W.frozen? ⟨r, 515 + o * 2 + 1, none⟩ = false) :=
    Lib.hid (fun W q => ⟨((hT.below q).him o ho).1.2, ((hT.below q).him o ho).2.2⟩)
  have H := Lib.hid hT
  have K := Lib.hid kT
  have HW := Lib.hid hWt
  have o0 : (0 : Int) ≤ (o : Int) := by omega
  have o1 : (o : Int) < 256 := by omega
  have o2 : (o : Int) ≤ 255 := by omega
  have o3 : ¬ (o : Int) < 0 := by omega
  have o4 : ¬ (255 : Int) < (o : Int) := by omega
  have HZ := Lib.hid zT
  have HPT := Lib.hid hT.lt
  have HPW := Lib.hid hp
  obtain ⟨ag, hag⟩ : ∃ ag, ag = decide ((o : Int) ∈ agreedL false) := ⟨_, rfl⟩
  have HA := Lib.hid (fun W => rside_heard (m.him o).1 (m.him o).2 false ag W (hok.him o))
  obtain ⟨s', hs1⟩ : ∃ s, s = (m.hearR false o false).1 := ⟨_, rfl⟩
  obtain ⟨n, hn1⟩ : ∃ n, n = (m.hearR false o false).2 := ⟨_, rfl⟩
  have HA' : Hid (∀ W, Calls Try.prog 38 #[.agg #[.int .i64 (m.him o).1, .bool (m.him o).2], .bool false, .bool ag] W fun e w' => e = .returned (.tuple #[.agg #[.int .i64 s', .bool false], .int .i64 n]) ∧ Below W.heap.size W w') := by rw [hs1, hn1, Pm.hearR, ← hag]; exact HA
  have HG : Hid (∀ W A, Ints W (some ⟨A, 0, none⟩) 3 [0, 1, 3] → Calls Try.prog 39 #[.int .i64 (o : Int), .slice (some ⟨A, 0, none⟩) 3 3] W fun e w' => e = .returned (.bool ag) ∧ W = w') := Lib.hid (fun W A q => by rw [hag]; exact agree_any _ 3 3 _ _ W q)
  have HSD := Lib.hid (fun W (q : RefAt W r name (m.turn false o (s', false) 0)) => rsend_any r name m W false o (s', false) n o 253 254 rfl rfl q ho hs)
  have HPUT := Lib.hid (fun W (q : RefAt W r name m) => q.putHim o ho (s', false))
  have HR : Hid (m.hearT false o false = cmdL false o n ∧ m.hear false o false = m.turn false o (s', false) n) := Lib.hid (by rw [hs1, hn1]; exact ⟨rfl, rfl⟩)
  clear hs1 hn1 HA hag hT kT zT hs ho hok h
  generalize (m.him o).1 = s0 at *
  generalize (m.him o).2 = t0 at *
  go_enter Try.func16, Try.ntmps16
  go_upto_region 8 with fail
  rw [← HW.out]
  clear HW hWt d1 d2
  go_cut [5, 6] from 11 to 139 (fun bv nv wx => ∃ g, bv = .pointer (some ⟨g, 0, none⟩) ∧ nv = .int .i64 n ∧ Hid (Wt.heap.size ≤ g) ∧ Hid (Cell wx g 0 (.int .i64 s') ∧ Cell wx g 1 (.bool false)) ∧ Hid (Below Wt.heap.size Wt wx))
  case first =>
    refine wp_region_noPanic ?_
    refine wp_region_held_drew (S := fun W => W.cell? ⟨w.heap.size, 1, none⟩ = some (.int .i64 252) ∧ W.cell? ⟨w.heap.size, 2, none⟩ = some (.int .i64 (o : Int)) ∧ W.cell? ⟨r, 515 + o * 2, none⟩ = some (.int .i64 s0) ∧ W.cell? ⟨r, 515 + o * 2 + 1, none⟩ = some (.bool t0)) (by kernel_rfl) (HD.out _ (Below.refl _ _).drew) (fun hHeld => ?_)
    have HB0 : Hid (Below Wt.heap.size Wt Wt) := Lib.hid (Below.refl _ _)
    have HB5 := HB0
    refine wpAnyH_take (i := 0) (oi := _) (v := ?vh2520_1) rfl (by kernel_rfl) (by kernel_rfl) (by kernel_rfl) (fun _ _ _ h => h) (Or.inl ⟨by rfl, ?hyh2520_1⟩) (by assumption) ?resth2520_1
    case hyh2520_1 => (intro w hSw; (try dsimp only at hSw); (try simp only [List.getElem_toArray, List.getElem_cons_zero, List.getElem_cons_succ]); go_simp; (try with_reducible rfl))
    (try simp only [Act.put, List.setIfInBounds_toArray, List.set_cons_zero, List.set_cons_succ, List.getElem_toArray, List.getElem_cons_zero, List.getElem_cons_succ])
    refine wpAnyH_take (i := 1) (oi := _) (v := ?vh2521_2) rfl (by kernel_rfl) (by kernel_rfl) (by kernel_rfl) (fun _ _ _ h => h) (Or.inl ⟨by rfl, ?hyh2521_2⟩) (by assumption) ?resth2521_2
    case hyh2521_2 => (intro w hSw; (try dsimp only at hSw); (try simp only [List.getElem_toArray, List.getElem_cons_zero, List.getElem_cons_succ]); go_simp; (try with_reducible rfl))
    (try simp only [Act.put, List.setIfInBounds_toArray, List.set_cons_zero, List.set_cons_succ, List.getElem_toArray, List.getElem_cons_zero, List.getElem_cons_succ])
    refine wpAnyH_take (i := 7) (oi := _) (v := ?vh2527_3) rfl (by kernel_rfl) (by kernel_rfl) (by kernel_rfl) (fun _ _ _ h => h) (Or.inl ⟨by rfl, ?hyh2527_3⟩) (by assumption) ?resth2527_3
    case hyh2527_3 => (intro w hSw; (try dsimp only at hSw); (try simp only [List.getElem_toArray, List.getElem_cons_zero, List.getElem_cons_succ]); go_simp; (try with_reducible rfl))
    (try simp only [Act.put, List.setIfInBounds_toArray, List.set_cons_zero, List.set_cons_succ, List.getElem_toArray, List.getElem_cons_zero, List.getElem_cons_succ])
    refine wpAnyH_take (i := 10) (oi := _) (v := ?vh25210_4) rfl (by kernel_rfl) (by kernel_rfl) (by kernel_rfl) (fun _ _ _ h => h) (Or.inl ⟨by rfl, ?hyh25210_4⟩) (by assumption) ?resth25210_4
    case hyh25210_4 => (intro w hSw; (try dsimp only at hSw); (try simp only [List.getElem_toArray, List.getElem_cons_zero, List.getElem_cons_succ]); go_simp; (try with_reducible rfl))
    (try simp only [Act.put, List.setIfInBounds_toArray, List.set_cons_zero, List.set_cons_succ, List.getElem_toArray, List.getElem_cons_zero, List.getElem_cons_succ])
    refine wpAnyH_take (i := 2) (oi := _) (v := ?vh2522_5) rfl (by kernel_rfl) (by kernel_rfl) (by kernel_rfl) (fun _ _ _ h => h) (Or.inl ⟨by rfl, ?hyh2522_5⟩) (by assumption) ?resth2522_5
    case hyh2522_5 => (intro w hSw; (try dsimp only at hSw); (try simp only [List.getElem_toArray, List.getElem_cons_zero, List.getElem_cons_succ]); go_simp; (try with_reducible rfl))
    (try simp only [Act.put, List.setIfInBounds_toArray, List.set_cons_zero, List.set_cons_succ, List.getElem_toArray, List.getElem_cons_zero, List.getElem_cons_succ])
    refine wpAnyH_take (i := 3) (oi := _) (v := ?vh2523_6) rfl (by kernel_rfl) (by kernel_rfl) (by kernel_rfl) (fun _ _ _ h => h) (Or.inl ⟨by rfl, ?hyh2523_6⟩) (by assumption) ?resth2523_6
    case hyh2523_6 => (intro w hSw; (try dsimp only at hSw); (try simp only [List.getElem_toArray, List.getElem_cons_zero, List.getElem_cons_succ]); go_simp; (try with_reducible rfl))
    (try simp only [Act.put, List.setIfInBounds_toArray, List.set_cons_zero, List.set_cons_succ, List.getElem_toArray, List.getElem_cons_zero, List.getElem_cons_succ])
    refine wpAnyH_take (i := 8) (oi := _) (v := ?vh2528_7) rfl (by kernel_rfl) (by kernel_rfl) (by kernel_rfl) (fun _ _ _ h => h) (Or.inl ⟨by rfl, ?hyh2528_7⟩) (by assumption) ?resth2528_7
    case hyh2528_7 => (intro w hSw; (try dsimp only at hSw); (try simp only [List.getElem_toArray, List.getElem_cons_zero, List.getElem_cons_succ]); go_simp; (try with_reducible rfl))
    (try simp only [Act.put, List.setIfInBounds_toArray, List.set_cons_zero, List.set_cons_succ, List.getElem_toArray, List.getElem_cons_zero, List.getElem_cons_succ])
    refine wpAnyH_take (i := 11) (oi := _) (v := ?vh25211_8) rfl (by kernel_rfl) (by kernel_rfl) (by kernel_rfl) (fun _ _ _ h => h) (Or.inl ⟨by rfl, ?hyh25211_8⟩) (by assumption) ?resth25211_8
    case hyh25211_8 => (intro w hSw; (try dsimp only at hSw); (try simp only [List.getElem_toArray, List.getElem_cons_zero, List.getElem_cons_succ]); go_simp; (try with_reducible rfl))
    (try simp only [Act.put, List.setIfInBounds_toArray, List.set_cons_zero, List.set_cons_succ, List.getElem_toArray, List.getElem_cons_zero, List.getElem_cons_succ])
    refine wpAnyH_take (i := 4) (oi := _) (v := ?vh2524_9) rfl (by kernel_rfl) (by kernel_rfl) (by kernel_rfl) (fun _ _ _ h => h) (Or.inl ⟨by rfl, ?hyh2524_9⟩) (by assumption) ?resth2524_9
    case hyh2524_9 => (intro w hSw; (try dsimp only at hSw); (try simp only [List.getElem_toArray, List.getElem_cons_zero, List.getElem_cons_succ]); go_simp; (try with_reducible rfl))
    (try simp only [Act.put, List.setIfInBounds_toArray, List.set_cons_zero, List.set_cons_succ, List.getElem_toArray, List.getElem_cons_zero, List.getElem_cons_succ])
    refine wpAnyH_take (i := 9) (oi := _) (v := ?vh2529_10) rfl (by kernel_rfl) (by kernel_rfl) (by kernel_rfl) (fun _ _ _ h => h) (Or.inl ⟨by rfl, ?hyh2529_10⟩) (by assumption) ?resth2529_10
    case hyh2529_10 => (intro w hSw; (try dsimp only at hSw); (try simp only [List.getElem_toArray, List.getElem_cons_zero, List.getElem_cons_succ]); go_simp; (try with_reducible rfl))
    (try simp only [Act.put, List.setIfInBounds_toArray, List.set_cons_zero, List.set_cons_succ, List.getElem_toArray, List.getElem_cons_zero, List.getElem_cons_succ])
    refine wpAnyH_take (i := 5) (oi := _) (v := ?vh2525_11) rfl (by kernel_rfl) (by kernel_rfl) (by kernel_rfl) (fun _ _ _ h => h) (Or.inl ⟨by rfl, ?hyh2525_11⟩) (by assumption) ?resth2525_11
    case hyh2525_11 => (intro w hSw; (try dsimp only at hSw); (try simp only [List.getElem_toArray, List.getElem_cons_zero, List.getElem_cons_succ]); go_simp; (try with_reducible rfl))
    (try simp only [Act.put, List.setIfInBounds_toArray, List.set_cons_zero, List.set_cons_succ, List.getElem_toArray, List.getElem_cons_zero, List.getElem_cons_succ])
    refine wpAnyH_take (i := 6) (oi := _) (v := ?vh2526_12) rfl (by kernel_rfl) (by kernel_rfl) (by kernel_rfl) (fun _ _ _ h => h) (Or.inl ⟨by rfl, ?hyh2526_12⟩) (by assumption) ?resth2526_12
    case hyh2526_12 => (intro w hSw; (try dsimp only at hSw); (try simp only [List.getElem_toArray, List.getElem_cons_zero, List.getElem_cons_succ]); go_simp; (try with_reducible rfl))
    (try simp only [Act.put, List.setIfInBounds_toArray, List.set_cons_zero, List.set_cons_succ, List.getElem_toArray, List.getElem_cons_zero, List.getElem_cons_succ])
    refine wpAnyH_ready (rs := [12, 18]) (by kernel_rfl) (by simp) ?_
    refine AllReadyH.cons (o := _) rfl (fun K hK => ?_) (AllReadyH.cons (o := _) rfl (fun K hK => ?_) AllReadyH.nil)
    · (try simp only [List.getElem_toArray, List.getElem_cons_zero, List.getElem_cons_succ])
      go_simp
      refine hK.out _ _ ?_ (fun hHeld => ?_)
      · exact HD.out _ (by repeat (first | (with_reducible exact Below.refl _ _) | (with_reducible exact HB5.out) | (refine Below.drew ?_) | (refine Below.setCell ?_ (by first | (simp; done) | (have := HB5.out.size; simp; omega) | (have := HB5.out.size; omega)) _) | (refine Below.alloc ?_ (by first | (simp; done) | (have := HB5.out.size; simp; omega) | (have := HB5.out.size; omega)) _)))
      clear hK K
      (try simp only [Act.put, List.setIfInBounds_toArray, List.set_cons_zero, List.set_cons_succ, List.getElem_toArray, List.getElem_cons_zero, List.getElem_cons_succ])
      refine wpAnyH_ready (rs := [13, 18]) (by kernel_rfl) (by simp) ?_
      refine AllReadyH.cons (o := _) rfl (fun K hK => ?_) (AllReadyH.cons (o := _) rfl (fun K hK => ?_) AllReadyH.nil)
      · (try simp only [List.getElem_toArray, List.getElem_cons_zero, List.getElem_cons_succ])
        go_simp
        go_at_call 39
        refine (HG.out _ _ (by first | exact ints_row (w := Wt.drew) rfl [0, 1, 3] 3 rfl 3 (by decide) (by simp) (Below.refl _ _) | exact ints_row (w := Wt) rfl [0, 1, 3] 3 rfl 3 (by decide) (by simp) (Below.refl _ _) | exact ints_row (w := Wt.drew) rfl [0, 1, 3] 3 rfl 3 (by decide) (by simp) ((Below.refl _ _).alloc (by simp) _) | exact ints_row (w := Wt) rfl [0, 1, 3] 3 rfl 3 (by decide) (by simp) (Below.refl _ _).drew | exact ints_row (w := Wt) rfl [0, 1, 3] 3 rfl 3 (by decide) (by simp) ((Below.refl _ _).drew.alloc (by simp) _) | exact ints_row (w := Wt) rfl [0, 1, 3] 3 rfl 3 (by decide) (by simp) (((Below.refl _ _).alloc (by simp) _).drew) | exact ints_row (w := Wt.drew.alloc (.cells #[.int .i64 0, .bool false] 39)) (by simp) [0, 1, 3] 3 rfl 3 (by decide) (by simp) (Below.refl _ _) | exact ints_row (w := Wt.alloc (.cells #[.int .i64 0, .bool false] 39)) (by simp) [0, 1, 3] 3 rfl 3 (by decide) (by simp) (Below.refl _ _).drew)).mono ?_
        rintro e w4 ⟨rfl, rfl⟩
        refine hK.out _ _ ?_ (fun hHeld => ?_)
        · exact HD.out _ (by repeat (first | (with_reducible exact Below.refl _ _) | (with_reducible exact HB5.out) | (refine Below.drew ?_) | (refine Below.setCell ?_ (by first | (simp; done) | (have := HB5.out.size; simp; omega) | (have := HB5.out.size; omega)) _) | (refine Below.alloc ?_ (by first | (simp; done) | (have := HB5.out.size; simp; omega) | (have := HB5.out.size; omega)) _)))
        clear hK K
        (try simp only [Act.put, List.setIfInBounds_toArray, List.set_cons_zero, List.set_cons_succ, List.getElem_toArray, List.getElem_cons_zero, List.getElem_cons_succ])
        refine wpAnyH_ready (rs := [14, 18]) (by kernel_rfl) (by simp) ?_
        refine AllReadyH.cons (o := _) rfl (fun K hK => ?_) (AllReadyH.cons (o := _) rfl (fun K hK => ?_) AllReadyH.nil)
        · (try simp only [List.getElem_toArray, List.getElem_cons_zero, List.getElem_cons_succ])
          go_simp
          go_at_call 38
          refine (HA'.out _).mono ?_
          rintro e w5 ⟨rfl, hb⟩
          have HB5 : Hid (Below Wt.heap.size Wt w5) := Lib.hid (Below.trans (by repeat (first | (with_reducible exact Below.refl _ _) | (with_reducible exact HB0.out) | (refine Below.drew ?_) | (refine Below.setCell ?_ (by first | (simp; done) | (have := HB0.out.size; simp; omega) | (have := HB0.out.size; omega)) _) | (refine Below.alloc ?_ (by first | (simp; done) | (have := HB0.out.size; simp; omega) | (have := HB0.out.size; omega)) _))) (hb.mono (by simp <;> omega)))
          (try have B0 : Cell w5 Wt.heap.size 0 (.int .i64 0) ∧ Cell w5 Wt.heap.size 1 (.bool false) := ⟨Cell.below (by exact Cell.alloc (w := Wt.drew.alloc (.cells #[.int .i64 0, .bool false] 39)) (Cell.box (w := Wt.drew) (cs := #[.int .i64 0, .bool false]) (t := 39) 0 rfl) _) hb, Cell.below (by exact Cell.alloc (w := Wt.drew.alloc (.cells #[.int .i64 0, .bool false] 39)) (Cell.box (w := Wt.drew) (cs := #[.int .i64 0, .bool false]) (t := 39) 1 rfl) _) hb⟩)
          (try have B1 : Cell w5 (Wt.heap.size + 1) 0 (.int .i64 0) ∧ Cell w5 (Wt.heap.size + 1) 1 (.bool false) := ⟨Cell.below (by have q := Cell.box (w := Wt.drew.alloc (.cells #[.int .i64 0, .int .i64 1, .int .i64 3] 3)) (cs := #[.int .i64 0, .bool false]) (t := 39) 0 rfl; simp only [World.size_alloc, World.size_drew] at q; exact q) hb, Cell.below (by have q := Cell.box (w := Wt.drew.alloc (.cells #[.int .i64 0, .int .i64 1, .int .i64 3] 3)) (cs := #[.int .i64 0, .bool false]) (t := 39) 1 rfl; simp only [World.size_alloc, World.size_drew] at q; exact q) hb⟩)
          (try (have b0 := B0.1.1; have b1 := B0.2.1; have b2 := B0.1.2; have b3 := B0.2.2))
          (try (have b0 := B1.1.1; have b1 := B1.2.1; have b2 := B1.1.2; have b3 := B1.2.2))
          refine hK.out _ _ ?_ (fun hHeld => ?_)
          · exact HD.out _ (by repeat (first | (with_reducible exact Below.refl _ _) | (with_reducible exact HB5.out) | (refine Below.drew ?_) | (refine Below.setCell ?_ (by first | (simp; done) | (have := HB5.out.size; simp; omega) | (have := HB5.out.size; omega)) _) | (refine Below.alloc ?_ (by first | (simp; done) | (have := HB5.out.size; simp; omega) | (have := HB5.out.size; omega)) _)))
          clear hK K
          (try simp only [Act.put, List.setIfInBounds_toArray, List.set_cons_zero, List.set_cons_succ, List.getElem_toArray, List.getElem_cons_zero, List.getElem_cons_succ])
          refine wpAnyH_take (i := 15) (oi := _) (v := ?vh25215_13) rfl (by kernel_rfl) (by kernel_rfl) (by kernel_rfl) (fun _ _ _ h => h) (Or.inl ⟨by rfl, ?hyh25215_13⟩) (by assumption) ?resth25215_13
          case hyh25215_13 => (intro w hSw; (try dsimp only at hSw); (try simp only [List.getElem_toArray, List.getElem_cons_zero, List.getElem_cons_succ]); go_simp; (try with_reducible rfl))
          (try simp only [Act.put, List.setIfInBounds_toArray, List.set_cons_zero, List.set_cons_succ, List.getElem_toArray, List.getElem_cons_zero, List.getElem_cons_succ])
          refine wpAnyH_take (i := 16) (oi := _) (v := ?vh25216_14) rfl (by kernel_rfl) (by kernel_rfl) (by kernel_rfl) (fun _ _ _ h => h) (Or.inl ⟨by rfl, ?hyh25216_14⟩) (by assumption) ?resth25216_14
          case hyh25216_14 => (intro w hSw; (try dsimp only at hSw); (try simp only [List.getElem_toArray, List.getElem_cons_zero, List.getElem_cons_succ]); go_simp; (try with_reducible rfl))
          (try simp only [Act.put, List.setIfInBounds_toArray, List.set_cons_zero, List.set_cons_succ, List.getElem_toArray, List.getElem_cons_zero, List.getElem_cons_succ])
          refine wpAnyH_take (i := 17) (oi := _) (v := ?vh25217_15) rfl (by kernel_rfl) (by kernel_rfl) (by kernel_rfl) (fun _ _ _ h => h) (Or.inl ⟨by rfl, ?hyh25217_15⟩) (by assumption) ?resth25217_15
          case hyh25217_15 => (intro w hSw; (try dsimp only at hSw); (try simp only [List.getElem_toArray, List.getElem_cons_zero, List.getElem_cons_succ]); go_simp; (try with_reducible rfl))
          (try simp only [Act.put, List.setIfInBounds_toArray, List.set_cons_zero, List.set_cons_succ, List.getElem_toArray, List.getElem_cons_zero, List.getElem_cons_succ])
          refine wpAnyH_ready (rs := [18]) (by kernel_rfl) (by simp) ?_
          refine AllReadyH.cons (o := _) rfl (fun K hK => ?_) AllReadyH.nil
          · (try simp only [List.getElem_toArray, List.getElem_cons_zero, List.getElem_cons_succ])
            go_simp
            refine hK.out _ _ ?_ (fun hHeld => ?_)
            · exact HD.out _ (by repeat (first | (with_reducible exact Below.refl _ _) | (with_reducible exact HB5.out) | (refine Below.drew ?_) | (refine Below.setCell ?_ (by first | (simp; done) | (have := HB5.out.size; simp; omega) | (have := HB5.out.size; omega)) _) | (refine Below.alloc ?_ (by first | (simp; done) | (have := HB5.out.size; simp; omega) | (have := HB5.out.size; omega)) _)))
            clear hK K
            (try simp only [Act.put, List.setIfInBounds_toArray, List.set_cons_zero, List.set_cons_succ, List.getElem_toArray, List.getElem_cons_zero, List.getElem_cons_succ])
            refine wpAnyH_ready (rs := [19]) (by kernel_rfl) (by simp) ?_
            refine AllReadyH.cons (o := _) rfl (fun K hK => ?_) AllReadyH.nil
            · (try simp only [List.getElem_toArray, List.getElem_cons_zero, List.getElem_cons_succ])
              go_simp
              refine hK.out _ _ ?_ (fun hHeld => ?_)
              · exact HD.out _ (by repeat (first | (with_reducible exact Below.refl _ _) | (with_reducible exact HB5.out) | (refine Below.drew ?_) | (refine Below.setCell ?_ (by first | (simp; done) | (have := HB5.out.size; simp; omega) | (have := HB5.out.size; omega)) _) | (refine Below.alloc ?_ (by first | (simp; done) | (have := HB5.out.size; simp; omega) | (have := HB5.out.size; omega)) _)))
              clear hK K
              (try simp only [Act.put, List.setIfInBounds_toArray, List.set_cons_zero, List.set_cons_succ, List.getElem_toArray, List.getElem_cons_zero, List.getElem_cons_succ])
              refine wpAnyH_take (i := 20) (oi := _) (v := ?vh25220_16) rfl (by kernel_rfl) (by kernel_rfl) (by kernel_rfl) (fun _ _ _ h => h) (Or.inl ⟨by rfl, ?hyh25220_16⟩) (by assumption) ?resth25220_16
              case hyh25220_16 => (intro w hSw; (try dsimp only at hSw); (try simp only [List.getElem_toArray, List.getElem_cons_zero, List.getElem_cons_succ]); go_simp; (try with_reducible rfl))
              (try simp only [Act.put, List.setIfInBounds_toArray, List.set_cons_zero, List.set_cons_succ, List.getElem_toArray, List.getElem_cons_zero, List.getElem_cons_succ])
              refine wpAnyH_done (by kernel_rfl) ?_ _
              refine NoPanic.normal ?_
              go_wp2_with fail
              go_meet
              exact ⟨_, rfl, rfl, Lib.hid (by first | omega | exact Nat.le_refl _ | exact Nat.le_succ _ | exact HB5.out.size), Lib.hid (by first | exact ⟨(B0.1.set _).far (by omega) _, (B0.2.far (by omega) _).set _⟩ | exact ⟨(B1.1.set _).far (by omega) _, (B1.2.far (by omega) _).set _⟩ | exact ⟨Cell.box 0 rfl, Cell.box 1 rfl⟩), Lib.hid (by repeat (first | (with_reducible exact Below.refl _ _) | (with_reducible exact HB5.out) | (refine Below.drew ?_) | (refine Below.setCell ?_ (by first | (simp; done) | (have := HB5.out.size; simp; omega) | (have := HB5.out.size; omega)) _) | (refine Below.alloc ?_ (by first | (simp; done) | (have := HB5.out.size; simp; omega) | (have := HB5.out.size; omega)) _)))⟩
        · (try simp only [List.getElem_toArray, List.getElem_cons_zero, List.getElem_cons_succ])
          go_simp
          refine hK.out _ _ ?_ (fun hHeld => ?_)
          · exact HD.out _ (by repeat (first | (with_reducible exact Below.refl _ _) | (with_reducible exact HB5.out) | (refine Below.drew ?_) | (refine Below.setCell ?_ (by first | (simp; done) | (have := HB5.out.size; simp; omega) | (have := HB5.out.size; omega)) _) | (refine Below.alloc ?_ (by first | (simp; done) | (have := HB5.out.size; simp; omega) | (have := HB5.out.size; omega)) _)))
          clear hK K
          (try simp only [Act.put, List.setIfInBounds_toArray, List.set_cons_zero, List.set_cons_succ, List.getElem_toArray, List.getElem_cons_zero, List.getElem_cons_succ])
          refine wpAnyH_ready (rs := [14]) (by kernel_rfl) (by simp) ?_
          refine AllReadyH.cons (o := _) rfl (fun K hK => ?_) AllReadyH.nil
          · (try simp only [List.getElem_toArray, List.getElem_cons_zero, List.getElem_cons_succ])
            go_simp
            go_at_call 38
            refine (HA'.out _).mono ?_
            rintro e w5 ⟨rfl, hb⟩
            have HB5 : Hid (Below Wt.heap.size Wt w5) := Lib.hid (Below.trans (by repeat (first | (with_reducible exact Below.refl _ _) | (with_reducible exact HB0.out) | (refine Below.drew ?_) | (refine Below.setCell ?_ (by first | (simp; done) | (have := HB0.out.size; simp; omega) | (have := HB0.out.size; omega)) _) | (refine Below.alloc ?_ (by first | (simp; done) | (have := HB0.out.size; simp; omega) | (have := HB0.out.size; omega)) _))) (hb.mono (by simp <;> omega)))
            (try have B0 : Cell w5 Wt.heap.size 0 (.int .i64 0) ∧ Cell w5 Wt.heap.size 1 (.bool false) := ⟨Cell.below (by exact Cell.alloc (w := Wt.drew.alloc (.cells #[.int .i64 0, .bool false] 39)) (Cell.box (w := Wt.drew) (cs := #[.int .i64 0, .bool false]) (t := 39) 0 rfl) _) hb, Cell.below (by exact Cell.alloc (w := Wt.drew.alloc (.cells #[.int .i64 0, .bool false] 39)) (Cell.box (w := Wt.drew) (cs := #[.int .i64 0, .bool false]) (t := 39) 1 rfl) _) hb⟩)
            (try have B1 : Cell w5 (Wt.heap.size + 1) 0 (.int .i64 0) ∧ Cell w5 (Wt.heap.size + 1) 1 (.bool false) := ⟨Cell.below (by have q := Cell.box (w := Wt.drew.alloc (.cells #[.int .i64 0, .int .i64 1, .int .i64 3] 3)) (cs := #[.int .i64 0, .bool false]) (t := 39) 0 rfl; simp only [World.size_alloc, World.size_drew] at q; exact q) hb, Cell.below (by have q := Cell.box (w := Wt.drew.alloc (.cells #[.int .i64 0, .int .i64 1, .int .i64 3] 3)) (cs := #[.int .i64 0, .bool false]) (t := 39) 1 rfl; simp only [World.size_alloc, World.size_drew] at q; exact q) hb⟩)
            (try (have b0 := B0.1.1; have b1 := B0.2.1; have b2 := B0.1.2; have b3 := B0.2.2))
            (try (have b0 := B1.1.1; have b1 := B1.2.1; have b2 := B1.1.2; have b3 := B1.2.2))
            refine hK.out _ _ ?_ (fun hHeld => ?_)
            · exact HD.out _ (by repeat (first | (with_reducible exact Below.refl _ _) | (with_reducible exact HB5.out) | (refine Below.drew ?_) | (refine Below.setCell ?_ (by first | (simp; done) | (have := HB5.out.size; simp; omega) | (have := HB5.out.size; omega)) _) | (refine Below.alloc ?_ (by first | (simp; done) | (have := HB5.out.size; simp; omega) | (have := HB5.out.size; omega)) _)))
            clear hK K
            (try simp only [Act.put, List.setIfInBounds_toArray, List.set_cons_zero, List.set_cons_succ, List.getElem_toArray, List.getElem_cons_zero, List.getElem_cons_succ])
            refine wpAnyH_take (i := 15) (oi := _) (v := ?vh25215_17) rfl (by kernel_rfl) (by kernel_rfl) (by kernel_rfl) (fun _ _ _ h => h) (Or.inl ⟨by rfl, ?hyh25215_17⟩) (by assumption) ?resth25215_17
            case hyh25215_17 => (intro w hSw; (try dsimp only at hSw); (try simp only [List.getElem_toArray, List.getElem_cons_zero, List.getElem_cons_succ]); go_simp; (try with_reducible rfl))
            (try simp only [Act.put, List.setIfInBounds_toArray, List.set_cons_zero, List.set_cons_succ, List.getElem_toArray, List.getElem_cons_zero, List.getElem_cons_succ])
            refine wpAnyH_take (i := 16) (oi := _) (v := ?vh25216_18) rfl (by kernel_rfl) (by kernel_rfl) (by kernel_rfl) (fun _ _ _ h => h) (Or.inl ⟨by rfl, ?hyh25216_18⟩) (by assumption) ?resth25216_18
            case hyh25216_18 => (intro w hSw; (try dsimp only at hSw); (try simp only [List.getElem_toArray, List.getElem_cons_zero, List.getElem_cons_succ]); go_simp; (try with_reducible rfl))
            (try simp only [Act.put, List.setIfInBounds_toArray, List.set_cons_zero, List.set_cons_succ, List.getElem_toArray, List.getElem_cons_zero, List.getElem_cons_succ])
            refine wpAnyH_take (i := 17) (oi := _) (v := ?vh25217_19) rfl (by kernel_rfl) (by kernel_rfl) (by kernel_rfl) (fun _ _ _ h => h) (Or.inl ⟨by rfl, ?hyh25217_19⟩) (by assumption) ?resth25217_19
            case hyh25217_19 => (intro w hSw; (try dsimp only at hSw); (try simp only [List.getElem_toArray, List.getElem_cons_zero, List.getElem_cons_succ]); go_simp; (try with_reducible rfl))
            (try simp only [Act.put, List.setIfInBounds_toArray, List.set_cons_zero, List.set_cons_succ, List.getElem_toArray, List.getElem_cons_zero, List.getElem_cons_succ])
            refine wpAnyH_ready (rs := [19]) (by kernel_rfl) (by simp) ?_
            refine AllReadyH.cons (o := _) rfl (fun K hK => ?_) AllReadyH.nil
            · (try simp only [List.getElem_toArray, List.getElem_cons_zero, List.getElem_cons_succ])
              go_simp
              refine hK.out _ _ ?_ (fun hHeld => ?_)
              · exact HD.out _ (by repeat (first | (with_reducible exact Below.refl _ _) | (with_reducible exact HB5.out) | (refine Below.drew ?_) | (refine Below.setCell ?_ (by first | (simp; done) | (have := HB5.out.size; simp; omega) | (have := HB5.out.size; omega)) _) | (refine Below.alloc ?_ (by first | (simp; done) | (have := HB5.out.size; simp; omega) | (have := HB5.out.size; omega)) _)))
              clear hK K
              (try simp only [Act.put, List.setIfInBounds_toArray, List.set_cons_zero, List.set_cons_succ, List.getElem_toArray, List.getElem_cons_zero, List.getElem_cons_succ])
              refine wpAnyH_take (i := 20) (oi := _) (v := ?vh25220_20) rfl (by kernel_rfl) (by kernel_rfl) (by kernel_rfl) (fun _ _ _ h => h) (Or.inl ⟨by rfl, ?hyh25220_20⟩) (by assumption) ?resth25220_20
              case hyh25220_20 => (intro w hSw; (try dsimp only at hSw); (try simp only [List.getElem_toArray, List.getElem_cons_zero, List.getElem_cons_succ]); go_simp; (try with_reducible rfl))
              (try simp only [Act.put, List.setIfInBounds_toArray, List.set_cons_zero, List.set_cons_succ, List.getElem_toArray, List.getElem_cons_zero, List.getElem_cons_succ])
              refine wpAnyH_done (by kernel_rfl) ?_ _
              refine NoPanic.normal ?_
              go_wp2_with fail
              go_meet
              exact ⟨_, rfl, rfl, Lib.hid (by first | omega | exact Nat.le_refl _ | exact Nat.le_succ _ | exact HB5.out.size), Lib.hid (by first | exact ⟨(B0.1.set _).far (by omega) _, (B0.2.far (by omega) _).set _⟩ | exact ⟨(B1.1.set _).far (by omega) _, (B1.2.far (by omega) _).set _⟩ | exact ⟨Cell.box 0 rfl, Cell.box 1 rfl⟩), Lib.hid (by repeat (first | (with_reducible exact Below.refl _ _) | (with_reducible exact HB5.out) | (refine Below.drew ?_) | (refine Below.setCell ?_ (by first | (simp; done) | (have := HB5.out.size; simp; omega) | (have := HB5.out.size; omega)) _) | (refine Below.alloc ?_ (by first | (simp; done) | (have := HB5.out.size; simp; omega) | (have := HB5.out.size; omega)) _)))⟩
      · (try simp only [List.getElem_toArray, List.getElem_cons_zero, List.getElem_cons_succ])
        go_simp
        refine hK.out _ _ ?_ (fun hHeld => ?_)
        · exact HD.out _ (by repeat (first | (with_reducible exact Below.refl _ _) | (with_reducible exact HB5.out) | (refine Below.drew ?_) | (refine Below.setCell ?_ (by first | (simp; done) | (have := HB5.out.size; simp; omega) | (have := HB5.out.size; omega)) _) | (refine Below.alloc ?_ (by first | (simp; done) | (have := HB5.out.size; simp; omega) | (have := HB5.out.size; omega)) _)))
        clear hK K
        (try simp only [Act.put, List.setIfInBounds_toArray, List.set_cons_zero, List.set_cons_succ, List.getElem_toArray, List.getElem_cons_zero, List.getElem_cons_succ])
        refine wpAnyH_ready (rs := [13]) (by kernel_rfl) (by simp) ?_
        refine AllReadyH.cons (o := _) rfl (fun K hK => ?_) AllReadyH.nil
        · (try simp only [List.getElem_toArray, List.getElem_cons_zero, List.getElem_cons_succ])
          go_simp
          go_at_call 39
          refine (HG.out _ _ (by first | exact ints_row (w := Wt.drew) rfl [0, 1, 3] 3 rfl 3 (by decide) (by simp) (Below.refl _ _) | exact ints_row (w := Wt) rfl [0, 1, 3] 3 rfl 3 (by decide) (by simp) (Below.refl _ _) | exact ints_row (w := Wt.drew) rfl [0, 1, 3] 3 rfl 3 (by decide) (by simp) ((Below.refl _ _).alloc (by simp) _) | exact ints_row (w := Wt) rfl [0, 1, 3] 3 rfl 3 (by decide) (by simp) (Below.refl _ _).drew | exact ints_row (w := Wt) rfl [0, 1, 3] 3 rfl 3 (by decide) (by simp) ((Below.refl _ _).drew.alloc (by simp) _) | exact ints_row (w := Wt) rfl [0, 1, 3] 3 rfl 3 (by decide) (by simp) (((Below.refl _ _).alloc (by simp) _).drew) | exact ints_row (w := Wt.drew.alloc (.cells #[.int .i64 0, .bool false] 39)) (by simp) [0, 1, 3] 3 rfl 3 (by decide) (by simp) (Below.refl _ _) | exact ints_row (w := Wt.alloc (.cells #[.int .i64 0, .bool false] 39)) (by simp) [0, 1, 3] 3 rfl 3 (by decide) (by simp) (Below.refl _ _).drew)).mono ?_
          rintro e w4 ⟨rfl, rfl⟩
          refine hK.out _ _ ?_ (fun hHeld => ?_)
          · exact HD.out _ (by repeat (first | (with_reducible exact Below.refl _ _) | (with_reducible exact HB5.out) | (refine Below.drew ?_) | (refine Below.setCell ?_ (by first | (simp; done) | (have := HB5.out.size; simp; omega) | (have := HB5.out.size; omega)) _) | (refine Below.alloc ?_ (by first | (simp; done) | (have := HB5.out.size; simp; omega) | (have := HB5.out.size; omega)) _)))
          clear hK K
          (try simp only [Act.put, List.setIfInBounds_toArray, List.set_cons_zero, List.set_cons_succ, List.getElem_toArray, List.getElem_cons_zero, List.getElem_cons_succ])
          refine wpAnyH_ready (rs := [14]) (by kernel_rfl) (by simp) ?_
          refine AllReadyH.cons (o := _) rfl (fun K hK => ?_) AllReadyH.nil
          · (try simp only [List.getElem_toArray, List.getElem_cons_zero, List.getElem_cons_succ])
            go_simp
            go_at_call 38
            refine (HA'.out _).mono ?_
            rintro e w5 ⟨rfl, hb⟩
            have HB5 : Hid (Below Wt.heap.size Wt w5) := Lib.hid (Below.trans (by repeat (first | (with_reducible exact Below.refl _ _) | (with_reducible exact HB0.out) | (refine Below.drew ?_) | (refine Below.setCell ?_ (by first | (simp; done) | (have := HB0.out.size; simp; omega) | (have := HB0.out.size; omega)) _) | (refine Below.alloc ?_ (by first | (simp; done) | (have := HB0.out.size; simp; omega) | (have := HB0.out.size; omega)) _))) (hb.mono (by simp <;> omega)))
            (try have B0 : Cell w5 Wt.heap.size 0 (.int .i64 0) ∧ Cell w5 Wt.heap.size 1 (.bool false) := ⟨Cell.below (by exact Cell.alloc (w := Wt.drew.alloc (.cells #[.int .i64 0, .bool false] 39)) (Cell.box (w := Wt.drew) (cs := #[.int .i64 0, .bool false]) (t := 39) 0 rfl) _) hb, Cell.below (by exact Cell.alloc (w := Wt.drew.alloc (.cells #[.int .i64 0, .bool false] 39)) (Cell.box (w := Wt.drew) (cs := #[.int .i64 0, .bool false]) (t := 39) 1 rfl) _) hb⟩)
            (try have B1 : Cell w5 (Wt.heap.size + 1) 0 (.int .i64 0) ∧ Cell w5 (Wt.heap.size + 1) 1 (.bool false) := ⟨Cell.below (by have q := Cell.box (w := Wt.drew.alloc (.cells #[.int .i64 0, .int .i64 1, .int .i64 3] 3)) (cs := #[.int .i64 0, .bool false]) (t := 39) 0 rfl; simp only [World.size_alloc, World.size_drew] at q; exact q) hb, Cell.below (by have q := Cell.box (w := Wt.drew.alloc (.cells #[.int .i64 0, .int .i64 1, .int .i64 3] 3)) (cs := #[.int .i64 0, .bool false]) (t := 39) 1 rfl; simp only [World.size_alloc, World.size_drew] at q; exact q) hb⟩)
            (try (have b0 := B0.1.1; have b1 := B0.2.1; have b2 := B0.1.2; have b3 := B0.2.2))
            (try (have b0 := B1.1.1; have b1 := B1.2.1; have b2 := B1.1.2; have b3 := B1.2.2))
            refine hK.out _ _ ?_ (fun hHeld => ?_)
            · exact HD.out _ (by repeat (first | (with_reducible exact Below.refl _ _) | (with_reducible exact HB5.out) | (refine Below.drew ?_) | (refine Below.setCell ?_ (by first | (simp; done) | (have := HB5.out.size; simp; omega) | (have := HB5.out.size; omega)) _) | (refine Below.alloc ?_ (by first | (simp; done) | (have := HB5.out.size; simp; omega) | (have := HB5.out.size; omega)) _)))
            clear hK K
            (try simp only [Act.put, List.setIfInBounds_toArray, List.set_cons_zero, List.set_cons_succ, List.getElem_toArray, List.getElem_cons_zero, List.getElem_cons_succ])
            refine wpAnyH_take (i := 15) (oi := _) (v := ?vh25215_21) rfl (by kernel_rfl) (by kernel_rfl) (by kernel_rfl) (fun _ _ _ h => h) (Or.inl ⟨by rfl, ?hyh25215_21⟩) (by assumption) ?resth25215_21
            case hyh25215_21 => (intro w hSw; (try dsimp only at hSw); (try simp only [List.getElem_toArray, List.getElem_cons_zero, List.getElem_cons_succ]); go_simp; (try with_reducible rfl))
            (try simp only [Act.put, List.setIfInBounds_toArray, List.set_cons_zero, List.set_cons_succ, List.getElem_toArray, List.getElem_cons_zero, List.getElem_cons_succ])
            refine wpAnyH_take (i := 16) (oi := _) (v := ?vh25216_22) rfl (by kernel_rfl) (by kernel_rfl) (by kernel_rfl) (fun _ _ _ h => h) (Or.inl ⟨by rfl, ?hyh25216_22⟩) (by assumption) ?resth25216_22
            case hyh25216_22 => (intro w hSw; (try dsimp only at hSw); (try simp only [List.getElem_toArray, List.getElem_cons_zero, List.getElem_cons_succ]); go_simp; (try with_reducible rfl))
            (try simp only [Act.put, List.setIfInBounds_toArray, List.set_cons_zero, List.set_cons_succ, List.getElem_toArray, List.getElem_cons_zero, List.getElem_cons_succ])
            refine wpAnyH_take (i := 17) (oi := _) (v := ?vh25217_23) rfl (by kernel_rfl) (by kernel_rfl) (by kernel_rfl) (fun _ _ _ h => h) (Or.inl ⟨by rfl, ?hyh25217_23⟩) (by assumption) ?resth25217_23
            case hyh25217_23 => (intro w hSw; (try dsimp only at hSw); (try simp only [List.getElem_toArray, List.getElem_cons_zero, List.getElem_cons_succ]); go_simp; (try with_reducible rfl))
            (try simp only [Act.put, List.setIfInBounds_toArray, List.set_cons_zero, List.set_cons_succ, List.getElem_toArray, List.getElem_cons_zero, List.getElem_cons_succ])
            refine wpAnyH_ready (rs := [19]) (by kernel_rfl) (by simp) ?_
            refine AllReadyH.cons (o := _) rfl (fun K hK => ?_) AllReadyH.nil
            · (try simp only [List.getElem_toArray, List.getElem_cons_zero, List.getElem_cons_succ])
              go_simp
              refine hK.out _ _ ?_ (fun hHeld => ?_)
              · exact HD.out _ (by repeat (first | (with_reducible exact Below.refl _ _) | (with_reducible exact HB5.out) | (refine Below.drew ?_) | (refine Below.setCell ?_ (by first | (simp; done) | (have := HB5.out.size; simp; omega) | (have := HB5.out.size; omega)) _) | (refine Below.alloc ?_ (by first | (simp; done) | (have := HB5.out.size; simp; omega) | (have := HB5.out.size; omega)) _)))
              clear hK K
              (try simp only [Act.put, List.setIfInBounds_toArray, List.set_cons_zero, List.set_cons_succ, List.getElem_toArray, List.getElem_cons_zero, List.getElem_cons_succ])
              refine wpAnyH_take (i := 20) (oi := _) (v := ?vh25220_24) rfl (by kernel_rfl) (by kernel_rfl) (by kernel_rfl) (fun _ _ _ h => h) (Or.inl ⟨by rfl, ?hyh25220_24⟩) (by assumption) ?resth25220_24
              case hyh25220_24 => (intro w hSw; (try dsimp only at hSw); (try simp only [List.getElem_toArray, List.getElem_cons_zero, List.getElem_cons_succ]); go_simp; (try with_reducible rfl))
              (try simp only [Act.put, List.setIfInBounds_toArray, List.set_cons_zero, List.set_cons_succ, List.getElem_toArray, List.getElem_cons_zero, List.getElem_cons_succ])
              refine wpAnyH_done (by kernel_rfl) ?_ _
              refine NoPanic.normal ?_
              go_wp2_with fail
              go_meet
              exact ⟨_, rfl, rfl, Lib.hid (by first | omega | exact Nat.le_refl _ | exact Nat.le_succ _ | exact HB5.out.size), Lib.hid (by first | exact ⟨(B0.1.set _).far (by omega) _, (B0.2.far (by omega) _).set _⟩ | exact ⟨(B1.1.set _).far (by omega) _, (B1.2.far (by omega) _).set _⟩ | exact ⟨Cell.box 0 rfl, Cell.box 1 rfl⟩), Lib.hid (by repeat (first | (with_reducible exact Below.refl _ _) | (with_reducible exact HB5.out) | (refine Below.drew ?_) | (refine Below.setCell ?_ (by first | (simp; done) | (have := HB5.out.size; simp; omega) | (have := HB5.out.size; omega)) _) | (refine Below.alloc ?_ (by first | (simp; done) | (have := HB5.out.size; simp; omega) | (have := HB5.out.size; omega)) _)))⟩
    · (try simp only [List.getElem_toArray, List.getElem_cons_zero, List.getElem_cons_succ])
      go_simp
      refine hK.out _ _ ?_ (fun hHeld => ?_)
      · exact HD.out _ (by repeat (first | (with_reducible exact Below.refl _ _) | (with_reducible exact HB5.out) | (refine Below.drew ?_) | (refine Below.setCell ?_ (by first | (simp; done) | (have := HB5.out.size; simp; omega) | (have := HB5.out.size; omega)) _) | (refine Below.alloc ?_ (by first | (simp; done) | (have := HB5.out.size; simp; omega) | (have := HB5.out.size; omega)) _)))
      clear hK K
      (try simp only [Act.put, List.setIfInBounds_toArray, List.set_cons_zero, List.set_cons_succ, List.getElem_toArray, List.getElem_cons_zero, List.getElem_cons_succ])
      refine wpAnyH_ready (rs := [12]) (by kernel_rfl) (by simp) ?_
      refine AllReadyH.cons (o := _) rfl (fun K hK => ?_) AllReadyH.nil
      · (try simp only [List.getElem_toArray, List.getElem_cons_zero, List.getElem_cons_succ])
        go_simp
        refine hK.out _ _ ?_ (fun hHeld => ?_)
        · exact HD.out _ (by repeat (first | (with_reducible exact Below.refl _ _) | (with_reducible exact HB5.out) | (refine Below.drew ?_) | (refine Below.setCell ?_ (by first | (simp; done) | (have := HB5.out.size; simp; omega) | (have := HB5.out.size; omega)) _) | (refine Below.alloc ?_ (by first | (simp; done) | (have := HB5.out.size; simp; omega) | (have := HB5.out.size; omega)) _)))
        clear hK K
        (try simp only [Act.put, List.setIfInBounds_toArray, List.set_cons_zero, List.set_cons_succ, List.getElem_toArray, List.getElem_cons_zero, List.getElem_cons_succ])
        refine wpAnyH_ready (rs := [13]) (by kernel_rfl) (by simp) ?_
        refine AllReadyH.cons (o := _) rfl (fun K hK => ?_) AllReadyH.nil
        · (try simp only [List.getElem_toArray, List.getElem_cons_zero, List.getElem_cons_succ])
          go_simp
          go_at_call 39
          refine (HG.out _ _ (by first | exact ints_row (w := Wt.drew) rfl [0, 1, 3] 3 rfl 3 (by decide) (by simp) (Below.refl _ _) | exact ints_row (w := Wt) rfl [0, 1, 3] 3 rfl 3 (by decide) (by simp) (Below.refl _ _) | exact ints_row (w := Wt.drew) rfl [0, 1, 3] 3 rfl 3 (by decide) (by simp) ((Below.refl _ _).alloc (by simp) _) | exact ints_row (w := Wt) rfl [0, 1, 3] 3 rfl 3 (by decide) (by simp) (Below.refl _ _).drew | exact ints_row (w := Wt) rfl [0, 1, 3] 3 rfl 3 (by decide) (by simp) ((Below.refl _ _).drew.alloc (by simp) _) | exact ints_row (w := Wt) rfl [0, 1, 3] 3 rfl 3 (by decide) (by simp) (((Below.refl _ _).alloc (by simp) _).drew) | exact ints_row (w := Wt.drew.alloc (.cells #[.int .i64 0, .bool false] 39)) (by simp) [0, 1, 3] 3 rfl 3 (by decide) (by simp) (Below.refl _ _) | exact ints_row (w := Wt.alloc (.cells #[.int .i64 0, .bool false] 39)) (by simp) [0, 1, 3] 3 rfl 3 (by decide) (by simp) (Below.refl _ _).drew)).mono ?_
          rintro e w4 ⟨rfl, rfl⟩
          refine hK.out _ _ ?_ (fun hHeld => ?_)
          · exact HD.out _ (by repeat (first | (with_reducible exact Below.refl _ _) | (with_reducible exact HB5.out) | (refine Below.drew ?_) | (refine Below.setCell ?_ (by first | (simp; done) | (have := HB5.out.size; simp; omega) | (have := HB5.out.size; omega)) _) | (refine Below.alloc ?_ (by first | (simp; done) | (have := HB5.out.size; simp; omega) | (have := HB5.out.size; omega)) _)))
          clear hK K
          (try simp only [Act.put, List.setIfInBounds_toArray, List.set_cons_zero, List.set_cons_succ, List.getElem_toArray, List.getElem_cons_zero, List.getElem_cons_succ])
          refine wpAnyH_ready (rs := [14]) (by kernel_rfl) (by simp) ?_
          refine AllReadyH.cons (o := _) rfl (fun K hK => ?_) AllReadyH.nil
          · (try simp only [List.getElem_toArray, List.getElem_cons_zero, List.getElem_cons_succ])
            go_simp
            go_at_call 38
            refine (HA'.out _).mono ?_
            rintro e w5 ⟨rfl, hb⟩
            have HB5 : Hid (Below Wt.heap.size Wt w5) := Lib.hid (Below.trans (by repeat (first | (with_reducible exact Below.refl _ _) | (with_reducible exact HB0.out) | (refine Below.drew ?_) | (refine Below.setCell ?_ (by first | (simp; done) | (have := HB0.out.size; simp; omega) | (have := HB0.out.size; omega)) _) | (refine Below.alloc ?_ (by first | (simp; done) | (have := HB0.out.size; simp; omega) | (have := HB0.out.size; omega)) _))) (hb.mono (by simp <;> omega)))
            (try have B0 : Cell w5 Wt.heap.size 0 (.int .i64 0) ∧ Cell w5 Wt.heap.size 1 (.bool false) := ⟨Cell.below (by exact Cell.alloc (w := Wt.drew.alloc (.cells #[.int .i64 0, .bool false] 39)) (Cell.box (w := Wt.drew) (cs := #[.int .i64 0, .bool false]) (t := 39) 0 rfl) _) hb, Cell.below (by exact Cell.alloc (w := Wt.drew.alloc (.cells #[.int .i64 0, .bool false] 39)) (Cell.box (w := Wt.drew) (cs := #[.int .i64 0, .bool false]) (t := 39) 1 rfl) _) hb⟩)
            (try have B1 : Cell w5 (Wt.heap.size + 1) 0 (.int .i64 0) ∧ Cell w5 (Wt.heap.size + 1) 1 (.bool false) := ⟨Cell.below (by have q := Cell.box (w := Wt.drew.alloc (.cells #[.int .i64 0, .int .i64 1, .int .i64 3] 3)) (cs := #[.int .i64 0, .bool false]) (t := 39) 0 rfl; simp only [World.size_alloc, World.size_drew] at q; exact q) hb, Cell.below (by have q := Cell.box (w := Wt.drew.alloc (.cells #[.int .i64 0, .int .i64 1, .int .i64 3] 3)) (cs := #[.int .i64 0, .bool false]) (t := 39) 1 rfl; simp only [World.size_alloc, World.size_drew] at q; exact q) hb⟩)
            (try (have b0 := B0.1.1; have b1 := B0.2.1; have b2 := B0.1.2; have b3 := B0.2.2))
            (try (have b0 := B1.1.1; have b1 := B1.2.1; have b2 := B1.1.2; have b3 := B1.2.2))
            refine hK.out _ _ ?_ (fun hHeld => ?_)
            · exact HD.out _ (by repeat (first | (with_reducible exact Below.refl _ _) | (with_reducible exact HB5.out) | (refine Below.drew ?_) | (refine Below.setCell ?_ (by first | (simp; done) | (have := HB5.out.size; simp; omega) | (have := HB5.out.size; omega)) _) | (refine Below.alloc ?_ (by first | (simp; done) | (have := HB5.out.size; simp; omega) | (have := HB5.out.size; omega)) _)))
            clear hK K
            (try simp only [Act.put, List.setIfInBounds_toArray, List.set_cons_zero, List.set_cons_succ, List.getElem_toArray, List.getElem_cons_zero, List.getElem_cons_succ])
            refine wpAnyH_take (i := 15) (oi := _) (v := ?vh25215_25) rfl (by kernel_rfl) (by kernel_rfl) (by kernel_rfl) (fun _ _ _ h => h) (Or.inl ⟨by rfl, ?hyh25215_25⟩) (by assumption) ?resth25215_25
            case hyh25215_25 => (intro w hSw; (try dsimp only at hSw); (try simp only [List.getElem_toArray, List.getElem_cons_zero, List.getElem_cons_succ]); go_simp; (try with_reducible rfl))
            (try simp only [Act.put, List.setIfInBounds_toArray, List.set_cons_zero, List.set_cons_succ, List.getElem_toArray, List.getElem_cons_zero, List.getElem_cons_succ])
            refine wpAnyH_take (i := 16) (oi := _) (v := ?vh25216_26) rfl (by kernel_rfl) (by kernel_rfl) (by kernel_rfl) (fun _ _ _ h => h) (Or.inl ⟨by rfl, ?hyh25216_26⟩) (by assumption) ?resth25216_26
            case hyh25216_26 => (intro w hSw; (try dsimp only at hSw); (try simp only [List.getElem_toArray, List.getElem_cons_zero, List.getElem_cons_succ]); go_simp; (try with_reducible rfl))
            (try simp only [Act.put, List.setIfInBounds_toArray, List.set_cons_zero, List.set_cons_succ, List.getElem_toArray, List.getElem_cons_zero, List.getElem_cons_succ])
            refine wpAnyH_take (i := 17) (oi := _) (v := ?vh25217_27) rfl (by kernel_rfl) (by kernel_rfl) (by kernel_rfl) (fun _ _ _ h => h) (Or.inl ⟨by rfl, ?hyh25217_27⟩) (by assumption) ?resth25217_27
            case hyh25217_27 => (intro w hSw; (try dsimp only at hSw); (try simp only [List.getElem_toArray, List.getElem_cons_zero, List.getElem_cons_succ]); go_simp; (try with_reducible rfl))
            (try simp only [Act.put, List.setIfInBounds_toArray, List.set_cons_zero, List.set_cons_succ, List.getElem_toArray, List.getElem_cons_zero, List.getElem_cons_succ])
            refine wpAnyH_ready (rs := [19]) (by kernel_rfl) (by simp) ?_
            refine AllReadyH.cons (o := _) rfl (fun K hK => ?_) AllReadyH.nil
            · (try simp only [List.getElem_toArray, List.getElem_cons_zero, List.getElem_cons_succ])
              go_simp
              refine hK.out _ _ ?_ (fun hHeld => ?_)
              · exact HD.out _ (by repeat (first | (with_reducible exact Below.refl _ _) | (with_reducible exact HB5.out) | (refine Below.drew ?_) | (refine Below.setCell ?_ (by first | (simp; done) | (have := HB5.out.size; simp; omega) | (have := HB5.out.size; omega)) _) | (refine Below.alloc ?_ (by first | (simp; done) | (have := HB5.out.size; simp; omega) | (have := HB5.out.size; omega)) _)))
              clear hK K
              (try simp only [Act.put, List.setIfInBounds_toArray, List.set_cons_zero, List.set_cons_succ, List.getElem_toArray, List.getElem_cons_zero, List.getElem_cons_succ])
              refine wpAnyH_take (i := 20) (oi := _) (v := ?vh25220_28) rfl (by kernel_rfl) (by kernel_rfl) (by kernel_rfl) (fun _ _ _ h => h) (Or.inl ⟨by rfl, ?hyh25220_28⟩) (by assumption) ?resth25220_28
              case hyh25220_28 => (intro w hSw; (try dsimp only at hSw); (try simp only [List.getElem_toArray, List.getElem_cons_zero, List.getElem_cons_succ]); go_simp; (try with_reducible rfl))
              (try simp only [Act.put, List.setIfInBounds_toArray, List.set_cons_zero, List.set_cons_succ, List.getElem_toArray, List.getElem_cons_zero, List.getElem_cons_succ])
              refine wpAnyH_done (by kernel_rfl) ?_ _
              refine NoPanic.normal ?_
              go_wp2_with fail
              go_meet
              exact ⟨_, rfl, rfl, Lib.hid (by first | omega | exact Nat.le_refl _ | exact Nat.le_succ _ | exact HB5.out.size), Lib.hid (by first | exact ⟨(B0.1.set _).far (by omega) _, (B0.2.far (by omega) _).set _⟩ | exact ⟨(B1.1.set _).far (by omega) _, (B1.2.far (by omega) _).set _⟩ | exact ⟨Cell.box 0 rfl, Cell.box 1 rfl⟩), Lib.hid (by repeat (first | (with_reducible exact Below.refl _ _) | (with_reducible exact HB5.out) | (refine Below.drew ?_) | (refine Below.setCell ?_ (by first | (simp; done) | (have := HB5.out.size; simp; omega) | (have := HB5.out.size; omega)) _) | (refine Below.alloc ?_ (by first | (simp; done) | (have := HB5.out.size; simp; omega) | (have := HB5.out.size; omega)) _)))⟩
  case rest =>
    obtain ⟨g, rfl, rfl, hg, HC, HB⟩ := hcut
    obtain ⟨e1, e2, e3, e4⟩ := HD.out _ HB.out
    obtain ⟨f3, f4⟩ := HF.out _ HB.out
    obtain ⟨⟨g0, g0f⟩, g1, g1f⟩ := HC.out
    have HP := Lib.hid (HPUT.out _ (H.out.below HB.out))
    go_upto_region 9 with fail
    go_region
    all_goals
      go_wp2_with fail
      refine (HSD.out _ (by exact HP.out.drew)).mono ?_
      rintro e w7 ⟨rfl, hq, hk⟩
      have HQ := Lib.hid hq
      have HK : Hid (Keep (· = r) w w7) := Lib.hid ((((K.out.trans (Keep.of_below (· = r) HB.out) (fun _ _ x => x)).trans (((keep_set wc r (515 + o * 2) _).own (515 + o * 2 + 1) _).drew) (fun _ _ x => x))).trans hk (fun _ _ x => x))
      clear hq hk
      go_wp2_with fail
      go_ret
      exact ⟨by rw [HR.out.1]; rfl, by rw [HR.out.2]; exact HQ.out, HK.out⟩

end

end Go.Proofs.Ytmkgcmnimpkmjaa
