/- pact's ask and hear: a side is asked for, or heard of. Own work. -/
import Derived.Test.YtmkgcmnimpkmjaaPactT
import Derived.Deep.RegionLaw
namespace Go.Proofs.Ytmkgcmnimpkmjaa
set_option linter.unusedVariables false
set_option linter.unusedSimpArgs false
open Go.RowKit

set_option maxRecDepth 100000 in
set_option maxHeartbeats 3200000 in
theorem ask_us (p : Nat) (L : Blk) (name : ByteArray) (d l : Int) (m : Pm) (o : Nat) (w : World) (h : PactAt w p L name d l m) (hv : validB (m.us o).1 (m.us o).2 = true) (ho : o ≤ 255) (hg : m.g < 1000000) (hs : m.sent < 1000000) :
    Calls Try.prog 32 #[.pointer (some ⟨p, 0, none⟩), .pointer (some ⟨p, 5, none⟩), .int .i64 (o : Int)] w fun e w' =>
      e = .returned (.string ⟨(m.askT true o).toArray⟩) ∧ PactAt w' p L name d l (m.ask true o) ∧ Keep (pown p L) w w' := by
  have hwf : (Lit.int .i64 (o : Int)).wf = true := by simp [Lit.wf, IntKind.min, IntKind.max, IntKind.signed, IntKind.bits]; omega
  have c1 := (h.cs 8 _ rfl).1
  have hl := h.m1.look hwf
  have HA := Lib.hid (fun W => side_ask (m.us o).1 (m.us o).2 true W hv)
  obtain ⟨s, hs1⟩ : ∃ s, s = (m.askR true o).1 := ⟨_, rfl⟩
  obtain ⟨t, ht1⟩ : ∃ t, t = (m.askR true o).2.1 := ⟨_, rfl⟩
  obtain ⟨n, hn1⟩ : ∃ n, n = (m.askR true o).2.2 := ⟨_, rfl⟩
  have HA' : Hid (∀ W, Calls Try.prog 49 #[.agg #[.int .i64 (m.us o).1, .bool (m.us o).2], .bool true] W fun e w' => e = .returned (.tuple #[.agg #[.int .i64 s, .bool t], .int .i64 n]) ∧ Below W.heap.size W w') := by rw [hs1, ht1, hn1]; exact HA
  have HT := Lib.hid (fun W (q : PactAt W p L name d l m) => turn_us p L name d l m o s t n W q ho hg hs)
  have HR : Hid (m.askT true o = cmdL true o n ∧ m.ask true o = m.turn true o (s, t) n) := Lib.hid (by rw [hs1, ht1, hn1]; exact ⟨rfl, rfl⟩)
  have H := Lib.hid h
  generalize (m.us o).1 = s0 at *
  generalize (m.us o).2 = t0 at *
  clear h hv hwf hg hs hs1 ht1 hn1 HA
  go_enter Try.func32, Try.ntmps32
  go_wp2_with fail
  refine (HA'.out _).mono ?_
  rintro e w1 ⟨rfl, hb⟩
  have HB := Lib.hid hb
  clear hb
  go_wp2_with fail
  have KB : Hid (Below w.heap.size w (w1.alloc (.cells #[.int .i64 s, .bool t] 44))) := Lib.hid (HB.out.alloc HB.out.size _)
  refine (HT.out _ (H.out.below (by exact KB.out))).mono ?_
  rintro e w2 ⟨rfl, hp, hk⟩
  have HP := Lib.hid hp
  have HK := Lib.hid ((Keep.of_below (pown p L) KB.out).trans hk (fun _ _ x => x))
  clear hp hk
  go_wp2_with fail
  go_ret
  refine ⟨by rw [HR.out.1]; rfl, ?_, HK.out⟩
  rw [HR.out.2]
  exact HP.out

set_option maxRecDepth 100000 in
set_option maxHeartbeats 3200000 in
theorem hear_us (p : Nat) (L : Blk) (name : ByteArray) (d l : Int) (m : Pm) (o : Nat) (on : Bool) (w : World) (h : PactAt w p L name d l m) (hv : validB (m.us o).1 (m.us o).2 = true) (ho : o ≤ 255) (hg : m.g < 1000000) (hs : m.sent < 1000000) :
    Calls Try.prog 52 #[.pointer (some ⟨p, 0, none⟩), .pointer (some ⟨p, 5, none⟩), .int .i64 (o : Int), .bool on] w fun e w' =>
      e = .returned (.string ⟨(m.hearT true o on).toArray⟩) ∧ PactAt w' p L name d l (m.hear true o on) ∧ Keep (pown p L) w w' := by
  have hwf : (Lit.int .i64 (o : Int)).wf = true := by simp [Lit.wf, IntKind.min, IntKind.max, IntKind.signed, IntKind.bits]; omega
  obtain ⟨ag, hag⟩ : ∃ ag, ag = decide ((o : Int) ∈ agreedL true) := ⟨_, rfl⟩
  have HSS : Hid (∀ W, Below w.heap.size w W → W.cell? ⟨p, 8, none⟩ = some (.map (some L.b1)) ∧ W.cell? ⟨p, 7, none⟩ = some (.slice (some ⟨L.q1, 0, none⟩) 4 4) ∧ (Instr.lookup 54 (.map (some L.b1)) (.int .i64 (o : Int)) false).run Try.prog W = .ok (.agg #[.int .i64 (m.us o).1, .bool (m.us o).2]) W) :=
    Lib.hid (fun W q => have hW := h.below q; ⟨(hW.cs 8 _ rfl).1, (hW.cs 7 _ rfl).1, hW.m1.look hwf⟩)
  have HC : Hid (∀ W, Below w.heap.size w W → Calls Try.prog 66 #[.slice (some ⟨L.q1, 0, none⟩) 4 4, .int .i64 (o : Int)] W fun e w' => e = .returned (.bool ag) ∧ W = w') := Lib.hid (fun W q => by rw [hag]; exact contains_any _ 4 4 _ _ W (h.below q).i1)
  have HA := Lib.hid (fun W => side_heard (m.us o).1 (m.us o).2 on ag W hv)
  obtain ⟨s, hs1⟩ : ∃ s, s = (m.hearR true o on).1 := ⟨_, rfl⟩
  obtain ⟨n, hn1⟩ : ∃ n, n = (m.hearR true o on).2 := ⟨_, rfl⟩
  have HA' : Hid (∀ W, Calls Try.prog 65 #[.agg #[.int .i64 (m.us o).1, .bool (m.us o).2], .bool on, .bool ag] W fun e w' => e = .returned (.tuple #[.agg #[.int .i64 s, .bool false], .int .i64 n]) ∧ Below W.heap.size W w') := by rw [hs1, hn1, Pm.hearR, ← hag]; exact HA
  have HT := Lib.hid (fun W (q : PactAt W p L name d l m) => turn_us p L name d l m o s false n W q ho hg hs)
  have HR : Hid (m.hearT true o on = cmdL true o n ∧ m.hear true o on = m.turn true o (s, false) n) := Lib.hid (by rw [hs1, hn1]; exact ⟨rfl, rfl⟩)
  have H := Lib.hid h
  generalize (m.us o).1 = s0 at *
  generalize (m.us o).2 = t0 at *
  clear h hv hwf hg hs hs1 hn1 HA hag
  go_enter Try.func52, Try.ntmps52
  go_wp2_with fail
  refine wp_region_noPanic ?_
  refine wp_region_held_drew (S := fun w' => w'.cell? ⟨p, 8, none⟩ = some (.map (some L.b1)) ∧ w'.cell? ⟨p, 7, none⟩ = some (.slice (some ⟨L.q1, 0, none⟩) 4 4) ∧ (Instr.lookup 54 (.map (some L.b1)) (.int .i64 (o : Int)) false).run Try.prog w' = .ok (.agg #[.int .i64 s0, .bool t0]) w') (by kernel_rfl) (HSS.out _ (Below.refl _ _).drew) (fun hHeld => ?_)
  have HB0 : Hid (Below w.heap.size w w) := Lib.hid (Below.refl _ _)
  have HB5 := HB0
  refine wpAnyH_take (i := 0) (oi := _) (v := ?vbus0_1) rfl (by kernel_rfl) (by kernel_rfl) (by kernel_rfl) (fun _ _ _ h => h) (Or.inl ⟨by rfl, ?hybus0_1⟩) (by assumption) ?restbus0_1
  case hybus0_1 => (intro w hSw; (try dsimp only at hSw); (try simp only [List.getElem_toArray, List.getElem_cons_zero, List.getElem_cons_succ]); go_simp; (try with_reducible rfl))
  (try simp only [Act.put, List.setIfInBounds_toArray, List.set_cons_zero, List.set_cons_succ, List.getElem_toArray, List.getElem_cons_zero, List.getElem_cons_succ])
  refine wpAnyH_take (i := 4) (oi := _) (v := ?vbus4_2) rfl (by kernel_rfl) (by kernel_rfl) (by kernel_rfl) (fun _ _ _ h => h) (Or.inl ⟨by rfl, ?hybus4_2⟩) (by assumption) ?restbus4_2
  case hybus4_2 => (intro w hSw; (try dsimp only at hSw); (try simp only [List.getElem_toArray, List.getElem_cons_zero, List.getElem_cons_succ]); go_simp; (try with_reducible rfl))
  (try simp only [Act.put, List.setIfInBounds_toArray, List.set_cons_zero, List.set_cons_succ, List.getElem_toArray, List.getElem_cons_zero, List.getElem_cons_succ])
  refine wpAnyH_take (i := 6) (oi := _) (v := ?vbus6_3) rfl (by kernel_rfl) (by kernel_rfl) (by kernel_rfl) (fun _ _ _ h => h) (Or.inl ⟨by rfl, ?hybus6_3⟩) (by assumption) ?restbus6_3
  case hybus6_3 => (intro w hSw; (try dsimp only at hSw); (try simp only [List.getElem_toArray, List.getElem_cons_zero, List.getElem_cons_succ]); go_simp; (try with_reducible rfl))
  (try simp only [Act.put, List.setIfInBounds_toArray, List.set_cons_zero, List.set_cons_succ, List.getElem_toArray, List.getElem_cons_zero, List.getElem_cons_succ])
  refine wpAnyH_take (i := 7) (oi := _) (v := ?vbus7_4) rfl (by kernel_rfl) (by kernel_rfl) (by kernel_rfl) (fun _ _ _ h => h) (Or.inl ⟨by rfl, ?hybus7_4⟩) (by assumption) ?restbus7_4
  case hybus7_4 => (intro w hSw; (try dsimp only at hSw); (try simp only [List.getElem_toArray, List.getElem_cons_zero, List.getElem_cons_succ]); go_simp; (try with_reducible rfl))
  (try simp only [Act.put, List.setIfInBounds_toArray, List.set_cons_zero, List.set_cons_succ, List.getElem_toArray, List.getElem_cons_zero, List.getElem_cons_succ])
  refine wpAnyH_take (i := 11) (oi := _) (v := ?vbus11_5) rfl (by kernel_rfl) (by kernel_rfl) (by kernel_rfl) (fun _ _ _ h => h) (Or.inl ⟨by rfl, ?hybus11_5⟩) (by assumption) ?restbus11_5
  case hybus11_5 => (intro w hSw; (try dsimp only at hSw); (try simp only [List.getElem_toArray, List.getElem_cons_zero, List.getElem_cons_succ]); go_simp; (try with_reducible rfl))
  (try simp only [Act.put, List.setIfInBounds_toArray, List.set_cons_zero, List.set_cons_succ, List.getElem_toArray, List.getElem_cons_zero, List.getElem_cons_succ])
  refine wpAnyH_take (i := 1) (oi := _) (v := ?vbus1_6) rfl (by kernel_rfl) (by kernel_rfl) (by kernel_rfl) (fun _ _ _ h => h) (Or.inl ⟨by rfl, ?hybus1_6⟩) (by assumption) ?restbus1_6
  case hybus1_6 => (intro w hSw; (try dsimp only at hSw); (try simp only [List.getElem_toArray, List.getElem_cons_zero, List.getElem_cons_succ]); go_simp; (try with_reducible rfl))
  (try simp only [Act.put, List.setIfInBounds_toArray, List.set_cons_zero, List.set_cons_succ, List.getElem_toArray, List.getElem_cons_zero, List.getElem_cons_succ])
  refine wpAnyH_take (i := 8) (oi := _) (v := ?vbus8_7) rfl (by kernel_rfl) (by kernel_rfl) (by kernel_rfl) (fun _ _ _ h => h) (Or.inl ⟨by rfl, ?hybus8_7⟩) (by assumption) ?restbus8_7
  case hybus8_7 => (intro w hSw; (try dsimp only at hSw); (try simp only [List.getElem_toArray, List.getElem_cons_zero, List.getElem_cons_succ]); go_simp; (try with_reducible rfl))
  (try simp only [Act.put, List.setIfInBounds_toArray, List.set_cons_zero, List.set_cons_succ, List.getElem_toArray, List.getElem_cons_zero, List.getElem_cons_succ])
  refine wpAnyH_take (i := 2) (oi := _) (v := ?vbus2_8) rfl (by kernel_rfl) (by kernel_rfl) (by kernel_rfl) (fun _ _ _ h => h) (Or.inl ⟨by rfl, ?hybus2_8⟩) (by assumption) ?restbus2_8
  case hybus2_8 => (intro w hSw; (try dsimp only at hSw); (try simp only [List.getElem_toArray, List.getElem_cons_zero, List.getElem_cons_succ]); go_simp; (try with_reducible rfl))
  (try simp only [Act.put, List.setIfInBounds_toArray, List.set_cons_zero, List.set_cons_succ, List.getElem_toArray, List.getElem_cons_zero, List.getElem_cons_succ])
  refine wpAnyH_take (i := 9) (oi := _) (v := ?vbus9_9) rfl (by kernel_rfl) (by kernel_rfl) (by kernel_rfl) (fun _ _ _ h => h) (Or.inl ⟨by rfl, ?hybus9_9⟩) (by assumption) ?restbus9_9
  case hybus9_9 => (intro w hSw; (try dsimp only at hSw); (try simp only [List.getElem_toArray, List.getElem_cons_zero, List.getElem_cons_succ]); go_simp; (try with_reducible rfl))
  (try simp only [Act.put, List.setIfInBounds_toArray, List.set_cons_zero, List.set_cons_succ, List.getElem_toArray, List.getElem_cons_zero, List.getElem_cons_succ])
  refine wpAnyH_take (i := 3) (oi := _) (v := ?vbus3_10) rfl (by kernel_rfl) (by kernel_rfl) (by kernel_rfl) (fun _ _ _ h => h) (Or.inl ⟨by rfl, ?hybus3_10⟩) (by assumption) ?restbus3_10
  case hybus3_10 => (intro w hSw; (try dsimp only at hSw); (try simp only [List.getElem_toArray, List.getElem_cons_zero, List.getElem_cons_succ]); go_simp; (try with_reducible rfl))
  (try simp only [Act.put, List.setIfInBounds_toArray, List.set_cons_zero, List.set_cons_succ, List.getElem_toArray, List.getElem_cons_zero, List.getElem_cons_succ])
  refine wpAnyH_take (i := 10) (oi := _) (v := ?vbus10_11) rfl (by kernel_rfl) (by kernel_rfl) (by kernel_rfl) (fun _ _ _ h => h) (Or.inl ⟨by rfl, ?hybus10_11⟩) (by assumption) ?restbus10_11
  case hybus10_11 => (intro w hSw; (try dsimp only at hSw); (try simp only [List.getElem_toArray, List.getElem_cons_zero, List.getElem_cons_succ]); go_simp; (try with_reducible rfl))
  (try simp only [Act.put, List.setIfInBounds_toArray, List.set_cons_zero, List.set_cons_succ, List.getElem_toArray, List.getElem_cons_zero, List.getElem_cons_succ])
  refine wpAnyH_take (i := 5) (oi := _) (v := ?vbus5_12) rfl (by kernel_rfl) (by kernel_rfl) (by kernel_rfl) (fun _ _ _ h => h) (Or.inl ⟨by rfl, ?hybus5_12⟩) (by assumption) ?restbus5_12
  case hybus5_12 => (intro w hSw; (try dsimp only at hSw); (try simp only [List.getElem_toArray, List.getElem_cons_zero, List.getElem_cons_succ]); go_simp; (try with_reducible rfl))
  (try simp only [Act.put, List.setIfInBounds_toArray, List.set_cons_zero, List.set_cons_succ, List.getElem_toArray, List.getElem_cons_zero, List.getElem_cons_succ])
  refine wpAnyH_ready (rs := [12, 17]) (by kernel_rfl) (by simp) ?_
  refine AllReadyH.cons (o := _) rfl (fun K hK => ?_) (AllReadyH.cons (o := _) rfl (fun K hK => ?_) AllReadyH.nil)
  · (try simp only [List.getElem_toArray, List.getElem_cons_zero, List.getElem_cons_succ])
    go_simp
    go_at_call 66
    refine (HC.out _ (by repeat (first | (with_reducible exact Below.refl _ _) | (with_reducible exact HB5.out) | (refine Below.drew ?_) | (refine Below.setCell ?_ (by first | (simp; done) | (have := HB5.out.size; simp; omega)) _) | (refine Below.alloc ?_ (by first | (simp; done) | (have := HB5.out.size; simp; omega)) _)))).mono ?_
    rintro e w4 ⟨rfl, rfl⟩
    refine hK.out _ _ ?_ (fun hHeld => ?_)
    · exact HSS.out _ (by repeat (first | (with_reducible exact Below.refl _ _) | (with_reducible exact HB5.out) | (refine Below.drew ?_) | (refine Below.setCell ?_ (by first | (simp; done) | (have := HB5.out.size; simp; omega)) _) | (refine Below.alloc ?_ (by first | (simp; done) | (have := HB5.out.size; simp; omega)) _)))
    clear hK K
    (try simp only [Act.put, List.setIfInBounds_toArray, List.set_cons_zero, List.set_cons_succ, List.getElem_toArray, List.getElem_cons_zero, List.getElem_cons_succ])
    refine wpAnyH_ready (rs := [13, 17]) (by kernel_rfl) (by simp) ?_
    refine AllReadyH.cons (o := _) rfl (fun K hK => ?_) (AllReadyH.cons (o := _) rfl (fun K hK => ?_) AllReadyH.nil)
    · (try simp only [List.getElem_toArray, List.getElem_cons_zero, List.getElem_cons_succ])
      go_simp
      go_at_call 65
      refine (HA'.out _).mono ?_
      rintro e w5 ⟨rfl, hb⟩
      have HB5 : Hid (Below w.heap.size w w5) := Lib.hid (Below.trans (by repeat (first | (with_reducible exact Below.refl _ _) | (with_reducible exact HB0.out) | (refine Below.drew ?_) | (refine Below.setCell ?_ (by first | (simp; done) | (have := HB0.out.size; simp; omega)) _) | (refine Below.alloc ?_ (by first | (simp; done) | (have := HB0.out.size; simp; omega)) _))) (hb.mono (by simp)))
      (try have b0 := (hb.cell (p := ⟨w.heap.size, 0, none⟩) (by simp)).trans (Cell.box (w := w.drew) (cs := #[.int .i64 0, .bool false]) (t := 44) 0 rfl).1)
      (try have b1 := (hb.cell (p := ⟨w.heap.size, 1, none⟩) (by simp)).trans (Cell.box (w := w.drew) (cs := #[.int .i64 0, .bool false]) (t := 44) 1 rfl).1)
      (try have f0 := (hb.frozen (p := ⟨w.heap.size, 0, none⟩) (by simp)).trans (Cell.box (w := w.drew) (cs := #[.int .i64 0, .bool false]) (t := 44) 0 rfl).2)
      (try have f1 := (hb.frozen (p := ⟨w.heap.size, 1, none⟩) (by simp)).trans (Cell.box (w := w.drew) (cs := #[.int .i64 0, .bool false]) (t := 44) 1 rfl).2)
      refine hK.out _ _ ?_ (fun hHeld => ?_)
      · exact HSS.out _ (by repeat (first | (with_reducible exact Below.refl _ _) | (with_reducible exact HB5.out) | (refine Below.drew ?_) | (refine Below.setCell ?_ (by first | (simp; done) | (have := HB5.out.size; simp; omega)) _) | (refine Below.alloc ?_ (by first | (simp; done) | (have := HB5.out.size; simp; omega)) _)))
      clear hK K
      (try simp only [Act.put, List.setIfInBounds_toArray, List.set_cons_zero, List.set_cons_succ, List.getElem_toArray, List.getElem_cons_zero, List.getElem_cons_succ])
      refine wpAnyH_take (i := 14) (oi := _) (v := ?vbus14_13) rfl (by kernel_rfl) (by kernel_rfl) (by kernel_rfl) (fun _ _ _ h => h) (Or.inl ⟨by rfl, ?hybus14_13⟩) (by assumption) ?restbus14_13
      case hybus14_13 => (intro w hSw; (try dsimp only at hSw); (try simp only [List.getElem_toArray, List.getElem_cons_zero, List.getElem_cons_succ]); go_simp; (try with_reducible rfl))
      (try simp only [Act.put, List.setIfInBounds_toArray, List.set_cons_zero, List.set_cons_succ, List.getElem_toArray, List.getElem_cons_zero, List.getElem_cons_succ])
      refine wpAnyH_take (i := 15) (oi := _) (v := ?vbus15_14) rfl (by kernel_rfl) (by kernel_rfl) (by kernel_rfl) (fun _ _ _ h => h) (Or.inl ⟨by rfl, ?hybus15_14⟩) (by assumption) ?restbus15_14
      case hybus15_14 => (intro w hSw; (try dsimp only at hSw); (try simp only [List.getElem_toArray, List.getElem_cons_zero, List.getElem_cons_succ]); go_simp; (try with_reducible rfl))
      (try simp only [Act.put, List.setIfInBounds_toArray, List.set_cons_zero, List.set_cons_succ, List.getElem_toArray, List.getElem_cons_zero, List.getElem_cons_succ])
      refine wpAnyH_take (i := 16) (oi := _) (v := ?vbus16_15) rfl (by kernel_rfl) (by kernel_rfl) (by kernel_rfl) (fun _ _ _ h => h) (Or.inl ⟨by rfl, ?hybus16_15⟩) (by assumption) ?restbus16_15
      case hybus16_15 => (intro w hSw; (try dsimp only at hSw); (try simp only [List.getElem_toArray, List.getElem_cons_zero, List.getElem_cons_succ]); go_simp; (try with_reducible rfl))
      (try simp only [Act.put, List.setIfInBounds_toArray, List.set_cons_zero, List.set_cons_succ, List.getElem_toArray, List.getElem_cons_zero, List.getElem_cons_succ])
      refine wpAnyH_ready (rs := [17]) (by kernel_rfl) (by simp) ?_
      refine AllReadyH.cons (o := _) rfl (fun K hK => ?_) AllReadyH.nil
      · (try simp only [List.getElem_toArray, List.getElem_cons_zero, List.getElem_cons_succ])
        go_simp
        refine hK.out _ _ ?_ (fun hHeld => ?_)
        · exact HSS.out _ (by repeat (first | (with_reducible exact Below.refl _ _) | (with_reducible exact HB5.out) | (refine Below.drew ?_) | (refine Below.setCell ?_ (by first | (simp; done) | (have := HB5.out.size; simp; omega)) _) | (refine Below.alloc ?_ (by first | (simp; done) | (have := HB5.out.size; simp; omega)) _)))
        clear hK K
        (try simp only [Act.put, List.setIfInBounds_toArray, List.set_cons_zero, List.set_cons_succ, List.getElem_toArray, List.getElem_cons_zero, List.getElem_cons_succ])
        refine wpAnyH_ready (rs := [18]) (by kernel_rfl) (by simp) ?_
        refine AllReadyH.cons (o := _) rfl (fun K hK => ?_) AllReadyH.nil
        · (try simp only [List.getElem_toArray, List.getElem_cons_zero, List.getElem_cons_succ])
          go_simp
          refine hK.out _ _ ?_ (fun hHeld => ?_)
          · exact HSS.out _ (by repeat (first | (with_reducible exact Below.refl _ _) | (with_reducible exact HB5.out) | (refine Below.drew ?_) | (refine Below.setCell ?_ (by first | (simp; done) | (have := HB5.out.size; simp; omega)) _) | (refine Below.alloc ?_ (by first | (simp; done) | (have := HB5.out.size; simp; omega)) _)))
          clear hK K
          (try simp only [Act.put, List.setIfInBounds_toArray, List.set_cons_zero, List.set_cons_succ, List.getElem_toArray, List.getElem_cons_zero, List.getElem_cons_succ])
          refine wpAnyH_take (i := 19) (oi := _) (v := ?vbus19_16) rfl (by kernel_rfl) (by kernel_rfl) (by kernel_rfl) (fun _ _ _ h => h) (Or.inl ⟨by rfl, ?hybus19_16⟩) (by assumption) ?restbus19_16
          case hybus19_16 => (intro w hSw; (try dsimp only at hSw); (try simp only [List.getElem_toArray, List.getElem_cons_zero, List.getElem_cons_succ]); go_simp; (try with_reducible rfl))
          (try simp only [Act.put, List.setIfInBounds_toArray, List.set_cons_zero, List.set_cons_succ, List.getElem_toArray, List.getElem_cons_zero, List.getElem_cons_succ])
          refine wpAnyH_done (by kernel_rfl) ?_ _
          refine NoPanic.normal ?_
          go_wp2_with fail
          refine (HT.out _ (H.out.below (by repeat (first | (with_reducible exact Below.refl _ _) | (with_reducible exact HB5.out) | (refine Below.drew ?_) | (refine Below.setCell ?_ (by first | (simp; done) | (have := HB5.out.size; simp; omega)) _) | (refine Below.alloc ?_ (by first | (simp; done) | (have := HB5.out.size; simp; omega)) _))))).mono ?_
          rintro e w6 ⟨rfl, hp, hk⟩
          have HP := Lib.hid hp
          have HK := Lib.hid ((Keep.of_below (pown p L) (w := w) (by repeat (first | (with_reducible exact Below.refl _ _) | (with_reducible exact HB5.out) | (refine Below.drew ?_) | (refine Below.setCell ?_ (by first | (simp; done) | (have := HB5.out.size; simp; omega)) _) | (refine Below.alloc ?_ (by first | (simp; done) | (have := HB5.out.size; simp; omega)) _)))).trans hk (fun _ _ x => x))
          clear hp hk
          go_wp2_with fail
          go_ret
          refine ⟨by rw [HR.out.1]; rfl, ?_, HK.out⟩
          rw [HR.out.2]
          exact HP.out
    · (try simp only [List.getElem_toArray, List.getElem_cons_zero, List.getElem_cons_succ])
      go_simp
      refine hK.out _ _ ?_ (fun hHeld => ?_)
      · exact HSS.out _ (by repeat (first | (with_reducible exact Below.refl _ _) | (with_reducible exact HB5.out) | (refine Below.drew ?_) | (refine Below.setCell ?_ (by first | (simp; done) | (have := HB5.out.size; simp; omega)) _) | (refine Below.alloc ?_ (by first | (simp; done) | (have := HB5.out.size; simp; omega)) _)))
      clear hK K
      (try simp only [Act.put, List.setIfInBounds_toArray, List.set_cons_zero, List.set_cons_succ, List.getElem_toArray, List.getElem_cons_zero, List.getElem_cons_succ])
      refine wpAnyH_ready (rs := [13]) (by kernel_rfl) (by simp) ?_
      refine AllReadyH.cons (o := _) rfl (fun K hK => ?_) AllReadyH.nil
      · (try simp only [List.getElem_toArray, List.getElem_cons_zero, List.getElem_cons_succ])
        go_simp
        go_at_call 65
        refine (HA'.out _).mono ?_
        rintro e w5 ⟨rfl, hb⟩
        have HB5 : Hid (Below w.heap.size w w5) := Lib.hid (Below.trans (by repeat (first | (with_reducible exact Below.refl _ _) | (with_reducible exact HB0.out) | (refine Below.drew ?_) | (refine Below.setCell ?_ (by first | (simp; done) | (have := HB0.out.size; simp; omega)) _) | (refine Below.alloc ?_ (by first | (simp; done) | (have := HB0.out.size; simp; omega)) _))) (hb.mono (by simp)))
        (try have b0 := (hb.cell (p := ⟨w.heap.size, 0, none⟩) (by simp)).trans (Cell.box (w := w.drew) (cs := #[.int .i64 0, .bool false]) (t := 44) 0 rfl).1)
        (try have b1 := (hb.cell (p := ⟨w.heap.size, 1, none⟩) (by simp)).trans (Cell.box (w := w.drew) (cs := #[.int .i64 0, .bool false]) (t := 44) 1 rfl).1)
        (try have f0 := (hb.frozen (p := ⟨w.heap.size, 0, none⟩) (by simp)).trans (Cell.box (w := w.drew) (cs := #[.int .i64 0, .bool false]) (t := 44) 0 rfl).2)
        (try have f1 := (hb.frozen (p := ⟨w.heap.size, 1, none⟩) (by simp)).trans (Cell.box (w := w.drew) (cs := #[.int .i64 0, .bool false]) (t := 44) 1 rfl).2)
        refine hK.out _ _ ?_ (fun hHeld => ?_)
        · exact HSS.out _ (by repeat (first | (with_reducible exact Below.refl _ _) | (with_reducible exact HB5.out) | (refine Below.drew ?_) | (refine Below.setCell ?_ (by first | (simp; done) | (have := HB5.out.size; simp; omega)) _) | (refine Below.alloc ?_ (by first | (simp; done) | (have := HB5.out.size; simp; omega)) _)))
        clear hK K
        (try simp only [Act.put, List.setIfInBounds_toArray, List.set_cons_zero, List.set_cons_succ, List.getElem_toArray, List.getElem_cons_zero, List.getElem_cons_succ])
        refine wpAnyH_take (i := 14) (oi := _) (v := ?vbus14_17) rfl (by kernel_rfl) (by kernel_rfl) (by kernel_rfl) (fun _ _ _ h => h) (Or.inl ⟨by rfl, ?hybus14_17⟩) (by assumption) ?restbus14_17
        case hybus14_17 => (intro w hSw; (try dsimp only at hSw); (try simp only [List.getElem_toArray, List.getElem_cons_zero, List.getElem_cons_succ]); go_simp; (try with_reducible rfl))
        (try simp only [Act.put, List.setIfInBounds_toArray, List.set_cons_zero, List.set_cons_succ, List.getElem_toArray, List.getElem_cons_zero, List.getElem_cons_succ])
        refine wpAnyH_take (i := 15) (oi := _) (v := ?vbus15_18) rfl (by kernel_rfl) (by kernel_rfl) (by kernel_rfl) (fun _ _ _ h => h) (Or.inl ⟨by rfl, ?hybus15_18⟩) (by assumption) ?restbus15_18
        case hybus15_18 => (intro w hSw; (try dsimp only at hSw); (try simp only [List.getElem_toArray, List.getElem_cons_zero, List.getElem_cons_succ]); go_simp; (try with_reducible rfl))
        (try simp only [Act.put, List.setIfInBounds_toArray, List.set_cons_zero, List.set_cons_succ, List.getElem_toArray, List.getElem_cons_zero, List.getElem_cons_succ])
        refine wpAnyH_take (i := 16) (oi := _) (v := ?vbus16_19) rfl (by kernel_rfl) (by kernel_rfl) (by kernel_rfl) (fun _ _ _ h => h) (Or.inl ⟨by rfl, ?hybus16_19⟩) (by assumption) ?restbus16_19
        case hybus16_19 => (intro w hSw; (try dsimp only at hSw); (try simp only [List.getElem_toArray, List.getElem_cons_zero, List.getElem_cons_succ]); go_simp; (try with_reducible rfl))
        (try simp only [Act.put, List.setIfInBounds_toArray, List.set_cons_zero, List.set_cons_succ, List.getElem_toArray, List.getElem_cons_zero, List.getElem_cons_succ])
        refine wpAnyH_ready (rs := [18]) (by kernel_rfl) (by simp) ?_
        refine AllReadyH.cons (o := _) rfl (fun K hK => ?_) AllReadyH.nil
        · (try simp only [List.getElem_toArray, List.getElem_cons_zero, List.getElem_cons_succ])
          go_simp
          refine hK.out _ _ ?_ (fun hHeld => ?_)
          · exact HSS.out _ (by repeat (first | (with_reducible exact Below.refl _ _) | (with_reducible exact HB5.out) | (refine Below.drew ?_) | (refine Below.setCell ?_ (by first | (simp; done) | (have := HB5.out.size; simp; omega)) _) | (refine Below.alloc ?_ (by first | (simp; done) | (have := HB5.out.size; simp; omega)) _)))
          clear hK K
          (try simp only [Act.put, List.setIfInBounds_toArray, List.set_cons_zero, List.set_cons_succ, List.getElem_toArray, List.getElem_cons_zero, List.getElem_cons_succ])
          refine wpAnyH_take (i := 19) (oi := _) (v := ?vbus19_20) rfl (by kernel_rfl) (by kernel_rfl) (by kernel_rfl) (fun _ _ _ h => h) (Or.inl ⟨by rfl, ?hybus19_20⟩) (by assumption) ?restbus19_20
          case hybus19_20 => (intro w hSw; (try dsimp only at hSw); (try simp only [List.getElem_toArray, List.getElem_cons_zero, List.getElem_cons_succ]); go_simp; (try with_reducible rfl))
          (try simp only [Act.put, List.setIfInBounds_toArray, List.set_cons_zero, List.set_cons_succ, List.getElem_toArray, List.getElem_cons_zero, List.getElem_cons_succ])
          refine wpAnyH_done (by kernel_rfl) ?_ _
          refine NoPanic.normal ?_
          go_wp2_with fail
          refine (HT.out _ (H.out.below (by repeat (first | (with_reducible exact Below.refl _ _) | (with_reducible exact HB5.out) | (refine Below.drew ?_) | (refine Below.setCell ?_ (by first | (simp; done) | (have := HB5.out.size; simp; omega)) _) | (refine Below.alloc ?_ (by first | (simp; done) | (have := HB5.out.size; simp; omega)) _))))).mono ?_
          rintro e w6 ⟨rfl, hp, hk⟩
          have HP := Lib.hid hp
          have HK := Lib.hid ((Keep.of_below (pown p L) (w := w) (by repeat (first | (with_reducible exact Below.refl _ _) | (with_reducible exact HB5.out) | (refine Below.drew ?_) | (refine Below.setCell ?_ (by first | (simp; done) | (have := HB5.out.size; simp; omega)) _) | (refine Below.alloc ?_ (by first | (simp; done) | (have := HB5.out.size; simp; omega)) _)))).trans hk (fun _ _ x => x))
          clear hp hk
          go_wp2_with fail
          go_ret
          refine ⟨by rw [HR.out.1]; rfl, ?_, HK.out⟩
          rw [HR.out.2]
          exact HP.out
  · (try simp only [List.getElem_toArray, List.getElem_cons_zero, List.getElem_cons_succ])
    go_simp
    refine hK.out _ _ ?_ (fun hHeld => ?_)
    · exact HSS.out _ (by repeat (first | (with_reducible exact Below.refl _ _) | (with_reducible exact HB5.out) | (refine Below.drew ?_) | (refine Below.setCell ?_ (by first | (simp; done) | (have := HB5.out.size; simp; omega)) _) | (refine Below.alloc ?_ (by first | (simp; done) | (have := HB5.out.size; simp; omega)) _)))
    clear hK K
    (try simp only [Act.put, List.setIfInBounds_toArray, List.set_cons_zero, List.set_cons_succ, List.getElem_toArray, List.getElem_cons_zero, List.getElem_cons_succ])
    refine wpAnyH_ready (rs := [12]) (by kernel_rfl) (by simp) ?_
    refine AllReadyH.cons (o := _) rfl (fun K hK => ?_) AllReadyH.nil
    · (try simp only [List.getElem_toArray, List.getElem_cons_zero, List.getElem_cons_succ])
      go_simp
      go_at_call 66
      refine (HC.out _ (by repeat (first | (with_reducible exact Below.refl _ _) | (with_reducible exact HB5.out) | (refine Below.drew ?_) | (refine Below.setCell ?_ (by first | (simp; done) | (have := HB5.out.size; simp; omega)) _) | (refine Below.alloc ?_ (by first | (simp; done) | (have := HB5.out.size; simp; omega)) _)))).mono ?_
      rintro e w4 ⟨rfl, rfl⟩
      refine hK.out _ _ ?_ (fun hHeld => ?_)
      · exact HSS.out _ (by repeat (first | (with_reducible exact Below.refl _ _) | (with_reducible exact HB5.out) | (refine Below.drew ?_) | (refine Below.setCell ?_ (by first | (simp; done) | (have := HB5.out.size; simp; omega)) _) | (refine Below.alloc ?_ (by first | (simp; done) | (have := HB5.out.size; simp; omega)) _)))
      clear hK K
      (try simp only [Act.put, List.setIfInBounds_toArray, List.set_cons_zero, List.set_cons_succ, List.getElem_toArray, List.getElem_cons_zero, List.getElem_cons_succ])
      refine wpAnyH_ready (rs := [13]) (by kernel_rfl) (by simp) ?_
      refine AllReadyH.cons (o := _) rfl (fun K hK => ?_) AllReadyH.nil
      · (try simp only [List.getElem_toArray, List.getElem_cons_zero, List.getElem_cons_succ])
        go_simp
        go_at_call 65
        refine (HA'.out _).mono ?_
        rintro e w5 ⟨rfl, hb⟩
        have HB5 : Hid (Below w.heap.size w w5) := Lib.hid (Below.trans (by repeat (first | (with_reducible exact Below.refl _ _) | (with_reducible exact HB0.out) | (refine Below.drew ?_) | (refine Below.setCell ?_ (by first | (simp; done) | (have := HB0.out.size; simp; omega)) _) | (refine Below.alloc ?_ (by first | (simp; done) | (have := HB0.out.size; simp; omega)) _))) (hb.mono (by simp)))
        (try have b0 := (hb.cell (p := ⟨w.heap.size, 0, none⟩) (by simp)).trans (Cell.box (w := w.drew) (cs := #[.int .i64 0, .bool false]) (t := 44) 0 rfl).1)
        (try have b1 := (hb.cell (p := ⟨w.heap.size, 1, none⟩) (by simp)).trans (Cell.box (w := w.drew) (cs := #[.int .i64 0, .bool false]) (t := 44) 1 rfl).1)
        (try have f0 := (hb.frozen (p := ⟨w.heap.size, 0, none⟩) (by simp)).trans (Cell.box (w := w.drew) (cs := #[.int .i64 0, .bool false]) (t := 44) 0 rfl).2)
        (try have f1 := (hb.frozen (p := ⟨w.heap.size, 1, none⟩) (by simp)).trans (Cell.box (w := w.drew) (cs := #[.int .i64 0, .bool false]) (t := 44) 1 rfl).2)
        refine hK.out _ _ ?_ (fun hHeld => ?_)
        · exact HSS.out _ (by repeat (first | (with_reducible exact Below.refl _ _) | (with_reducible exact HB5.out) | (refine Below.drew ?_) | (refine Below.setCell ?_ (by first | (simp; done) | (have := HB5.out.size; simp; omega)) _) | (refine Below.alloc ?_ (by first | (simp; done) | (have := HB5.out.size; simp; omega)) _)))
        clear hK K
        (try simp only [Act.put, List.setIfInBounds_toArray, List.set_cons_zero, List.set_cons_succ, List.getElem_toArray, List.getElem_cons_zero, List.getElem_cons_succ])
        refine wpAnyH_take (i := 14) (oi := _) (v := ?vbus14_21) rfl (by kernel_rfl) (by kernel_rfl) (by kernel_rfl) (fun _ _ _ h => h) (Or.inl ⟨by rfl, ?hybus14_21⟩) (by assumption) ?restbus14_21
        case hybus14_21 => (intro w hSw; (try dsimp only at hSw); (try simp only [List.getElem_toArray, List.getElem_cons_zero, List.getElem_cons_succ]); go_simp; (try with_reducible rfl))
        (try simp only [Act.put, List.setIfInBounds_toArray, List.set_cons_zero, List.set_cons_succ, List.getElem_toArray, List.getElem_cons_zero, List.getElem_cons_succ])
        refine wpAnyH_take (i := 15) (oi := _) (v := ?vbus15_22) rfl (by kernel_rfl) (by kernel_rfl) (by kernel_rfl) (fun _ _ _ h => h) (Or.inl ⟨by rfl, ?hybus15_22⟩) (by assumption) ?restbus15_22
        case hybus15_22 => (intro w hSw; (try dsimp only at hSw); (try simp only [List.getElem_toArray, List.getElem_cons_zero, List.getElem_cons_succ]); go_simp; (try with_reducible rfl))
        (try simp only [Act.put, List.setIfInBounds_toArray, List.set_cons_zero, List.set_cons_succ, List.getElem_toArray, List.getElem_cons_zero, List.getElem_cons_succ])
        refine wpAnyH_take (i := 16) (oi := _) (v := ?vbus16_23) rfl (by kernel_rfl) (by kernel_rfl) (by kernel_rfl) (fun _ _ _ h => h) (Or.inl ⟨by rfl, ?hybus16_23⟩) (by assumption) ?restbus16_23
        case hybus16_23 => (intro w hSw; (try dsimp only at hSw); (try simp only [List.getElem_toArray, List.getElem_cons_zero, List.getElem_cons_succ]); go_simp; (try with_reducible rfl))
        (try simp only [Act.put, List.setIfInBounds_toArray, List.set_cons_zero, List.set_cons_succ, List.getElem_toArray, List.getElem_cons_zero, List.getElem_cons_succ])
        refine wpAnyH_ready (rs := [18]) (by kernel_rfl) (by simp) ?_
        refine AllReadyH.cons (o := _) rfl (fun K hK => ?_) AllReadyH.nil
        · (try simp only [List.getElem_toArray, List.getElem_cons_zero, List.getElem_cons_succ])
          go_simp
          refine hK.out _ _ ?_ (fun hHeld => ?_)
          · exact HSS.out _ (by repeat (first | (with_reducible exact Below.refl _ _) | (with_reducible exact HB5.out) | (refine Below.drew ?_) | (refine Below.setCell ?_ (by first | (simp; done) | (have := HB5.out.size; simp; omega)) _) | (refine Below.alloc ?_ (by first | (simp; done) | (have := HB5.out.size; simp; omega)) _)))
          clear hK K
          (try simp only [Act.put, List.setIfInBounds_toArray, List.set_cons_zero, List.set_cons_succ, List.getElem_toArray, List.getElem_cons_zero, List.getElem_cons_succ])
          refine wpAnyH_take (i := 19) (oi := _) (v := ?vbus19_24) rfl (by kernel_rfl) (by kernel_rfl) (by kernel_rfl) (fun _ _ _ h => h) (Or.inl ⟨by rfl, ?hybus19_24⟩) (by assumption) ?restbus19_24
          case hybus19_24 => (intro w hSw; (try dsimp only at hSw); (try simp only [List.getElem_toArray, List.getElem_cons_zero, List.getElem_cons_succ]); go_simp; (try with_reducible rfl))
          (try simp only [Act.put, List.setIfInBounds_toArray, List.set_cons_zero, List.set_cons_succ, List.getElem_toArray, List.getElem_cons_zero, List.getElem_cons_succ])
          refine wpAnyH_done (by kernel_rfl) ?_ _
          refine NoPanic.normal ?_
          go_wp2_with fail
          refine (HT.out _ (H.out.below (by repeat (first | (with_reducible exact Below.refl _ _) | (with_reducible exact HB5.out) | (refine Below.drew ?_) | (refine Below.setCell ?_ (by first | (simp; done) | (have := HB5.out.size; simp; omega)) _) | (refine Below.alloc ?_ (by first | (simp; done) | (have := HB5.out.size; simp; omega)) _))))).mono ?_
          rintro e w6 ⟨rfl, hp, hk⟩
          have HP := Lib.hid hp
          have HK := Lib.hid ((Keep.of_below (pown p L) (w := w) (by repeat (first | (with_reducible exact Below.refl _ _) | (with_reducible exact HB5.out) | (refine Below.drew ?_) | (refine Below.setCell ?_ (by first | (simp; done) | (have := HB5.out.size; simp; omega)) _) | (refine Below.alloc ?_ (by first | (simp; done) | (have := HB5.out.size; simp; omega)) _)))).trans hk (fun _ _ x => x))
          clear hp hk
          go_wp2_with fail
          go_ret
          refine ⟨by rw [HR.out.1]; rfl, ?_, HK.out⟩
          rw [HR.out.2]
          exact HP.out
set_option maxRecDepth 100000 in
set_option maxHeartbeats 3200000 in
theorem ask_him (p : Nat) (L : Blk) (name : ByteArray) (d l : Int) (m : Pm) (o : Nat) (w : World) (h : PactAt w p L name d l m) (hv : validB (m.him o).1 (m.him o).2 = true) (ho : o ≤ 255) (hg : m.g < 1000000) (hs : m.sent < 1000000) :
    Calls Try.prog 32 #[.pointer (some ⟨p, 0, none⟩), .pointer (some ⟨p, 9, none⟩), .int .i64 (o : Int)] w fun e w' =>
      e = .returned (.string ⟨(m.askT false o).toArray⟩) ∧ PactAt w' p L name d l (m.ask false o) ∧ Keep (pown p L) w w' := by
  have hwf : (Lit.int .i64 (o : Int)).wf = true := by simp [Lit.wf, IntKind.min, IntKind.max, IntKind.signed, IntKind.bits]; omega
  have c1 := (h.cs 12 _ rfl).1
  have hl := h.m2.look hwf
  have HA := Lib.hid (fun W => side_ask (m.him o).1 (m.him o).2 true W hv)
  obtain ⟨s, hs1⟩ : ∃ s, s = (m.askR false o).1 := ⟨_, rfl⟩
  obtain ⟨t, ht1⟩ : ∃ t, t = (m.askR false o).2.1 := ⟨_, rfl⟩
  obtain ⟨n, hn1⟩ : ∃ n, n = (m.askR false o).2.2 := ⟨_, rfl⟩
  have HA' : Hid (∀ W, Calls Try.prog 49 #[.agg #[.int .i64 (m.him o).1, .bool (m.him o).2], .bool true] W fun e w' => e = .returned (.tuple #[.agg #[.int .i64 s, .bool t], .int .i64 n]) ∧ Below W.heap.size W w') := by rw [hs1, ht1, hn1]; exact HA
  have HT := Lib.hid (fun W (q : PactAt W p L name d l m) => turn_him p L name d l m o s t n W q ho hg hs)
  have HR : Hid (m.askT false o = cmdL false o n ∧ m.ask false o = m.turn false o (s, t) n) := Lib.hid (by rw [hs1, ht1, hn1]; exact ⟨rfl, rfl⟩)
  have H := Lib.hid h
  generalize (m.him o).1 = s0 at *
  generalize (m.him o).2 = t0 at *
  clear h hv hwf hg hs hs1 ht1 hn1 HA
  go_enter Try.func32, Try.ntmps32
  go_wp2_with fail
  refine (HA'.out _).mono ?_
  rintro e w1 ⟨rfl, hb⟩
  have HB := Lib.hid hb
  clear hb
  go_wp2_with fail
  have KB : Hid (Below w.heap.size w (w1.alloc (.cells #[.int .i64 s, .bool t] 44))) := Lib.hid (HB.out.alloc HB.out.size _)
  refine (HT.out _ (H.out.below (by exact KB.out))).mono ?_
  rintro e w2 ⟨rfl, hp, hk⟩
  have HP := Lib.hid hp
  have HK := Lib.hid ((Keep.of_below (pown p L) KB.out).trans hk (fun _ _ x => x))
  clear hp hk
  go_wp2_with fail
  go_ret
  refine ⟨by rw [HR.out.1]; rfl, ?_, HK.out⟩
  rw [HR.out.2]
  exact HP.out

set_option maxRecDepth 100000 in
set_option maxHeartbeats 3200000 in
theorem hear_him (p : Nat) (L : Blk) (name : ByteArray) (d l : Int) (m : Pm) (o : Nat) (on : Bool) (w : World) (h : PactAt w p L name d l m) (hv : validB (m.him o).1 (m.him o).2 = true) (ho : o ≤ 255) (hg : m.g < 1000000) (hs : m.sent < 1000000) :
    Calls Try.prog 52 #[.pointer (some ⟨p, 0, none⟩), .pointer (some ⟨p, 9, none⟩), .int .i64 (o : Int), .bool on] w fun e w' =>
      e = .returned (.string ⟨(m.hearT false o on).toArray⟩) ∧ PactAt w' p L name d l (m.hear false o on) ∧ Keep (pown p L) w w' := by
  have hwf : (Lit.int .i64 (o : Int)).wf = true := by simp [Lit.wf, IntKind.min, IntKind.max, IntKind.signed, IntKind.bits]; omega
  obtain ⟨ag, hag⟩ : ∃ ag, ag = decide ((o : Int) ∈ agreedL false) := ⟨_, rfl⟩
  have HSS : Hid (∀ W, Below w.heap.size w W → W.cell? ⟨p, 12, none⟩ = some (.map (some L.b2)) ∧ W.cell? ⟨p, 11, none⟩ = some (.slice (some ⟨L.q2, 0, none⟩) 3 3) ∧ (Instr.lookup 54 (.map (some L.b2)) (.int .i64 (o : Int)) false).run Try.prog W = .ok (.agg #[.int .i64 (m.him o).1, .bool (m.him o).2]) W) :=
    Lib.hid (fun W q => have hW := h.below q; ⟨(hW.cs 12 _ rfl).1, (hW.cs 11 _ rfl).1, hW.m2.look hwf⟩)
  have HC : Hid (∀ W, Below w.heap.size w W → Calls Try.prog 66 #[.slice (some ⟨L.q2, 0, none⟩) 3 3, .int .i64 (o : Int)] W fun e w' => e = .returned (.bool ag) ∧ W = w') := Lib.hid (fun W q => by rw [hag]; exact contains_any _ 3 3 _ _ W (h.below q).i2)
  have HA := Lib.hid (fun W => side_heard (m.him o).1 (m.him o).2 on ag W hv)
  obtain ⟨s, hs1⟩ : ∃ s, s = (m.hearR false o on).1 := ⟨_, rfl⟩
  obtain ⟨n, hn1⟩ : ∃ n, n = (m.hearR false o on).2 := ⟨_, rfl⟩
  have HA' : Hid (∀ W, Calls Try.prog 65 #[.agg #[.int .i64 (m.him o).1, .bool (m.him o).2], .bool on, .bool ag] W fun e w' => e = .returned (.tuple #[.agg #[.int .i64 s, .bool false], .int .i64 n]) ∧ Below W.heap.size W w') := by rw [hs1, hn1, Pm.hearR, ← hag]; exact HA
  have HT := Lib.hid (fun W (q : PactAt W p L name d l m) => turn_him p L name d l m o s false n W q ho hg hs)
  have HR : Hid (m.hearT false o on = cmdL false o n ∧ m.hear false o on = m.turn false o (s, false) n) := Lib.hid (by rw [hs1, hn1]; exact ⟨rfl, rfl⟩)
  have H := Lib.hid h
  generalize (m.him o).1 = s0 at *
  generalize (m.him o).2 = t0 at *
  clear h hv hwf hg hs hs1 hn1 HA hag
  go_enter Try.func52, Try.ntmps52
  go_wp2_with fail
  refine wp_region_noPanic ?_
  refine wp_region_held_drew (S := fun w' => w'.cell? ⟨p, 12, none⟩ = some (.map (some L.b2)) ∧ w'.cell? ⟨p, 11, none⟩ = some (.slice (some ⟨L.q2, 0, none⟩) 3 3) ∧ (Instr.lookup 54 (.map (some L.b2)) (.int .i64 (o : Int)) false).run Try.prog w' = .ok (.agg #[.int .i64 s0, .bool t0]) w') (by kernel_rfl) (HSS.out _ (Below.refl _ _).drew) (fun hHeld => ?_)
  have HB0 : Hid (Below w.heap.size w w) := Lib.hid (Below.refl _ _)
  have HB5 := HB0
  refine wpAnyH_take (i := 0) (oi := _) (v := ?vbhim0_1) rfl (by kernel_rfl) (by kernel_rfl) (by kernel_rfl) (fun _ _ _ h => h) (Or.inl ⟨by rfl, ?hybhim0_1⟩) (by assumption) ?restbhim0_1
  case hybhim0_1 => (intro w hSw; (try dsimp only at hSw); (try simp only [List.getElem_toArray, List.getElem_cons_zero, List.getElem_cons_succ]); go_simp; (try with_reducible rfl))
  (try simp only [Act.put, List.setIfInBounds_toArray, List.set_cons_zero, List.set_cons_succ, List.getElem_toArray, List.getElem_cons_zero, List.getElem_cons_succ])
  refine wpAnyH_take (i := 4) (oi := _) (v := ?vbhim4_2) rfl (by kernel_rfl) (by kernel_rfl) (by kernel_rfl) (fun _ _ _ h => h) (Or.inl ⟨by rfl, ?hybhim4_2⟩) (by assumption) ?restbhim4_2
  case hybhim4_2 => (intro w hSw; (try dsimp only at hSw); (try simp only [List.getElem_toArray, List.getElem_cons_zero, List.getElem_cons_succ]); go_simp; (try with_reducible rfl))
  (try simp only [Act.put, List.setIfInBounds_toArray, List.set_cons_zero, List.set_cons_succ, List.getElem_toArray, List.getElem_cons_zero, List.getElem_cons_succ])
  refine wpAnyH_take (i := 6) (oi := _) (v := ?vbhim6_3) rfl (by kernel_rfl) (by kernel_rfl) (by kernel_rfl) (fun _ _ _ h => h) (Or.inl ⟨by rfl, ?hybhim6_3⟩) (by assumption) ?restbhim6_3
  case hybhim6_3 => (intro w hSw; (try dsimp only at hSw); (try simp only [List.getElem_toArray, List.getElem_cons_zero, List.getElem_cons_succ]); go_simp; (try with_reducible rfl))
  (try simp only [Act.put, List.setIfInBounds_toArray, List.set_cons_zero, List.set_cons_succ, List.getElem_toArray, List.getElem_cons_zero, List.getElem_cons_succ])
  refine wpAnyH_take (i := 7) (oi := _) (v := ?vbhim7_4) rfl (by kernel_rfl) (by kernel_rfl) (by kernel_rfl) (fun _ _ _ h => h) (Or.inl ⟨by rfl, ?hybhim7_4⟩) (by assumption) ?restbhim7_4
  case hybhim7_4 => (intro w hSw; (try dsimp only at hSw); (try simp only [List.getElem_toArray, List.getElem_cons_zero, List.getElem_cons_succ]); go_simp; (try with_reducible rfl))
  (try simp only [Act.put, List.setIfInBounds_toArray, List.set_cons_zero, List.set_cons_succ, List.getElem_toArray, List.getElem_cons_zero, List.getElem_cons_succ])
  refine wpAnyH_take (i := 11) (oi := _) (v := ?vbhim11_5) rfl (by kernel_rfl) (by kernel_rfl) (by kernel_rfl) (fun _ _ _ h => h) (Or.inl ⟨by rfl, ?hybhim11_5⟩) (by assumption) ?restbhim11_5
  case hybhim11_5 => (intro w hSw; (try dsimp only at hSw); (try simp only [List.getElem_toArray, List.getElem_cons_zero, List.getElem_cons_succ]); go_simp; (try with_reducible rfl))
  (try simp only [Act.put, List.setIfInBounds_toArray, List.set_cons_zero, List.set_cons_succ, List.getElem_toArray, List.getElem_cons_zero, List.getElem_cons_succ])
  refine wpAnyH_take (i := 1) (oi := _) (v := ?vbhim1_6) rfl (by kernel_rfl) (by kernel_rfl) (by kernel_rfl) (fun _ _ _ h => h) (Or.inl ⟨by rfl, ?hybhim1_6⟩) (by assumption) ?restbhim1_6
  case hybhim1_6 => (intro w hSw; (try dsimp only at hSw); (try simp only [List.getElem_toArray, List.getElem_cons_zero, List.getElem_cons_succ]); go_simp; (try with_reducible rfl))
  (try simp only [Act.put, List.setIfInBounds_toArray, List.set_cons_zero, List.set_cons_succ, List.getElem_toArray, List.getElem_cons_zero, List.getElem_cons_succ])
  refine wpAnyH_take (i := 8) (oi := _) (v := ?vbhim8_7) rfl (by kernel_rfl) (by kernel_rfl) (by kernel_rfl) (fun _ _ _ h => h) (Or.inl ⟨by rfl, ?hybhim8_7⟩) (by assumption) ?restbhim8_7
  case hybhim8_7 => (intro w hSw; (try dsimp only at hSw); (try simp only [List.getElem_toArray, List.getElem_cons_zero, List.getElem_cons_succ]); go_simp; (try with_reducible rfl))
  (try simp only [Act.put, List.setIfInBounds_toArray, List.set_cons_zero, List.set_cons_succ, List.getElem_toArray, List.getElem_cons_zero, List.getElem_cons_succ])
  refine wpAnyH_take (i := 2) (oi := _) (v := ?vbhim2_8) rfl (by kernel_rfl) (by kernel_rfl) (by kernel_rfl) (fun _ _ _ h => h) (Or.inl ⟨by rfl, ?hybhim2_8⟩) (by assumption) ?restbhim2_8
  case hybhim2_8 => (intro w hSw; (try dsimp only at hSw); (try simp only [List.getElem_toArray, List.getElem_cons_zero, List.getElem_cons_succ]); go_simp; (try with_reducible rfl))
  (try simp only [Act.put, List.setIfInBounds_toArray, List.set_cons_zero, List.set_cons_succ, List.getElem_toArray, List.getElem_cons_zero, List.getElem_cons_succ])
  refine wpAnyH_take (i := 9) (oi := _) (v := ?vbhim9_9) rfl (by kernel_rfl) (by kernel_rfl) (by kernel_rfl) (fun _ _ _ h => h) (Or.inl ⟨by rfl, ?hybhim9_9⟩) (by assumption) ?restbhim9_9
  case hybhim9_9 => (intro w hSw; (try dsimp only at hSw); (try simp only [List.getElem_toArray, List.getElem_cons_zero, List.getElem_cons_succ]); go_simp; (try with_reducible rfl))
  (try simp only [Act.put, List.setIfInBounds_toArray, List.set_cons_zero, List.set_cons_succ, List.getElem_toArray, List.getElem_cons_zero, List.getElem_cons_succ])
  refine wpAnyH_take (i := 3) (oi := _) (v := ?vbhim3_10) rfl (by kernel_rfl) (by kernel_rfl) (by kernel_rfl) (fun _ _ _ h => h) (Or.inl ⟨by rfl, ?hybhim3_10⟩) (by assumption) ?restbhim3_10
  case hybhim3_10 => (intro w hSw; (try dsimp only at hSw); (try simp only [List.getElem_toArray, List.getElem_cons_zero, List.getElem_cons_succ]); go_simp; (try with_reducible rfl))
  (try simp only [Act.put, List.setIfInBounds_toArray, List.set_cons_zero, List.set_cons_succ, List.getElem_toArray, List.getElem_cons_zero, List.getElem_cons_succ])
  refine wpAnyH_take (i := 10) (oi := _) (v := ?vbhim10_11) rfl (by kernel_rfl) (by kernel_rfl) (by kernel_rfl) (fun _ _ _ h => h) (Or.inl ⟨by rfl, ?hybhim10_11⟩) (by assumption) ?restbhim10_11
  case hybhim10_11 => (intro w hSw; (try dsimp only at hSw); (try simp only [List.getElem_toArray, List.getElem_cons_zero, List.getElem_cons_succ]); go_simp; (try with_reducible rfl))
  (try simp only [Act.put, List.setIfInBounds_toArray, List.set_cons_zero, List.set_cons_succ, List.getElem_toArray, List.getElem_cons_zero, List.getElem_cons_succ])
  refine wpAnyH_take (i := 5) (oi := _) (v := ?vbhim5_12) rfl (by kernel_rfl) (by kernel_rfl) (by kernel_rfl) (fun _ _ _ h => h) (Or.inl ⟨by rfl, ?hybhim5_12⟩) (by assumption) ?restbhim5_12
  case hybhim5_12 => (intro w hSw; (try dsimp only at hSw); (try simp only [List.getElem_toArray, List.getElem_cons_zero, List.getElem_cons_succ]); go_simp; (try with_reducible rfl))
  (try simp only [Act.put, List.setIfInBounds_toArray, List.set_cons_zero, List.set_cons_succ, List.getElem_toArray, List.getElem_cons_zero, List.getElem_cons_succ])
  refine wpAnyH_ready (rs := [12, 17]) (by kernel_rfl) (by simp) ?_
  refine AllReadyH.cons (o := _) rfl (fun K hK => ?_) (AllReadyH.cons (o := _) rfl (fun K hK => ?_) AllReadyH.nil)
  · (try simp only [List.getElem_toArray, List.getElem_cons_zero, List.getElem_cons_succ])
    go_simp
    go_at_call 66
    refine (HC.out _ (by repeat (first | (with_reducible exact Below.refl _ _) | (with_reducible exact HB5.out) | (refine Below.drew ?_) | (refine Below.setCell ?_ (by first | (simp; done) | (have := HB5.out.size; simp; omega)) _) | (refine Below.alloc ?_ (by first | (simp; done) | (have := HB5.out.size; simp; omega)) _)))).mono ?_
    rintro e w4 ⟨rfl, rfl⟩
    refine hK.out _ _ ?_ (fun hHeld => ?_)
    · exact HSS.out _ (by repeat (first | (with_reducible exact Below.refl _ _) | (with_reducible exact HB5.out) | (refine Below.drew ?_) | (refine Below.setCell ?_ (by first | (simp; done) | (have := HB5.out.size; simp; omega)) _) | (refine Below.alloc ?_ (by first | (simp; done) | (have := HB5.out.size; simp; omega)) _)))
    clear hK K
    (try simp only [Act.put, List.setIfInBounds_toArray, List.set_cons_zero, List.set_cons_succ, List.getElem_toArray, List.getElem_cons_zero, List.getElem_cons_succ])
    refine wpAnyH_ready (rs := [13, 17]) (by kernel_rfl) (by simp) ?_
    refine AllReadyH.cons (o := _) rfl (fun K hK => ?_) (AllReadyH.cons (o := _) rfl (fun K hK => ?_) AllReadyH.nil)
    · (try simp only [List.getElem_toArray, List.getElem_cons_zero, List.getElem_cons_succ])
      go_simp
      go_at_call 65
      refine (HA'.out _).mono ?_
      rintro e w5 ⟨rfl, hb⟩
      have HB5 : Hid (Below w.heap.size w w5) := Lib.hid (Below.trans (by repeat (first | (with_reducible exact Below.refl _ _) | (with_reducible exact HB0.out) | (refine Below.drew ?_) | (refine Below.setCell ?_ (by first | (simp; done) | (have := HB0.out.size; simp; omega)) _) | (refine Below.alloc ?_ (by first | (simp; done) | (have := HB0.out.size; simp; omega)) _))) (hb.mono (by simp)))
      (try have b0 := (hb.cell (p := ⟨w.heap.size, 0, none⟩) (by simp)).trans (Cell.box (w := w.drew) (cs := #[.int .i64 0, .bool false]) (t := 44) 0 rfl).1)
      (try have b1 := (hb.cell (p := ⟨w.heap.size, 1, none⟩) (by simp)).trans (Cell.box (w := w.drew) (cs := #[.int .i64 0, .bool false]) (t := 44) 1 rfl).1)
      (try have f0 := (hb.frozen (p := ⟨w.heap.size, 0, none⟩) (by simp)).trans (Cell.box (w := w.drew) (cs := #[.int .i64 0, .bool false]) (t := 44) 0 rfl).2)
      (try have f1 := (hb.frozen (p := ⟨w.heap.size, 1, none⟩) (by simp)).trans (Cell.box (w := w.drew) (cs := #[.int .i64 0, .bool false]) (t := 44) 1 rfl).2)
      refine hK.out _ _ ?_ (fun hHeld => ?_)
      · exact HSS.out _ (by repeat (first | (with_reducible exact Below.refl _ _) | (with_reducible exact HB5.out) | (refine Below.drew ?_) | (refine Below.setCell ?_ (by first | (simp; done) | (have := HB5.out.size; simp; omega)) _) | (refine Below.alloc ?_ (by first | (simp; done) | (have := HB5.out.size; simp; omega)) _)))
      clear hK K
      (try simp only [Act.put, List.setIfInBounds_toArray, List.set_cons_zero, List.set_cons_succ, List.getElem_toArray, List.getElem_cons_zero, List.getElem_cons_succ])
      refine wpAnyH_take (i := 14) (oi := _) (v := ?vbhim14_13) rfl (by kernel_rfl) (by kernel_rfl) (by kernel_rfl) (fun _ _ _ h => h) (Or.inl ⟨by rfl, ?hybhim14_13⟩) (by assumption) ?restbhim14_13
      case hybhim14_13 => (intro w hSw; (try dsimp only at hSw); (try simp only [List.getElem_toArray, List.getElem_cons_zero, List.getElem_cons_succ]); go_simp; (try with_reducible rfl))
      (try simp only [Act.put, List.setIfInBounds_toArray, List.set_cons_zero, List.set_cons_succ, List.getElem_toArray, List.getElem_cons_zero, List.getElem_cons_succ])
      refine wpAnyH_take (i := 15) (oi := _) (v := ?vbhim15_14) rfl (by kernel_rfl) (by kernel_rfl) (by kernel_rfl) (fun _ _ _ h => h) (Or.inl ⟨by rfl, ?hybhim15_14⟩) (by assumption) ?restbhim15_14
      case hybhim15_14 => (intro w hSw; (try dsimp only at hSw); (try simp only [List.getElem_toArray, List.getElem_cons_zero, List.getElem_cons_succ]); go_simp; (try with_reducible rfl))
      (try simp only [Act.put, List.setIfInBounds_toArray, List.set_cons_zero, List.set_cons_succ, List.getElem_toArray, List.getElem_cons_zero, List.getElem_cons_succ])
      refine wpAnyH_take (i := 16) (oi := _) (v := ?vbhim16_15) rfl (by kernel_rfl) (by kernel_rfl) (by kernel_rfl) (fun _ _ _ h => h) (Or.inl ⟨by rfl, ?hybhim16_15⟩) (by assumption) ?restbhim16_15
      case hybhim16_15 => (intro w hSw; (try dsimp only at hSw); (try simp only [List.getElem_toArray, List.getElem_cons_zero, List.getElem_cons_succ]); go_simp; (try with_reducible rfl))
      (try simp only [Act.put, List.setIfInBounds_toArray, List.set_cons_zero, List.set_cons_succ, List.getElem_toArray, List.getElem_cons_zero, List.getElem_cons_succ])
      refine wpAnyH_ready (rs := [17]) (by kernel_rfl) (by simp) ?_
      refine AllReadyH.cons (o := _) rfl (fun K hK => ?_) AllReadyH.nil
      · (try simp only [List.getElem_toArray, List.getElem_cons_zero, List.getElem_cons_succ])
        go_simp
        refine hK.out _ _ ?_ (fun hHeld => ?_)
        · exact HSS.out _ (by repeat (first | (with_reducible exact Below.refl _ _) | (with_reducible exact HB5.out) | (refine Below.drew ?_) | (refine Below.setCell ?_ (by first | (simp; done) | (have := HB5.out.size; simp; omega)) _) | (refine Below.alloc ?_ (by first | (simp; done) | (have := HB5.out.size; simp; omega)) _)))
        clear hK K
        (try simp only [Act.put, List.setIfInBounds_toArray, List.set_cons_zero, List.set_cons_succ, List.getElem_toArray, List.getElem_cons_zero, List.getElem_cons_succ])
        refine wpAnyH_ready (rs := [18]) (by kernel_rfl) (by simp) ?_
        refine AllReadyH.cons (o := _) rfl (fun K hK => ?_) AllReadyH.nil
        · (try simp only [List.getElem_toArray, List.getElem_cons_zero, List.getElem_cons_succ])
          go_simp
          refine hK.out _ _ ?_ (fun hHeld => ?_)
          · exact HSS.out _ (by repeat (first | (with_reducible exact Below.refl _ _) | (with_reducible exact HB5.out) | (refine Below.drew ?_) | (refine Below.setCell ?_ (by first | (simp; done) | (have := HB5.out.size; simp; omega)) _) | (refine Below.alloc ?_ (by first | (simp; done) | (have := HB5.out.size; simp; omega)) _)))
          clear hK K
          (try simp only [Act.put, List.setIfInBounds_toArray, List.set_cons_zero, List.set_cons_succ, List.getElem_toArray, List.getElem_cons_zero, List.getElem_cons_succ])
          refine wpAnyH_take (i := 19) (oi := _) (v := ?vbhim19_16) rfl (by kernel_rfl) (by kernel_rfl) (by kernel_rfl) (fun _ _ _ h => h) (Or.inl ⟨by rfl, ?hybhim19_16⟩) (by assumption) ?restbhim19_16
          case hybhim19_16 => (intro w hSw; (try dsimp only at hSw); (try simp only [List.getElem_toArray, List.getElem_cons_zero, List.getElem_cons_succ]); go_simp; (try with_reducible rfl))
          (try simp only [Act.put, List.setIfInBounds_toArray, List.set_cons_zero, List.set_cons_succ, List.getElem_toArray, List.getElem_cons_zero, List.getElem_cons_succ])
          refine wpAnyH_done (by kernel_rfl) ?_ _
          refine NoPanic.normal ?_
          go_wp2_with fail
          refine (HT.out _ (H.out.below (by repeat (first | (with_reducible exact Below.refl _ _) | (with_reducible exact HB5.out) | (refine Below.drew ?_) | (refine Below.setCell ?_ (by first | (simp; done) | (have := HB5.out.size; simp; omega)) _) | (refine Below.alloc ?_ (by first | (simp; done) | (have := HB5.out.size; simp; omega)) _))))).mono ?_
          rintro e w6 ⟨rfl, hp, hk⟩
          have HP := Lib.hid hp
          have HK := Lib.hid ((Keep.of_below (pown p L) (w := w) (by repeat (first | (with_reducible exact Below.refl _ _) | (with_reducible exact HB5.out) | (refine Below.drew ?_) | (refine Below.setCell ?_ (by first | (simp; done) | (have := HB5.out.size; simp; omega)) _) | (refine Below.alloc ?_ (by first | (simp; done) | (have := HB5.out.size; simp; omega)) _)))).trans hk (fun _ _ x => x))
          clear hp hk
          go_wp2_with fail
          go_ret
          refine ⟨by rw [HR.out.1]; rfl, ?_, HK.out⟩
          rw [HR.out.2]
          exact HP.out
    · (try simp only [List.getElem_toArray, List.getElem_cons_zero, List.getElem_cons_succ])
      go_simp
      refine hK.out _ _ ?_ (fun hHeld => ?_)
      · exact HSS.out _ (by repeat (first | (with_reducible exact Below.refl _ _) | (with_reducible exact HB5.out) | (refine Below.drew ?_) | (refine Below.setCell ?_ (by first | (simp; done) | (have := HB5.out.size; simp; omega)) _) | (refine Below.alloc ?_ (by first | (simp; done) | (have := HB5.out.size; simp; omega)) _)))
      clear hK K
      (try simp only [Act.put, List.setIfInBounds_toArray, List.set_cons_zero, List.set_cons_succ, List.getElem_toArray, List.getElem_cons_zero, List.getElem_cons_succ])
      refine wpAnyH_ready (rs := [13]) (by kernel_rfl) (by simp) ?_
      refine AllReadyH.cons (o := _) rfl (fun K hK => ?_) AllReadyH.nil
      · (try simp only [List.getElem_toArray, List.getElem_cons_zero, List.getElem_cons_succ])
        go_simp
        go_at_call 65
        refine (HA'.out _).mono ?_
        rintro e w5 ⟨rfl, hb⟩
        have HB5 : Hid (Below w.heap.size w w5) := Lib.hid (Below.trans (by repeat (first | (with_reducible exact Below.refl _ _) | (with_reducible exact HB0.out) | (refine Below.drew ?_) | (refine Below.setCell ?_ (by first | (simp; done) | (have := HB0.out.size; simp; omega)) _) | (refine Below.alloc ?_ (by first | (simp; done) | (have := HB0.out.size; simp; omega)) _))) (hb.mono (by simp)))
        (try have b0 := (hb.cell (p := ⟨w.heap.size, 0, none⟩) (by simp)).trans (Cell.box (w := w.drew) (cs := #[.int .i64 0, .bool false]) (t := 44) 0 rfl).1)
        (try have b1 := (hb.cell (p := ⟨w.heap.size, 1, none⟩) (by simp)).trans (Cell.box (w := w.drew) (cs := #[.int .i64 0, .bool false]) (t := 44) 1 rfl).1)
        (try have f0 := (hb.frozen (p := ⟨w.heap.size, 0, none⟩) (by simp)).trans (Cell.box (w := w.drew) (cs := #[.int .i64 0, .bool false]) (t := 44) 0 rfl).2)
        (try have f1 := (hb.frozen (p := ⟨w.heap.size, 1, none⟩) (by simp)).trans (Cell.box (w := w.drew) (cs := #[.int .i64 0, .bool false]) (t := 44) 1 rfl).2)
        refine hK.out _ _ ?_ (fun hHeld => ?_)
        · exact HSS.out _ (by repeat (first | (with_reducible exact Below.refl _ _) | (with_reducible exact HB5.out) | (refine Below.drew ?_) | (refine Below.setCell ?_ (by first | (simp; done) | (have := HB5.out.size; simp; omega)) _) | (refine Below.alloc ?_ (by first | (simp; done) | (have := HB5.out.size; simp; omega)) _)))
        clear hK K
        (try simp only [Act.put, List.setIfInBounds_toArray, List.set_cons_zero, List.set_cons_succ, List.getElem_toArray, List.getElem_cons_zero, List.getElem_cons_succ])
        refine wpAnyH_take (i := 14) (oi := _) (v := ?vbhim14_17) rfl (by kernel_rfl) (by kernel_rfl) (by kernel_rfl) (fun _ _ _ h => h) (Or.inl ⟨by rfl, ?hybhim14_17⟩) (by assumption) ?restbhim14_17
        case hybhim14_17 => (intro w hSw; (try dsimp only at hSw); (try simp only [List.getElem_toArray, List.getElem_cons_zero, List.getElem_cons_succ]); go_simp; (try with_reducible rfl))
        (try simp only [Act.put, List.setIfInBounds_toArray, List.set_cons_zero, List.set_cons_succ, List.getElem_toArray, List.getElem_cons_zero, List.getElem_cons_succ])
        refine wpAnyH_take (i := 15) (oi := _) (v := ?vbhim15_18) rfl (by kernel_rfl) (by kernel_rfl) (by kernel_rfl) (fun _ _ _ h => h) (Or.inl ⟨by rfl, ?hybhim15_18⟩) (by assumption) ?restbhim15_18
        case hybhim15_18 => (intro w hSw; (try dsimp only at hSw); (try simp only [List.getElem_toArray, List.getElem_cons_zero, List.getElem_cons_succ]); go_simp; (try with_reducible rfl))
        (try simp only [Act.put, List.setIfInBounds_toArray, List.set_cons_zero, List.set_cons_succ, List.getElem_toArray, List.getElem_cons_zero, List.getElem_cons_succ])
        refine wpAnyH_take (i := 16) (oi := _) (v := ?vbhim16_19) rfl (by kernel_rfl) (by kernel_rfl) (by kernel_rfl) (fun _ _ _ h => h) (Or.inl ⟨by rfl, ?hybhim16_19⟩) (by assumption) ?restbhim16_19
        case hybhim16_19 => (intro w hSw; (try dsimp only at hSw); (try simp only [List.getElem_toArray, List.getElem_cons_zero, List.getElem_cons_succ]); go_simp; (try with_reducible rfl))
        (try simp only [Act.put, List.setIfInBounds_toArray, List.set_cons_zero, List.set_cons_succ, List.getElem_toArray, List.getElem_cons_zero, List.getElem_cons_succ])
        refine wpAnyH_ready (rs := [18]) (by kernel_rfl) (by simp) ?_
        refine AllReadyH.cons (o := _) rfl (fun K hK => ?_) AllReadyH.nil
        · (try simp only [List.getElem_toArray, List.getElem_cons_zero, List.getElem_cons_succ])
          go_simp
          refine hK.out _ _ ?_ (fun hHeld => ?_)
          · exact HSS.out _ (by repeat (first | (with_reducible exact Below.refl _ _) | (with_reducible exact HB5.out) | (refine Below.drew ?_) | (refine Below.setCell ?_ (by first | (simp; done) | (have := HB5.out.size; simp; omega)) _) | (refine Below.alloc ?_ (by first | (simp; done) | (have := HB5.out.size; simp; omega)) _)))
          clear hK K
          (try simp only [Act.put, List.setIfInBounds_toArray, List.set_cons_zero, List.set_cons_succ, List.getElem_toArray, List.getElem_cons_zero, List.getElem_cons_succ])
          refine wpAnyH_take (i := 19) (oi := _) (v := ?vbhim19_20) rfl (by kernel_rfl) (by kernel_rfl) (by kernel_rfl) (fun _ _ _ h => h) (Or.inl ⟨by rfl, ?hybhim19_20⟩) (by assumption) ?restbhim19_20
          case hybhim19_20 => (intro w hSw; (try dsimp only at hSw); (try simp only [List.getElem_toArray, List.getElem_cons_zero, List.getElem_cons_succ]); go_simp; (try with_reducible rfl))
          (try simp only [Act.put, List.setIfInBounds_toArray, List.set_cons_zero, List.set_cons_succ, List.getElem_toArray, List.getElem_cons_zero, List.getElem_cons_succ])
          refine wpAnyH_done (by kernel_rfl) ?_ _
          refine NoPanic.normal ?_
          go_wp2_with fail
          refine (HT.out _ (H.out.below (by repeat (first | (with_reducible exact Below.refl _ _) | (with_reducible exact HB5.out) | (refine Below.drew ?_) | (refine Below.setCell ?_ (by first | (simp; done) | (have := HB5.out.size; simp; omega)) _) | (refine Below.alloc ?_ (by first | (simp; done) | (have := HB5.out.size; simp; omega)) _))))).mono ?_
          rintro e w6 ⟨rfl, hp, hk⟩
          have HP := Lib.hid hp
          have HK := Lib.hid ((Keep.of_below (pown p L) (w := w) (by repeat (first | (with_reducible exact Below.refl _ _) | (with_reducible exact HB5.out) | (refine Below.drew ?_) | (refine Below.setCell ?_ (by first | (simp; done) | (have := HB5.out.size; simp; omega)) _) | (refine Below.alloc ?_ (by first | (simp; done) | (have := HB5.out.size; simp; omega)) _)))).trans hk (fun _ _ x => x))
          clear hp hk
          go_wp2_with fail
          go_ret
          refine ⟨by rw [HR.out.1]; rfl, ?_, HK.out⟩
          rw [HR.out.2]
          exact HP.out
  · (try simp only [List.getElem_toArray, List.getElem_cons_zero, List.getElem_cons_succ])
    go_simp
    refine hK.out _ _ ?_ (fun hHeld => ?_)
    · exact HSS.out _ (by repeat (first | (with_reducible exact Below.refl _ _) | (with_reducible exact HB5.out) | (refine Below.drew ?_) | (refine Below.setCell ?_ (by first | (simp; done) | (have := HB5.out.size; simp; omega)) _) | (refine Below.alloc ?_ (by first | (simp; done) | (have := HB5.out.size; simp; omega)) _)))
    clear hK K
    (try simp only [Act.put, List.setIfInBounds_toArray, List.set_cons_zero, List.set_cons_succ, List.getElem_toArray, List.getElem_cons_zero, List.getElem_cons_succ])
    refine wpAnyH_ready (rs := [12]) (by kernel_rfl) (by simp) ?_
    refine AllReadyH.cons (o := _) rfl (fun K hK => ?_) AllReadyH.nil
    · (try simp only [List.getElem_toArray, List.getElem_cons_zero, List.getElem_cons_succ])
      go_simp
      go_at_call 66
      refine (HC.out _ (by repeat (first | (with_reducible exact Below.refl _ _) | (with_reducible exact HB5.out) | (refine Below.drew ?_) | (refine Below.setCell ?_ (by first | (simp; done) | (have := HB5.out.size; simp; omega)) _) | (refine Below.alloc ?_ (by first | (simp; done) | (have := HB5.out.size; simp; omega)) _)))).mono ?_
      rintro e w4 ⟨rfl, rfl⟩
      refine hK.out _ _ ?_ (fun hHeld => ?_)
      · exact HSS.out _ (by repeat (first | (with_reducible exact Below.refl _ _) | (with_reducible exact HB5.out) | (refine Below.drew ?_) | (refine Below.setCell ?_ (by first | (simp; done) | (have := HB5.out.size; simp; omega)) _) | (refine Below.alloc ?_ (by first | (simp; done) | (have := HB5.out.size; simp; omega)) _)))
      clear hK K
      (try simp only [Act.put, List.setIfInBounds_toArray, List.set_cons_zero, List.set_cons_succ, List.getElem_toArray, List.getElem_cons_zero, List.getElem_cons_succ])
      refine wpAnyH_ready (rs := [13]) (by kernel_rfl) (by simp) ?_
      refine AllReadyH.cons (o := _) rfl (fun K hK => ?_) AllReadyH.nil
      · (try simp only [List.getElem_toArray, List.getElem_cons_zero, List.getElem_cons_succ])
        go_simp
        go_at_call 65
        refine (HA'.out _).mono ?_
        rintro e w5 ⟨rfl, hb⟩
        have HB5 : Hid (Below w.heap.size w w5) := Lib.hid (Below.trans (by repeat (first | (with_reducible exact Below.refl _ _) | (with_reducible exact HB0.out) | (refine Below.drew ?_) | (refine Below.setCell ?_ (by first | (simp; done) | (have := HB0.out.size; simp; omega)) _) | (refine Below.alloc ?_ (by first | (simp; done) | (have := HB0.out.size; simp; omega)) _))) (hb.mono (by simp)))
        (try have b0 := (hb.cell (p := ⟨w.heap.size, 0, none⟩) (by simp)).trans (Cell.box (w := w.drew) (cs := #[.int .i64 0, .bool false]) (t := 44) 0 rfl).1)
        (try have b1 := (hb.cell (p := ⟨w.heap.size, 1, none⟩) (by simp)).trans (Cell.box (w := w.drew) (cs := #[.int .i64 0, .bool false]) (t := 44) 1 rfl).1)
        (try have f0 := (hb.frozen (p := ⟨w.heap.size, 0, none⟩) (by simp)).trans (Cell.box (w := w.drew) (cs := #[.int .i64 0, .bool false]) (t := 44) 0 rfl).2)
        (try have f1 := (hb.frozen (p := ⟨w.heap.size, 1, none⟩) (by simp)).trans (Cell.box (w := w.drew) (cs := #[.int .i64 0, .bool false]) (t := 44) 1 rfl).2)
        refine hK.out _ _ ?_ (fun hHeld => ?_)
        · exact HSS.out _ (by repeat (first | (with_reducible exact Below.refl _ _) | (with_reducible exact HB5.out) | (refine Below.drew ?_) | (refine Below.setCell ?_ (by first | (simp; done) | (have := HB5.out.size; simp; omega)) _) | (refine Below.alloc ?_ (by first | (simp; done) | (have := HB5.out.size; simp; omega)) _)))
        clear hK K
        (try simp only [Act.put, List.setIfInBounds_toArray, List.set_cons_zero, List.set_cons_succ, List.getElem_toArray, List.getElem_cons_zero, List.getElem_cons_succ])
        refine wpAnyH_take (i := 14) (oi := _) (v := ?vbhim14_21) rfl (by kernel_rfl) (by kernel_rfl) (by kernel_rfl) (fun _ _ _ h => h) (Or.inl ⟨by rfl, ?hybhim14_21⟩) (by assumption) ?restbhim14_21
        case hybhim14_21 => (intro w hSw; (try dsimp only at hSw); (try simp only [List.getElem_toArray, List.getElem_cons_zero, List.getElem_cons_succ]); go_simp; (try with_reducible rfl))
        (try simp only [Act.put, List.setIfInBounds_toArray, List.set_cons_zero, List.set_cons_succ, List.getElem_toArray, List.getElem_cons_zero, List.getElem_cons_succ])
        refine wpAnyH_take (i := 15) (oi := _) (v := ?vbhim15_22) rfl (by kernel_rfl) (by kernel_rfl) (by kernel_rfl) (fun _ _ _ h => h) (Or.inl ⟨by rfl, ?hybhim15_22⟩) (by assumption) ?restbhim15_22
        case hybhim15_22 => (intro w hSw; (try dsimp only at hSw); (try simp only [List.getElem_toArray, List.getElem_cons_zero, List.getElem_cons_succ]); go_simp; (try with_reducible rfl))
        (try simp only [Act.put, List.setIfInBounds_toArray, List.set_cons_zero, List.set_cons_succ, List.getElem_toArray, List.getElem_cons_zero, List.getElem_cons_succ])
        refine wpAnyH_take (i := 16) (oi := _) (v := ?vbhim16_23) rfl (by kernel_rfl) (by kernel_rfl) (by kernel_rfl) (fun _ _ _ h => h) (Or.inl ⟨by rfl, ?hybhim16_23⟩) (by assumption) ?restbhim16_23
        case hybhim16_23 => (intro w hSw; (try dsimp only at hSw); (try simp only [List.getElem_toArray, List.getElem_cons_zero, List.getElem_cons_succ]); go_simp; (try with_reducible rfl))
        (try simp only [Act.put, List.setIfInBounds_toArray, List.set_cons_zero, List.set_cons_succ, List.getElem_toArray, List.getElem_cons_zero, List.getElem_cons_succ])
        refine wpAnyH_ready (rs := [18]) (by kernel_rfl) (by simp) ?_
        refine AllReadyH.cons (o := _) rfl (fun K hK => ?_) AllReadyH.nil
        · (try simp only [List.getElem_toArray, List.getElem_cons_zero, List.getElem_cons_succ])
          go_simp
          refine hK.out _ _ ?_ (fun hHeld => ?_)
          · exact HSS.out _ (by repeat (first | (with_reducible exact Below.refl _ _) | (with_reducible exact HB5.out) | (refine Below.drew ?_) | (refine Below.setCell ?_ (by first | (simp; done) | (have := HB5.out.size; simp; omega)) _) | (refine Below.alloc ?_ (by first | (simp; done) | (have := HB5.out.size; simp; omega)) _)))
          clear hK K
          (try simp only [Act.put, List.setIfInBounds_toArray, List.set_cons_zero, List.set_cons_succ, List.getElem_toArray, List.getElem_cons_zero, List.getElem_cons_succ])
          refine wpAnyH_take (i := 19) (oi := _) (v := ?vbhim19_24) rfl (by kernel_rfl) (by kernel_rfl) (by kernel_rfl) (fun _ _ _ h => h) (Or.inl ⟨by rfl, ?hybhim19_24⟩) (by assumption) ?restbhim19_24
          case hybhim19_24 => (intro w hSw; (try dsimp only at hSw); (try simp only [List.getElem_toArray, List.getElem_cons_zero, List.getElem_cons_succ]); go_simp; (try with_reducible rfl))
          (try simp only [Act.put, List.setIfInBounds_toArray, List.set_cons_zero, List.set_cons_succ, List.getElem_toArray, List.getElem_cons_zero, List.getElem_cons_succ])
          refine wpAnyH_done (by kernel_rfl) ?_ _
          refine NoPanic.normal ?_
          go_wp2_with fail
          refine (HT.out _ (H.out.below (by repeat (first | (with_reducible exact Below.refl _ _) | (with_reducible exact HB5.out) | (refine Below.drew ?_) | (refine Below.setCell ?_ (by first | (simp; done) | (have := HB5.out.size; simp; omega)) _) | (refine Below.alloc ?_ (by first | (simp; done) | (have := HB5.out.size; simp; omega)) _))))).mono ?_
          rintro e w6 ⟨rfl, hp, hk⟩
          have HP := Lib.hid hp
          have HK := Lib.hid ((Keep.of_below (pown p L) (w := w) (by repeat (first | (with_reducible exact Below.refl _ _) | (with_reducible exact HB5.out) | (refine Below.drew ?_) | (refine Below.setCell ?_ (by first | (simp; done) | (have := HB5.out.size; simp; omega)) _) | (refine Below.alloc ?_ (by first | (simp; done) | (have := HB5.out.size; simp; omega)) _)))).trans hk (fun _ _ x => x))
          clear hp hk
          go_wp2_with fail
          go_ret
          refine ⟨by rw [HR.out.1]; rfl, ?_, HK.out⟩
          rw [HR.out.2]
          exact HP.out
end Go.Proofs.Ytmkgcmnimpkmjaa
