/- pact's turn: a side is set, and told. Own work. -/
import Derived.Test.YtmkgcmnimpkmjaaPactA
import Derived.Test.YtmkgcmnimpkmjaaWireFn
import Derived.Deep.RegionLaw
namespace Go.Proofs.Ytmkgcmnimpkmjaa
set_option linter.unusedVariables false
set_option linter.unusedSimpArgs false
open Go.RowKit

def offY : Bool → Nat
  | true => 5
  | false => 9

/-- The map set anew. -/
theorem PactAt.putMap {w w' : World} {p : Nat} {L : Blk} {name : ByteArray} {d l : Int} {m : Pm} (h : PactAt w p L name d l m) (o : Int) (v : Int × Bool) :
    (Sides w' L.b1 (m.g + 1) (setS m.us o v) → Keep (· = L.b1) w w' → PactAt w' p L name d l (m.turn true o v 0)) ∧ (Sides w' L.b2 (m.g + 1) (setS m.him o v) → Keep (· = L.b2) w w' → PactAt w' p L name d l (m.turn false o v 0)) := by
  obtain ⟨n1, n2, n3, n4, n5, n6, n7, n8, n9⟩ := h.ne
  refine ⟨fun hs k => ⟨?_, h.i1.keepS k n6, h.i2.keepS k n8, hs, (h.m2.keep k (fun e => n1 e.symm)).mono (Nat.le_succ _), h.ne⟩, fun hs k => ⟨?_, h.i1.keepS k n7, h.i2.keepS k n9, (h.m1.keep k n1).mono (Nat.le_succ _), hs, h.ne⟩⟩
  · exact h.cs.keep k n2
  · exact h.cs.keep k n3
/-- One more is told. -/
theorem PactAt.more {w : World} {p : Nat} {L : Blk} {name : ByteArray} {d l : Int} {m : Pm} {y : Bool} {o : Int} {v : Int × Bool} (h : PactAt w p L name d l (m.turn y o v 0)) {n : Int} (hn : n ≠ 0) {w' : World} (hs : SetTo p 4 (.int .i64 ((m.sent + 1 : Nat) : Int)) w w') :
    PactAt w' p L name d l (m.turn y o v n) := by
  obtain ⟨k, rfl⟩ := hs
  refine (h.cells ((keep_set w p 4 _).drewN k) ?_ (by cases y <;> rfl) (by cases y <;> rfl) (by cases y <;> simp [Pm.turn]))
  have hc := h.cs.set 4 (by simp [pcs]) (.int .i64 ((m.sent + 1 : Nat) : Int))
  cases y <;> simp only [Pm.turn, hn, if_false, pcs, List.set_cons_succ, List.set_cons_zero] at hc ⊢ <;> exact hc

theorem one_sum : tot [1] = 1 := by rw [tot, wrap64_id] <;> decide

set_option maxRecDepth 100000 in
set_option maxHeartbeats 3200000 in
theorem turn_us (p : Nat) (L : Blk) (name : ByteArray) (d l : Int) (m : Pm) (o : Nat) (s : Int) (t : Bool) (n : Int) (w : World) (h : PactAt w p L name d l m) (ho : o ≤ 255) (hg : m.g < 1000000) (hs : m.sent < 1000000) :
    Calls Try.prog 50 #[.pointer (some ⟨p, 0, none⟩), .pointer (some ⟨p, 5, none⟩), .int .i64 (o : Int), .agg #[.int .i64 s, .bool t], .int .i64 n] w fun e w' =>
      e = .returned (.string ⟨(cmdL true o n).toArray⟩) ∧ PactAt w' p L name d l (m.turn true o (s, t) n) ∧ Keep (pown p L) w w' := by
  have hA := h.alloc (.cells #[.int .i64 s, .bool t] 44)
  have hp := h.lt
  have hlt := h.lts
  have hwf : (Lit.int .i64 (o : Int)).wf = true := by simp [Lit.wf, IntKind.min, IntKind.max, IntKind.signed, IntKind.bits]; omega
  have c1 := (hA.cs 8 _ rfl).1
  have b0 := (Cell.box (w := w) (cs := #[.int .i64 s, .bool t]) (t := 44) 0 rfl).1
  have b1 := (Cell.box (w := w) (cs := #[.int .i64 s, .bool t]) (t := 44) 1 rfl).1
  have H := Lib.hid hA.drew
  have KA : Hid (Keep (pown p L) w (w.alloc (.cells #[.int .i64 s, .bool t] 44)).drew) := Lib.hid ((Keep.refl _ w).alloc _).drew
  have HG := Lib.hid hg
  have HS := Lib.hid hs
  have HLT := Lib.hid hlt
  have HWF := Lib.hid hwf
  clear h hA hg hs hlt hwf
  go_enter Try.func50, Try.ntmps50
  go_wp2_with fail
  refine wp_region_noPanic ?_
  refine wp_region_held_drew (S := fun w' => w'.cell? ⟨p, 8, none⟩ = some (.map (some L.b1)) ∧ w'.cell? ⟨w.heap.size, 0, none⟩ = some (.int .i64 s) ∧ w'.cell? ⟨w.heap.size, 1, none⟩ = some (.bool t)) (by kernel_rfl) ⟨c1, b0, b1⟩ (fun hHeld => ?_)
  refine wpAnyH_take (i := 0) (oi := _) (v := ?vaus0) rfl (by kernel_rfl) (by kernel_rfl) (by kernel_rfl) (fun _ _ _ h => h) (Or.inl ⟨by rfl, ?hyaus0⟩) (by assumption) ?restaus0
  case hyaus0 => (intro w hSw; (try dsimp only at hSw); (try simp only [List.getElem_toArray, List.getElem_cons_zero, List.getElem_cons_succ]); go_simp; (try with_reducible rfl))
  (try simp only [Act.put, List.setIfInBounds_toArray, List.set_cons_zero, List.set_cons_succ, List.getElem_toArray, List.getElem_cons_zero, List.getElem_cons_succ])
  refine wpAnyH_take (i := 1) (oi := _) (v := ?vaus1) rfl (by kernel_rfl) (by kernel_rfl) (by kernel_rfl) (fun _ _ _ h => h) (Or.inl ⟨by rfl, ?hyaus1⟩) (by assumption) ?restaus1
  case hyaus1 => (intro w hSw; (try dsimp only at hSw); (try simp only [List.getElem_toArray, List.getElem_cons_zero, List.getElem_cons_succ]); go_simp; (try with_reducible rfl))
  (try simp only [Act.put, List.setIfInBounds_toArray, List.set_cons_zero, List.set_cons_succ, List.getElem_toArray, List.getElem_cons_zero, List.getElem_cons_succ])
  refine wpAnyH_take (i := 2) (oi := _) (v := ?vaus2) rfl (by kernel_rfl) (by kernel_rfl) (by kernel_rfl) (fun _ _ _ h => h) (Or.inl ⟨by rfl, ?hyaus2⟩) (by assumption) ?restaus2
  case hyaus2 => (intro w hSw; (try dsimp only at hSw); (try simp only [List.getElem_toArray, List.getElem_cons_zero, List.getElem_cons_succ]); go_simp; (try with_reducible rfl))
  (try simp only [Act.put, List.setIfInBounds_toArray, List.set_cons_zero, List.set_cons_succ, List.getElem_toArray, List.getElem_cons_zero, List.getElem_cons_succ])
  refine wpAnyH_take (i := 3) (oi := _) (v := ?vaus3) rfl (by kernel_rfl) (by kernel_rfl) (by kernel_rfl) (fun _ _ _ h => h) (Or.inl ⟨by rfl, ?hyaus3⟩) (by assumption) ?restaus3
  case hyaus3 => (intro w hSw; (try dsimp only at hSw); (try simp only [List.getElem_toArray, List.getElem_cons_zero, List.getElem_cons_succ]); go_simp; (try with_reducible rfl))
  (try simp only [Act.put, List.setIfInBounds_toArray, List.set_cons_zero, List.set_cons_succ, List.getElem_toArray, List.getElem_cons_zero, List.getElem_cons_succ])
  refine wpAnyH_take (i := 4) (oi := _) (v := ?vaus4) rfl (by kernel_rfl) (by kernel_rfl) (by kernel_rfl) (fun _ _ _ h => h) (Or.inl ⟨by rfl, ?hyaus4⟩) (by assumption) ?restaus4
  case hyaus4 => (intro w hSw; (try dsimp only at hSw); (try simp only [List.getElem_toArray, List.getElem_cons_zero, List.getElem_cons_succ]); go_simp; (try with_reducible rfl))
  (try simp only [Act.put, List.setIfInBounds_toArray, List.set_cons_zero, List.set_cons_succ, List.getElem_toArray, List.getElem_cons_zero, List.getElem_cons_succ])
  refine wpAnyH_take (i := 5) (oi := _) (v := ?vaus5) rfl (by kernel_rfl) (by kernel_rfl) (by kernel_rfl) (fun _ _ _ h => h) (Or.inl ⟨by rfl, ?hyaus5⟩) (by assumption) ?restaus5
  case hyaus5 => (intro w hSw; (try dsimp only at hSw); (try simp only [List.getElem_toArray, List.getElem_cons_zero, List.getElem_cons_succ]); go_simp; (try with_reducible rfl))
  (try simp only [Act.put, List.setIfInBounds_toArray, List.set_cons_zero, List.set_cons_succ, List.getElem_toArray, List.getElem_cons_zero, List.getElem_cons_succ])
  refine wpAnyH_ready (rs := [6]) (by kernel_rfl) (by simp) ?_
  refine AllReadyH.cons (o := _) rfl (fun K hK => ?_) AllReadyH.nil
  (try simp only [List.getElem_toArray, List.getElem_cons_zero, List.getElem_cons_succ])
  (rw [if_pos (by rfl)]; refine H.out.m1.put HG.out (.tmp 17) (.tmp 18) (.tmp 19) rfl rfl (o : Int) HWF.out rfl (s, t) rfl ?_; intro w3 hm hk; have hP := (H.out.putMap (o : Int) (s, t)).1 hm hk; have HP := Lib.hid hP; have HK : Hid (Keep (pown p L) w w3) := Lib.hid (KA.out.trans hk (fun i _ e => by subst e; exact .inr (.inl rfl))); have k8 := (hP.cs 8 _ rfl).1; have e0 := (hk.cell (p := ⟨w.heap.size, 0, none⟩) (by simp) (by have := HLT.out; simp; omega)).trans b0; have e1 := (hk.cell (p := ⟨w.heap.size, 1, none⟩) (by simp) (by have := HLT.out; simp; omega)).trans b1; clear hm hk hP)
  refine hK.out _ _ ?_ (fun hHeld => ?_)
  · exact ⟨k8, e0, e1⟩
  clear hK K
  (try simp only [Act.put, List.setIfInBounds_toArray, List.set_cons_zero, List.set_cons_succ, List.getElem_toArray, List.getElem_cons_zero, List.getElem_cons_succ])
  refine wpAnyH_done (by kernel_rfl) ?_ _
  refine NoPanic.normal ?_
  clear c1 b0 b1 H KA k8 e0 e1
  by_cases hn : n = 0
  · subst hn
    have HC := Lib.hid (show cmdL true o 0 = [] from rfl)
    go_wp2_with fail
    go_ret
    exact ⟨by rw [HC.out]; rfl, HP.out, HK.out⟩
  · have hn1 : (n == 0) = false := by simpa using hn
    have x0 := (HP.out.cs 5 _ rfl).1
    have x1 := (HP.out.cs 6 _ rfl).1
    have hpl := HP.out.lt
    have HT : Hid (TalAt (w3.alloc (.cells #[.int .i64 1] 3)) p 4 (m.sent : Int)) := Lib.hid (by have q := (HP.out.alloc (.cells #[.int .i64 1] 3)).cs 4 _ rfl; exact ⟨q.1, q.2⟩)
    have HA := Lib.hid (HP.out.alloc (.cells #[.int .i64 1] 3))
    have HI : Hid (Ints (w3.alloc (.cells #[.int .i64 1] 3)) (some ⟨w3.heap.size, 0, none⟩) 1 [1]) := Lib.hid ⟨rfl, fun _ => ⟨_, 0, rfl, by simp, fun i x hx => by
      rcases i with _ | i
      · simp at hx; subst hx; exact (Cell.box (w := w3) (cs := #[.int .i64 1]) (t := 3) 0 rfl).1
      · simp at hx⟩, by simp, by unfold maxLen; omega⟩
    have HADD := Lib.hid (tadd_any p 4 (m.sent : Int) (some ⟨w3.heap.size, 0, none⟩) 1 1 [1] _ HT.out HI.out)
    rw [one_sum, wrap64_id (by omega) (by have := HS.out; omega)] at HADD
    have HMORE := Lib.hid (fun W (q : SetTo p 4 (.int .i64 ((m.sent + 1 : Nat) : Int)) (w3.alloc (.cells #[.int .i64 1] 3)) W) => HA.out.more hn q)
    by_cases h0 : 0 < n
    · have HC := Lib.hid (show cmdL true o n = optL 251 o by unfold cmdL; rw [if_neg hn, if_pos h0]; rfl)
      have HW := Lib.hid (fun W => wire_option 251 o W (by omega) (by omega) ho)
      clear hn
      go_wp2_with fail
      refine HADD.out.mono ?_
      rintro e w4 ⟨rfl, hq⟩
      have H4 := Lib.hid (HMORE.out w4 hq)
      have K4 : Hid (Keep (pown p L) w w4) := Lib.hid ((HK.out.alloc _).trans hq.keep (fun i _ e => .inl e))
      clear hq
      go_wp2_with fail
      refine (HW.out w4).mono ?_
      rintro e w5 ⟨rfl, hb⟩
      have HB := Lib.hid hb
      clear hb
      go_wp2_with fail
      go_ret
      exact ⟨by rw [HC.out]; rfl, H4.out.below HB.out, K4.out.trans (Keep.of_below (pown p L) HB.out) (fun _ _ x => x)⟩
    · have HC := Lib.hid (show cmdL true o n = optL 252 o by unfold cmdL; rw [if_neg hn, if_neg h0]; rfl)
      have HW := Lib.hid (fun W => wire_option 252 o W (by omega) (by omega) ho)
      clear hn
      go_wp2_with fail
      refine HADD.out.mono ?_
      rintro e w4 ⟨rfl, hq⟩
      have H4 := Lib.hid (HMORE.out w4 hq)
      have K4 : Hid (Keep (pown p L) w w4) := Lib.hid ((HK.out.alloc _).trans hq.keep (fun i _ e => .inl e))
      clear hq
      go_wp2_with fail
      refine (HW.out w4).mono ?_
      rintro e w5 ⟨rfl, hb⟩
      have HB := Lib.hid hb
      clear hb
      go_wp2_with fail
      go_ret
      exact ⟨by rw [HC.out]; rfl, H4.out.below HB.out, K4.out.trans (Keep.of_below (pown p L) HB.out) (fun _ _ x => x)⟩

set_option maxRecDepth 100000 in
set_option maxHeartbeats 3200000 in
theorem turn_him (p : Nat) (L : Blk) (name : ByteArray) (d l : Int) (m : Pm) (o : Nat) (s : Int) (t : Bool) (n : Int) (w : World) (h : PactAt w p L name d l m) (ho : o ≤ 255) (hg : m.g < 1000000) (hs : m.sent < 1000000) :
    Calls Try.prog 50 #[.pointer (some ⟨p, 0, none⟩), .pointer (some ⟨p, 9, none⟩), .int .i64 (o : Int), .agg #[.int .i64 s, .bool t], .int .i64 n] w fun e w' =>
      e = .returned (.string ⟨(cmdL false o n).toArray⟩) ∧ PactAt w' p L name d l (m.turn false o (s, t) n) ∧ Keep (pown p L) w w' := by
  have hA := h.alloc (.cells #[.int .i64 s, .bool t] 44)
  have hp := h.lt
  have hlt := h.lts
  have hwf : (Lit.int .i64 (o : Int)).wf = true := by simp [Lit.wf, IntKind.min, IntKind.max, IntKind.signed, IntKind.bits]; omega
  have c1 := (hA.cs 12 _ rfl).1
  have b0 := (Cell.box (w := w) (cs := #[.int .i64 s, .bool t]) (t := 44) 0 rfl).1
  have b1 := (Cell.box (w := w) (cs := #[.int .i64 s, .bool t]) (t := 44) 1 rfl).1
  have H := Lib.hid hA.drew
  have KA : Hid (Keep (pown p L) w (w.alloc (.cells #[.int .i64 s, .bool t] 44)).drew) := Lib.hid ((Keep.refl _ w).alloc _).drew
  have HG := Lib.hid hg
  have HS := Lib.hid hs
  have HLT := Lib.hid hlt
  have HWF := Lib.hid hwf
  clear h hA hg hs hlt hwf
  go_enter Try.func50, Try.ntmps50
  go_wp2_with fail
  refine wp_region_noPanic ?_
  refine wp_region_held_drew (S := fun w' => w'.cell? ⟨p, 12, none⟩ = some (.map (some L.b2)) ∧ w'.cell? ⟨w.heap.size, 0, none⟩ = some (.int .i64 s) ∧ w'.cell? ⟨w.heap.size, 1, none⟩ = some (.bool t)) (by kernel_rfl) ⟨c1, b0, b1⟩ (fun hHeld => ?_)
  refine wpAnyH_take (i := 0) (oi := _) (v := ?vahim0) rfl (by kernel_rfl) (by kernel_rfl) (by kernel_rfl) (fun _ _ _ h => h) (Or.inl ⟨by rfl, ?hyahim0⟩) (by assumption) ?restahim0
  case hyahim0 => (intro w hSw; (try dsimp only at hSw); (try simp only [List.getElem_toArray, List.getElem_cons_zero, List.getElem_cons_succ]); go_simp; (try with_reducible rfl))
  (try simp only [Act.put, List.setIfInBounds_toArray, List.set_cons_zero, List.set_cons_succ, List.getElem_toArray, List.getElem_cons_zero, List.getElem_cons_succ])
  refine wpAnyH_take (i := 1) (oi := _) (v := ?vahim1) rfl (by kernel_rfl) (by kernel_rfl) (by kernel_rfl) (fun _ _ _ h => h) (Or.inl ⟨by rfl, ?hyahim1⟩) (by assumption) ?restahim1
  case hyahim1 => (intro w hSw; (try dsimp only at hSw); (try simp only [List.getElem_toArray, List.getElem_cons_zero, List.getElem_cons_succ]); go_simp; (try with_reducible rfl))
  (try simp only [Act.put, List.setIfInBounds_toArray, List.set_cons_zero, List.set_cons_succ, List.getElem_toArray, List.getElem_cons_zero, List.getElem_cons_succ])
  refine wpAnyH_take (i := 2) (oi := _) (v := ?vahim2) rfl (by kernel_rfl) (by kernel_rfl) (by kernel_rfl) (fun _ _ _ h => h) (Or.inl ⟨by rfl, ?hyahim2⟩) (by assumption) ?restahim2
  case hyahim2 => (intro w hSw; (try dsimp only at hSw); (try simp only [List.getElem_toArray, List.getElem_cons_zero, List.getElem_cons_succ]); go_simp; (try with_reducible rfl))
  (try simp only [Act.put, List.setIfInBounds_toArray, List.set_cons_zero, List.set_cons_succ, List.getElem_toArray, List.getElem_cons_zero, List.getElem_cons_succ])
  refine wpAnyH_take (i := 3) (oi := _) (v := ?vahim3) rfl (by kernel_rfl) (by kernel_rfl) (by kernel_rfl) (fun _ _ _ h => h) (Or.inl ⟨by rfl, ?hyahim3⟩) (by assumption) ?restahim3
  case hyahim3 => (intro w hSw; (try dsimp only at hSw); (try simp only [List.getElem_toArray, List.getElem_cons_zero, List.getElem_cons_succ]); go_simp; (try with_reducible rfl))
  (try simp only [Act.put, List.setIfInBounds_toArray, List.set_cons_zero, List.set_cons_succ, List.getElem_toArray, List.getElem_cons_zero, List.getElem_cons_succ])
  refine wpAnyH_take (i := 4) (oi := _) (v := ?vahim4) rfl (by kernel_rfl) (by kernel_rfl) (by kernel_rfl) (fun _ _ _ h => h) (Or.inl ⟨by rfl, ?hyahim4⟩) (by assumption) ?restahim4
  case hyahim4 => (intro w hSw; (try dsimp only at hSw); (try simp only [List.getElem_toArray, List.getElem_cons_zero, List.getElem_cons_succ]); go_simp; (try with_reducible rfl))
  (try simp only [Act.put, List.setIfInBounds_toArray, List.set_cons_zero, List.set_cons_succ, List.getElem_toArray, List.getElem_cons_zero, List.getElem_cons_succ])
  refine wpAnyH_take (i := 5) (oi := _) (v := ?vahim5) rfl (by kernel_rfl) (by kernel_rfl) (by kernel_rfl) (fun _ _ _ h => h) (Or.inl ⟨by rfl, ?hyahim5⟩) (by assumption) ?restahim5
  case hyahim5 => (intro w hSw; (try dsimp only at hSw); (try simp only [List.getElem_toArray, List.getElem_cons_zero, List.getElem_cons_succ]); go_simp; (try with_reducible rfl))
  (try simp only [Act.put, List.setIfInBounds_toArray, List.set_cons_zero, List.set_cons_succ, List.getElem_toArray, List.getElem_cons_zero, List.getElem_cons_succ])
  refine wpAnyH_ready (rs := [6]) (by kernel_rfl) (by simp) ?_
  refine AllReadyH.cons (o := _) rfl (fun K hK => ?_) AllReadyH.nil
  (try simp only [List.getElem_toArray, List.getElem_cons_zero, List.getElem_cons_succ])
  (rw [if_pos (by rfl)]; refine H.out.m2.put HG.out (.tmp 17) (.tmp 18) (.tmp 19) rfl rfl (o : Int) HWF.out rfl (s, t) rfl ?_; intro w3 hm hk; have hP := (H.out.putMap (o : Int) (s, t)).2 hm hk; have HP := Lib.hid hP; have HK : Hid (Keep (pown p L) w w3) := Lib.hid (KA.out.trans hk (fun i _ e => by subst e; exact .inr (.inr rfl))); have k8 := (hP.cs 12 _ rfl).1; have e0 := (hk.cell (p := ⟨w.heap.size, 0, none⟩) (by simp) (by have := HLT.out; simp; omega)).trans b0; have e1 := (hk.cell (p := ⟨w.heap.size, 1, none⟩) (by simp) (by have := HLT.out; simp; omega)).trans b1; clear hm hk hP)
  refine hK.out _ _ ?_ (fun hHeld => ?_)
  · exact ⟨k8, e0, e1⟩
  clear hK K
  (try simp only [Act.put, List.setIfInBounds_toArray, List.set_cons_zero, List.set_cons_succ, List.getElem_toArray, List.getElem_cons_zero, List.getElem_cons_succ])
  refine wpAnyH_done (by kernel_rfl) ?_ _
  refine NoPanic.normal ?_
  clear c1 b0 b1 H KA k8 e0 e1
  by_cases hn : n = 0
  · subst hn
    have HC := Lib.hid (show cmdL false o 0 = [] from rfl)
    go_wp2_with fail
    go_ret
    exact ⟨by rw [HC.out]; rfl, HP.out, HK.out⟩
  · have hn1 : (n == 0) = false := by simpa using hn
    have x0 := (HP.out.cs 9 _ rfl).1
    have x1 := (HP.out.cs 10 _ rfl).1
    have hpl := HP.out.lt
    have HT : Hid (TalAt (w3.alloc (.cells #[.int .i64 1] 3)) p 4 (m.sent : Int)) := Lib.hid (by have q := (HP.out.alloc (.cells #[.int .i64 1] 3)).cs 4 _ rfl; exact ⟨q.1, q.2⟩)
    have HA := Lib.hid (HP.out.alloc (.cells #[.int .i64 1] 3))
    have HI : Hid (Ints (w3.alloc (.cells #[.int .i64 1] 3)) (some ⟨w3.heap.size, 0, none⟩) 1 [1]) := Lib.hid ⟨rfl, fun _ => ⟨_, 0, rfl, by simp, fun i x hx => by
      rcases i with _ | i
      · simp at hx; subst hx; exact (Cell.box (w := w3) (cs := #[.int .i64 1]) (t := 3) 0 rfl).1
      · simp at hx⟩, by simp, by unfold maxLen; omega⟩
    have HADD := Lib.hid (tadd_any p 4 (m.sent : Int) (some ⟨w3.heap.size, 0, none⟩) 1 1 [1] _ HT.out HI.out)
    rw [one_sum, wrap64_id (by omega) (by have := HS.out; omega)] at HADD
    have HMORE := Lib.hid (fun W (q : SetTo p 4 (.int .i64 ((m.sent + 1 : Nat) : Int)) (w3.alloc (.cells #[.int .i64 1] 3)) W) => HA.out.more hn q)
    by_cases h0 : 0 < n
    · have HC := Lib.hid (show cmdL false o n = optL 253 o by unfold cmdL; rw [if_neg hn, if_pos h0]; rfl)
      have HW := Lib.hid (fun W => wire_option 253 o W (by omega) (by omega) ho)
      clear hn
      go_wp2_with fail
      refine HADD.out.mono ?_
      rintro e w4 ⟨rfl, hq⟩
      have H4 := Lib.hid (HMORE.out w4 hq)
      have K4 : Hid (Keep (pown p L) w w4) := Lib.hid ((HK.out.alloc _).trans hq.keep (fun i _ e => .inl e))
      clear hq
      go_wp2_with fail
      refine (HW.out w4).mono ?_
      rintro e w5 ⟨rfl, hb⟩
      have HB := Lib.hid hb
      clear hb
      go_wp2_with fail
      go_ret
      exact ⟨by rw [HC.out]; rfl, H4.out.below HB.out, K4.out.trans (Keep.of_below (pown p L) HB.out) (fun _ _ x => x)⟩
    · have HC := Lib.hid (show cmdL false o n = optL 254 o by unfold cmdL; rw [if_neg hn, if_neg h0]; rfl)
      have HW := Lib.hid (fun W => wire_option 254 o W (by omega) (by omega) ho)
      clear hn
      go_wp2_with fail
      refine HADD.out.mono ?_
      rintro e w4 ⟨rfl, hq⟩
      have H4 := Lib.hid (HMORE.out w4 hq)
      have K4 : Hid (Keep (pown p L) w w4) := Lib.hid ((HK.out.alloc _).trans hq.keep (fun i _ e => .inl e))
      clear hq
      go_wp2_with fail
      refine (HW.out w4).mono ?_
      rintro e w5 ⟨rfl, hb⟩
      have HB := Lib.hid hb
      clear hb
      go_wp2_with fail
      go_ret
      exact ⟨by rw [HC.out]; rfl, H4.out.below HB.out, K4.out.trans (Keep.of_below (pown p L) HB.out) (fun _ _ x => x)⟩

end Go.Proofs.Ytmkgcmnimpkmjaa
