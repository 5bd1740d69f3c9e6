/- pact's Size. Own work. -/
import Derived.Test.YtmkgcmnimpkmjaaPactE
namespace Go.Proofs.Ytmkgcmnimpkmjaa
set_option linter.unusedVariables false
set_option linter.unusedSimpArgs false
open Go.RowKit

section
variable (p : Nat) (L : Blk) (name : ByteArray) (d l : Int) (m : Pm) (w : World)

theorem size_nil (a b : Int) : Calls Try.prog 11 #[.pointer none, .int .i64 a, .int .i64 b] w fun e w' => e = .returned (.string ⟨#[]⟩) ∧ w = w' := by
  go_enter Try.func11, Try.ntmps11
  go_wp2_with fail
  refine (pready_nil _).mono ?_
  rintro e w1 ⟨rfl, rfl⟩
  go_wp2_with fail
  go_ret
  exact ⟨rfl, rfl⟩

theorem PactAt.sized (h : PactAt w p L name d l m) (a b : Int) : PactAt ((w.setCell ⟨p, 14, none⟩ (.int .i64 (sz a : Nat))).setCell ⟨p, 15, none⟩ (.int .i64 (sz b : Nat))) p L name d l (m.sized a b) := by
  refine h.cells ((keep_set w p 14 _).own 15 _) ?_ rfl rfl (Nat.le_refl _)
  exact (h.cs.set 14 (by simp [pcs]) _).set 15 (by simp [pcs]) _

set_option maxRecDepth 100000 in
set_option maxHeartbeats 3200000 in
theorem size_off (a b : Int) (h : PactAt w p L name d l m) (h1 : ((m.us 31).1 == 1) = false) :
    Calls Try.prog 11 #[.pointer (some ⟨p, 0, none⟩), .int .i64 a, .int .i64 b] w fun e w' => e = .returned (.string ⟨#[]⟩) ∧ PactAt w' p L name d l (m.sized a b) ∧ Keep (pown p L) w w' := by
  have c14 := fun W (q : PactAt W p L name d l m) => q.cs 14 _ rfl
  have c15 := fun W (q : PactAt W p L name d l m) => q.cs 15 _ rfl
  have HI := Lib.hid (fun W (q : PactAt W p L name d l (m.sized a b)) => isOn_us p L name d l (m.sized a b) W 31 (by rfl) false h1 q)
  have HT := Lib.hid (fun W (q : PactAt W p L name d l (m.sized a b)) => tellSize_any p L name d l _ W q (sz_le a) (sz_le b))
  have HS : Hid (∀ W, PactAt W p L name d l m → PactAt ((W.setCell ⟨p, 14, none⟩ (.int .i64 (sz a : Nat))).setCell ⟨p, 15, none⟩ (.int .i64 (sz b : Nat))) p L name d l (m.sized a b)) := Lib.hid (fun W q => PactAt.sized p L name d l m W q a b)
  have H := Lib.hid h
  have hp := h.lt
  obtain ⟨x, hx⟩ : ∃ x, x = sz a := ⟨_, rfl⟩
  obtain ⟨y, hy⟩ : ∃ y, y = sz b := ⟨_, rfl⟩
  have HSA := Lib.hid (fun W => sizeOf_any a b W)
  have HSS : Hid (∀ W, PactAt W p L name d l (m.sized a b) → W.cell? ⟨p, 14, none⟩ = some (.int .i64 (x : Nat)) ∧ W.cell? ⟨p, 15, none⟩ = some (.int .i64 (y : Nat)) ∧ W.cell? ⟨p, 16, none⟩ = some (.int .i64 (m.tw : Int)) ∧ W.cell? ⟨p, 17, none⟩ = some (.int .i64 (m.th : Int))) := Lib.hid (fun W q => by rw [hx, hy]; exact ⟨(q.cs 14 _ rfl).1, (q.cs 15 _ rfl).1, (q.cs 16 _ rfl).1, (q.cs 17 _ rfl).1⟩)
  rw [← hx, ← hy] at HSA HS
  generalize m.tw = tw at *
  generalize m.th = th at *
  clear h h1 hx hy
  go_enter Try.func11, Try.ntmps11
  go_wp2_with fail
  refine (pready_any p L name d l m _ H.out).mono ?_
  rintro e w1 ⟨rfl, rfl⟩
  go_wp2_with fail
  refine (HSA.out _).mono ?_
  rintro e w1 ⟨rfl, hb⟩
  have H1 := Lib.hid (H.out.below hb)
  have B1 := Lib.hid hb
  have x14 := (c14 _ H1.out).1
  have y14 := (c14 _ H1.out).2
  have x15 := (c15 _ H1.out).1
  have y15 := (c15 _ H1.out).2
  have hp1 := H1.out.lt
  clear hb c14 c15
  go_wp2_with fail
  obtain ⟨W0, hW0⟩ : ∃ W0, W0 = (w1.setCell ⟨p, 14, none⟩ (.int .i64 (x : Nat))).setCell ⟨p, 15, none⟩ (.int .i64 (y : Nat)) := ⟨_, rfl⟩
  have H2 : Hid (PactAt W0 p L name d l (m.sized a b)) := Lib.hid (by rw [hW0]; exact HS.out _ H1.out)
  have K2 : Hid (Keep (pown p L) w W0) := Lib.hid (by rw [hW0]; exact (Keep.of_below (pown p L) B1.out).trans (((keep_set w1 p 14 _).own 15 _).mono (S' := pown p L) (fun i _ e => .inl e)) (fun _ _ x => x))
  rw [← hW0]
  clear hW0 x14 x15 y14 y15 H1 B1 HS
  refine wp_region_noPanic ?_
  refine wp_region_held_drew (S := fun W => W.cell? ⟨p, 14, none⟩ = some (.int .i64 (x : Nat)) ∧ W.cell? ⟨p, 15, none⟩ = some (.int .i64 (y : Nat)) ∧ W.cell? ⟨p, 16, none⟩ = some (.int .i64 (tw : Int)) ∧ W.cell? ⟨p, 17, none⟩ = some (.int .i64 (th : Int))) (by kernel_rfl) (HSS.out _ H2.out.drew) (fun hHeld => ?_)
  refine wpAnyH_take (i := 0) (oi := _) (v := ?vsa0) rfl (by kernel_rfl) (by kernel_rfl) (by kernel_rfl) (fun _ _ _ h => h) (Or.inl ⟨by rfl, ?hysa0⟩) (by assumption) ?restsa0
  case hysa0 => (intro w hSw; (try dsimp only at hSw); (try simp only [List.getElem_toArray, List.getElem_cons_zero, List.getElem_cons_succ]); go_simp; (try with_reducible rfl))
  (try simp only [Act.put, List.setIfInBounds_toArray, List.set_cons_zero, List.set_cons_succ, List.getElem_toArray, List.getElem_cons_zero, List.getElem_cons_succ])
  refine wpAnyH_take (i := 1) (oi := _) (v := ?vsa1) rfl (by kernel_rfl) (by kernel_rfl) (by kernel_rfl) (fun _ _ _ h => h) (Or.inl ⟨by rfl, ?hysa1⟩) (by assumption) ?restsa1
  case hysa1 => (intro w hSw; (try dsimp only at hSw); (try simp only [List.getElem_toArray, List.getElem_cons_zero, List.getElem_cons_succ]); go_simp; (try with_reducible rfl))
  (try simp only [Act.put, List.setIfInBounds_toArray, List.set_cons_zero, List.set_cons_succ, List.getElem_toArray, List.getElem_cons_zero, List.getElem_cons_succ])
  refine wpAnyH_take (i := 2) (oi := _) (v := ?vsa2) rfl (by kernel_rfl) (by kernel_rfl) (by kernel_rfl) (fun _ _ _ h => h) (Or.inl ⟨by rfl, ?hysa2⟩) (by assumption) ?restsa2
  case hysa2 => (intro w hSw; (try dsimp only at hSw); (try simp only [List.getElem_toArray, List.getElem_cons_zero, List.getElem_cons_succ]); go_simp; (try with_reducible rfl))
  (try simp only [Act.put, List.setIfInBounds_toArray, List.set_cons_zero, List.set_cons_succ, List.getElem_toArray, List.getElem_cons_zero, List.getElem_cons_succ])
  refine wpAnyH_ready (rs := [3]) (by kernel_rfl) (by simp) ?_
  refine AllReadyH.cons (o := _) rfl (fun K hK => ?_) AllReadyH.nil
  (try simp only [List.getElem_toArray, List.getElem_cons_zero, List.getElem_cons_succ])
  go_simp
  go_at_call 27; refine (HI.out _ H2.out.drew).mono ?_; rintro e w2 ⟨rfl, hb⟩; have H3 := Lib.hid (H2.out.drew.below hb); have K3 : Hid (Keep (pown p L) w w2) := Lib.hid (K2.out.drew.trans (Keep.of_below (pown p L) hb) (fun _ _ x => x)); clear hb
  refine hK.out _ _ ?_ (fun hHeld => ?_)
  · exact HSS.out _ H3.out
  clear hK K
  (try simp only [Act.put, List.setIfInBounds_toArray, List.set_cons_zero, List.set_cons_succ, List.getElem_toArray, List.getElem_cons_zero, List.getElem_cons_succ])
  refine wpAnyH_take (i := 4) (oi := _) (v := ?vsa4) rfl (by kernel_rfl) (by kernel_rfl) (by kernel_rfl) (fun _ _ _ h => h) (Or.inl ⟨by rfl, ?hysa4⟩) (by assumption) ?restsa4
  case hysa4 => (intro w hSw; (try dsimp only at hSw); (try simp only [List.getElem_toArray, List.getElem_cons_zero, List.getElem_cons_succ]); go_simp; (try with_reducible rfl))
  (try simp only [Act.put, List.setIfInBounds_toArray, List.set_cons_zero, List.set_cons_succ, List.getElem_toArray, List.getElem_cons_zero, List.getElem_cons_succ])
  refine wpAnyH_take (i := 5) (oi := _) (v := ?vsa5) rfl (by kernel_rfl) (by kernel_rfl) (by kernel_rfl) (fun _ _ _ h => h) (Or.inl ⟨by rfl, ?hysa5⟩) (by assumption) ?restsa5
  case hysa5 => (intro w hSw; (try dsimp only at hSw); (try simp only [List.getElem_toArray, List.getElem_cons_zero, List.getElem_cons_succ]); go_simp; (try with_reducible rfl))
  (try simp only [Act.put, List.setIfInBounds_toArray, List.set_cons_zero, List.set_cons_succ, List.getElem_toArray, List.getElem_cons_zero, List.getElem_cons_succ])
  refine wpAnyH_take (i := 6) (oi := _) (v := undef) rfl (by kernel_rfl) (by kernel_rfl) (by kernel_rfl) (fun _ _ _ h => h) (Or.inr ⟨by rfl, rfl⟩) (by assumption) ?_
  (try simp only [Act.put, List.setIfInBounds_toArray, List.set_cons_zero, List.set_cons_succ, List.getElem_toArray, List.getElem_cons_zero, List.getElem_cons_succ])
  refine wpAnyH_take (i := 7) (oi := _) (v := undef) rfl (by kernel_rfl) (by kernel_rfl) (by kernel_rfl) (fun _ _ _ h => h) (Or.inr ⟨by rfl, rfl⟩) (by assumption) ?_
  (try simp only [Act.put, List.setIfInBounds_toArray, List.set_cons_zero, List.set_cons_succ, List.getElem_toArray, List.getElem_cons_zero, List.getElem_cons_succ])
  refine wpAnyH_take (i := 8) (oi := _) (v := undef) rfl (by kernel_rfl) (by kernel_rfl) (by kernel_rfl) (fun _ _ _ h => h) (Or.inr ⟨by rfl, rfl⟩) (by assumption) ?_
  (try simp only [Act.put, List.setIfInBounds_toArray, List.set_cons_zero, List.set_cons_succ, List.getElem_toArray, List.getElem_cons_zero, List.getElem_cons_succ])
  refine wpAnyH_take (i := 9) (oi := _) (v := undef) rfl (by kernel_rfl) (by kernel_rfl) (by kernel_rfl) (fun _ _ _ h => h) (Or.inr ⟨by rfl, rfl⟩) (by assumption) ?_
  (try simp only [Act.put, List.setIfInBounds_toArray, List.set_cons_zero, List.set_cons_succ, List.getElem_toArray, List.getElem_cons_zero, List.getElem_cons_succ])
  refine wpAnyH_take (i := 10) (oi := _) (v := undef) rfl (by kernel_rfl) (by kernel_rfl) (by kernel_rfl) (fun _ _ _ h => h) (Or.inr ⟨by rfl, rfl⟩) (by assumption) ?_
  (try simp only [Act.put, List.setIfInBounds_toArray, List.set_cons_zero, List.set_cons_succ, List.getElem_toArray, List.getElem_cons_zero, List.getElem_cons_succ])
  refine wpAnyH_take (i := 11) (oi := _) (v := undef) rfl (by kernel_rfl) (by kernel_rfl) (by kernel_rfl) (fun _ _ _ h => h) (Or.inr ⟨by rfl, rfl⟩) (by assumption) ?_
  (try simp only [Act.put, List.setIfInBounds_toArray, List.set_cons_zero, List.set_cons_succ, List.getElem_toArray, List.getElem_cons_zero, List.getElem_cons_succ])
  refine wpAnyH_take (i := 12) (oi := _) (v := undef) rfl (by kernel_rfl) (by kernel_rfl) (by kernel_rfl) (fun _ _ _ h => h) (Or.inr ⟨by rfl, rfl⟩) (by assumption) ?_
  (try simp only [Act.put, List.setIfInBounds_toArray, List.set_cons_zero, List.set_cons_succ, List.getElem_toArray, List.getElem_cons_zero, List.getElem_cons_succ])
  refine wpAnyH_take (i := 13) (oi := _) (v := undef) rfl (by kernel_rfl) (by kernel_rfl) (by kernel_rfl) (fun _ _ _ h => h) (Or.inr ⟨by rfl, rfl⟩) (by assumption) ?_
  (try simp only [Act.put, List.setIfInBounds_toArray, List.set_cons_zero, List.set_cons_succ, List.getElem_toArray, List.getElem_cons_zero, List.getElem_cons_succ])
  refine wpAnyH_take (i := 14) (oi := _) (v := undef) rfl (by kernel_rfl) (by kernel_rfl) (by kernel_rfl) (fun _ _ _ h => h) (Or.inr ⟨by rfl, rfl⟩) (by assumption) ?_
  (try simp only [Act.put, List.setIfInBounds_toArray, List.set_cons_zero, List.set_cons_succ, List.getElem_toArray, List.getElem_cons_zero, List.getElem_cons_succ])
  refine wpAnyH_take (i := 15) (oi := _) (v := ?vsa15) rfl (by kernel_rfl) (by kernel_rfl) (by kernel_rfl) (fun _ _ _ h => h) (Or.inl ⟨by rfl, ?hysa15⟩) (by assumption) ?restsa15
  case hysa15 => (intro w hSw; (try dsimp only at hSw); (try simp only [List.getElem_toArray, List.getElem_cons_zero, List.getElem_cons_succ]); go_simp; (try with_reducible rfl))
  (try simp only [Act.put, List.setIfInBounds_toArray, List.set_cons_zero, List.set_cons_succ, List.getElem_toArray, List.getElem_cons_zero, List.getElem_cons_succ])
  refine wpAnyH_done (by kernel_rfl) ?_ _
  refine NoPanic.normal ?_
  go_wp2_with fail
  go_ret
  exact ⟨rfl, H3.out, K3.out⟩

set_option maxRecDepth 100000 in
set_option maxHeartbeats 3200000 in
theorem size_same (a b : Int) (h : PactAt w p L name d l m) (h1 : ((m.us 31).1 == 1) = true) (h2 : sz a = m.tw) (h3 : sz b = m.th) :
    Calls Try.prog 11 #[.pointer (some ⟨p, 0, none⟩), .int .i64 a, .int .i64 b] w fun e w' => e = .returned (.string ⟨#[]⟩) ∧ PactAt w' p L name d l (m.sized a b) ∧ Keep (pown p L) w w' := by
  have c14 := fun W (q : PactAt W p L name d l m) => q.cs 14 _ rfl
  have c15 := fun W (q : PactAt W p L name d l m) => q.cs 15 _ rfl
  have HI := Lib.hid (fun W (q : PactAt W p L name d l (m.sized a b)) => isOn_us p L name d l (m.sized a b) W 31 (by rfl) true h1 q)
  have HT := Lib.hid (fun W (q : PactAt W p L name d l (m.sized a b)) => tellSize_any p L name d l _ W q (sz_le a) (sz_le b))
  have HS : Hid (∀ W, PactAt W p L name d l m → PactAt ((W.setCell ⟨p, 14, none⟩ (.int .i64 (sz a : Nat))).setCell ⟨p, 15, none⟩ (.int .i64 (sz b : Nat))) p L name d l (m.sized a b)) := Lib.hid (fun W q => PactAt.sized p L name d l m W q a b)
  have H := Lib.hid h
  have hp := h.lt
  obtain ⟨x, hx⟩ : ∃ x, x = sz a := ⟨_, rfl⟩
  obtain ⟨y, hy⟩ : ∃ y, y = sz b := ⟨_, rfl⟩
  have t1 : ((x : Int) == (m.tw : Int)) = true := by simp [hx, h2]
  have t2 : ((y : Int) == (m.th : Int)) = true := by simp [hy, h3]
  have HSA := Lib.hid (fun W => sizeOf_any a b W)
  have HSS : Hid (∀ W, PactAt W p L name d l (m.sized a b) → W.cell? ⟨p, 14, none⟩ = some (.int .i64 (x : Nat)) ∧ W.cell? ⟨p, 15, none⟩ = some (.int .i64 (y : Nat)) ∧ W.cell? ⟨p, 16, none⟩ = some (.int .i64 (m.tw : Int)) ∧ W.cell? ⟨p, 17, none⟩ = some (.int .i64 (m.th : Int))) := Lib.hid (fun W q => by rw [hx, hy]; exact ⟨(q.cs 14 _ rfl).1, (q.cs 15 _ rfl).1, (q.cs 16 _ rfl).1, (q.cs 17 _ rfl).1⟩)
  rw [← hx, ← hy] at HSA HS
  generalize m.tw = tw at *
  generalize m.th = th at *
  clear h h1 h2 h3 hx hy
  go_enter Try.func11, Try.ntmps11
  go_wp2_with fail
  refine (pready_any p L name d l m _ H.out).mono ?_
  rintro e w1 ⟨rfl, rfl⟩
  go_wp2_with fail
  refine (HSA.out _).mono ?_
  rintro e w1 ⟨rfl, hb⟩
  have H1 := Lib.hid (H.out.below hb)
  have B1 := Lib.hid hb
  have x14 := (c14 _ H1.out).1
  have y14 := (c14 _ H1.out).2
  have x15 := (c15 _ H1.out).1
  have y15 := (c15 _ H1.out).2
  have hp1 := H1.out.lt
  clear hb c14 c15
  go_wp2_with fail
  obtain ⟨W0, hW0⟩ : ∃ W0, W0 = (w1.setCell ⟨p, 14, none⟩ (.int .i64 (x : Nat))).setCell ⟨p, 15, none⟩ (.int .i64 (y : Nat)) := ⟨_, rfl⟩
  have H2 : Hid (PactAt W0 p L name d l (m.sized a b)) := Lib.hid (by rw [hW0]; exact HS.out _ H1.out)
  have K2 : Hid (Keep (pown p L) w W0) := Lib.hid (by rw [hW0]; exact (Keep.of_below (pown p L) B1.out).trans (((keep_set w1 p 14 _).own 15 _).mono (S' := pown p L) (fun i _ e => .inl e)) (fun _ _ x => x))
  rw [← hW0]
  clear hW0 x14 x15 y14 y15 H1 B1 HS
  refine wp_region_noPanic ?_
  refine wp_region_held_drew (S := fun W => W.cell? ⟨p, 14, none⟩ = some (.int .i64 (x : Nat)) ∧ W.cell? ⟨p, 15, none⟩ = some (.int .i64 (y : Nat)) ∧ W.cell? ⟨p, 16, none⟩ = some (.int .i64 (tw : Int)) ∧ W.cell? ⟨p, 17, none⟩ = some (.int .i64 (th : Int))) (by kernel_rfl) (HSS.out _ H2.out.drew) (fun hHeld => ?_)
  refine wpAnyH_take (i := 0) (oi := _) (v := ?vsb0) rfl (by kernel_rfl) (by kernel_rfl) (by kernel_rfl) (fun _ _ _ h => h) (Or.inl ⟨by rfl, ?hysb0⟩) (by assumption) ?restsb0
  case hysb0 => (intro w hSw; (try dsimp only at hSw); (try simp only [List.getElem_toArray, List.getElem_cons_zero, List.getElem_cons_succ]); go_simp; (try with_reducible rfl))
  (try simp only [Act.put, List.setIfInBounds_toArray, List.set_cons_zero, List.set_cons_succ, List.getElem_toArray, List.getElem_cons_zero, List.getElem_cons_succ])
  refine wpAnyH_take (i := 1) (oi := _) (v := ?vsb1) rfl (by kernel_rfl) (by kernel_rfl) (by kernel_rfl) (fun _ _ _ h => h) (Or.inl ⟨by rfl, ?hysb1⟩) (by assumption) ?restsb1
  case hysb1 => (intro w hSw; (try dsimp only at hSw); (try simp only [List.getElem_toArray, List.getElem_cons_zero, List.getElem_cons_succ]); go_simp; (try with_reducible rfl))
  (try simp only [Act.put, List.setIfInBounds_toArray, List.set_cons_zero, List.set_cons_succ, List.getElem_toArray, List.getElem_cons_zero, List.getElem_cons_succ])
  refine wpAnyH_take (i := 2) (oi := _) (v := ?vsb2) rfl (by kernel_rfl) (by kernel_rfl) (by kernel_rfl) (fun _ _ _ h => h) (Or.inl ⟨by rfl, ?hysb2⟩) (by assumption) ?restsb2
  case hysb2 => (intro w hSw; (try dsimp only at hSw); (try simp only [List.getElem_toArray, List.getElem_cons_zero, List.getElem_cons_succ]); go_simp; (try with_reducible rfl))
  (try simp only [Act.put, List.setIfInBounds_toArray, List.set_cons_zero, List.set_cons_succ, List.getElem_toArray, List.getElem_cons_zero, List.getElem_cons_succ])
  refine wpAnyH_ready (rs := [3]) (by kernel_rfl) (by simp) ?_
  refine AllReadyH.cons (o := _) rfl (fun K hK => ?_) AllReadyH.nil
  (try simp only [List.getElem_toArray, List.getElem_cons_zero, List.getElem_cons_succ])
  go_simp
  go_at_call 27; refine (HI.out _ H2.out.drew).mono ?_; rintro e w2 ⟨rfl, hb⟩; have H3 := Lib.hid (H2.out.drew.below hb); have K3 : Hid (Keep (pown p L) w w2) := Lib.hid (K2.out.drew.trans (Keep.of_below (pown p L) hb) (fun _ _ x => x)); clear hb
  refine hK.out _ _ ?_ (fun hHeld => ?_)
  · exact HSS.out _ H3.out
  clear hK K
  (try simp only [Act.put, List.setIfInBounds_toArray, List.set_cons_zero, List.set_cons_succ, List.getElem_toArray, List.getElem_cons_zero, List.getElem_cons_succ])
  refine wpAnyH_take (i := 4) (oi := _) (v := ?vsb4) rfl (by kernel_rfl) (by kernel_rfl) (by kernel_rfl) (fun _ _ _ h => h) (Or.inl ⟨by rfl, ?hysb4⟩) (by assumption) ?restsb4
  case hysb4 => (intro w hSw; (try dsimp only at hSw); (try simp only [List.getElem_toArray, List.getElem_cons_zero, List.getElem_cons_succ]); go_simp; (try with_reducible rfl))
  (try simp only [Act.put, List.setIfInBounds_toArray, List.set_cons_zero, List.set_cons_succ, List.getElem_toArray, List.getElem_cons_zero, List.getElem_cons_succ])
  refine wpAnyH_take (i := 5) (oi := _) (v := ?vsb5) rfl (by kernel_rfl) (by kernel_rfl) (by kernel_rfl) (fun _ _ _ h => h) (Or.inl ⟨by rfl, ?hysb5⟩) (by assumption) ?restsb5
  case hysb5 => (intro w hSw; (try dsimp only at hSw); (try simp only [List.getElem_toArray, List.getElem_cons_zero, List.getElem_cons_succ]); go_simp; (try with_reducible rfl))
  (try simp only [Act.put, List.setIfInBounds_toArray, List.set_cons_zero, List.set_cons_succ, List.getElem_toArray, List.getElem_cons_zero, List.getElem_cons_succ])
  refine wpAnyH_take (i := 6) (oi := _) (v := ?vsb6) rfl (by kernel_rfl) (by kernel_rfl) (by kernel_rfl) (fun _ _ _ h => h) (Or.inl ⟨by rfl, ?hysb6⟩) (by assumption) ?restsb6
  case hysb6 => (intro w hSw; (try dsimp only at hSw); (try simp only [List.getElem_toArray, List.getElem_cons_zero, List.getElem_cons_succ]); go_simp; (try with_reducible rfl))
  (try simp only [Act.put, List.setIfInBounds_toArray, List.set_cons_zero, List.set_cons_succ, List.getElem_toArray, List.getElem_cons_zero, List.getElem_cons_succ])
  refine wpAnyH_take (i := 7) (oi := _) (v := ?vsb7) rfl (by kernel_rfl) (by kernel_rfl) (by kernel_rfl) (fun _ _ _ h => h) (Or.inl ⟨by rfl, ?hysb7⟩) (by assumption) ?restsb7
  case hysb7 => (intro w hSw; (try dsimp only at hSw); (try simp only [List.getElem_toArray, List.getElem_cons_zero, List.getElem_cons_succ]); go_simp; (try with_reducible rfl))
  (try simp only [Act.put, List.setIfInBounds_toArray, List.set_cons_zero, List.set_cons_succ, List.getElem_toArray, List.getElem_cons_zero, List.getElem_cons_succ])
  refine wpAnyH_take (i := 8) (oi := _) (v := ?vsb8) rfl (by kernel_rfl) (by kernel_rfl) (by kernel_rfl) (fun _ _ _ h => h) (Or.inl ⟨by rfl, ?hysb8⟩) (by assumption) ?restsb8
  case hysb8 => (intro w hSw; (try dsimp only at hSw); (try simp only [List.getElem_toArray, List.getElem_cons_zero, List.getElem_cons_succ]); go_simp; (try with_reducible rfl))
  (try simp only [Act.put, List.setIfInBounds_toArray, List.set_cons_zero, List.set_cons_succ, List.getElem_toArray, List.getElem_cons_zero, List.getElem_cons_succ])
  refine wpAnyH_take (i := 9) (oi := _) (v := ?vsb9) rfl (by kernel_rfl) (by kernel_rfl) (by kernel_rfl) (fun _ _ _ h => h) (Or.inl ⟨by rfl, ?hysb9⟩) (by assumption) ?restsb9
  case hysb9 => (intro w hSw; (try dsimp only at hSw); (try simp only [List.getElem_toArray, List.getElem_cons_zero, List.getElem_cons_succ]); go_simp; (try with_reducible rfl))
  (try simp only [Act.put, List.setIfInBounds_toArray, List.set_cons_zero, List.set_cons_succ, List.getElem_toArray, List.getElem_cons_zero, List.getElem_cons_succ])
  refine wpAnyH_take (i := 10) (oi := _) (v := ?vsb10) rfl (by kernel_rfl) (by kernel_rfl) (by kernel_rfl) (fun _ _ _ h => h) (Or.inl ⟨by rfl, ?hysb10⟩) (by assumption) ?restsb10
  case hysb10 => (intro w hSw; (try dsimp only at hSw); (try simp only [List.getElem_toArray, List.getElem_cons_zero, List.getElem_cons_succ]); go_simp; (try with_reducible rfl))
  (try simp only [Act.put, List.setIfInBounds_toArray, List.set_cons_zero, List.set_cons_succ, List.getElem_toArray, List.getElem_cons_zero, List.getElem_cons_succ])
  refine wpAnyH_take (i := 11) (oi := _) (v := ?vsb11) rfl (by kernel_rfl) (by kernel_rfl) (by kernel_rfl) (fun _ _ _ h => h) (Or.inl ⟨by rfl, ?hysb11⟩) (by assumption) ?restsb11
  case hysb11 => (intro w hSw; (try dsimp only at hSw); (try simp only [List.getElem_toArray, List.getElem_cons_zero, List.getElem_cons_succ]); go_simp; (try with_reducible rfl))
  (try simp only [Act.put, List.setIfInBounds_toArray, List.set_cons_zero, List.set_cons_succ, List.getElem_toArray, List.getElem_cons_zero, List.getElem_cons_succ])
  refine wpAnyH_take (i := 12) (oi := _) (v := ?vsb12) rfl (by kernel_rfl) (by kernel_rfl) (by kernel_rfl) (fun _ _ _ h => h) (Or.inl ⟨by rfl, ?hysb12⟩) (by assumption) ?restsb12
  case hysb12 => (intro w hSw; (try dsimp only at hSw); (try simp only [List.getElem_toArray, List.getElem_cons_zero, List.getElem_cons_succ]); go_simp; (try with_reducible rfl))
  (try simp only [Act.put, List.setIfInBounds_toArray, List.set_cons_zero, List.set_cons_succ, List.getElem_toArray, List.getElem_cons_zero, List.getElem_cons_succ])
  refine wpAnyH_take (i := 13) (oi := _) (v := ?vsb13) rfl (by kernel_rfl) (by kernel_rfl) (by kernel_rfl) (fun _ _ _ h => h) (Or.inl ⟨by rfl, ?hysb13⟩) (by assumption) ?restsb13
  case hysb13 => (intro w hSw; (try dsimp only at hSw); (try simp only [List.getElem_toArray, List.getElem_cons_zero, List.getElem_cons_succ]); go_simp; (try with_reducible rfl))
  (try simp only [Act.put, List.setIfInBounds_toArray, List.set_cons_zero, List.set_cons_succ, List.getElem_toArray, List.getElem_cons_zero, List.getElem_cons_succ])
  refine wpAnyH_take (i := 14) (oi := _) (v := ?vsb14) rfl (by kernel_rfl) (by kernel_rfl) (by kernel_rfl) (fun _ _ _ h => h) (Or.inl ⟨by rfl, ?hysb14⟩) (by assumption) ?restsb14
  case hysb14 => (intro w hSw; (try dsimp only at hSw); (try simp only [List.getElem_toArray, List.getElem_cons_zero, List.getElem_cons_succ]); go_simp; (try with_reducible rfl))
  (try simp only [Act.put, List.setIfInBounds_toArray, List.set_cons_zero, List.set_cons_succ, List.getElem_toArray, List.getElem_cons_zero, List.getElem_cons_succ])
  refine wpAnyH_take (i := 15) (oi := _) (v := ?vsb15) rfl (by kernel_rfl) (by kernel_rfl) (by kernel_rfl) (fun _ _ _ h => h) (Or.inl ⟨by rfl, ?hysb15⟩) (by assumption) ?restsb15
  case hysb15 => (intro w hSw; (try dsimp only at hSw); (try simp only [List.getElem_toArray, List.getElem_cons_zero, List.getElem_cons_succ]); go_simp; (try with_reducible rfl))
  (try simp only [Act.put, List.setIfInBounds_toArray, List.set_cons_zero, List.set_cons_succ, List.getElem_toArray, List.getElem_cons_zero, List.getElem_cons_succ])
  refine wpAnyH_done (by kernel_rfl) ?_ _
  refine NoPanic.normal ?_
  go_wp2_with fail
  go_ret
  exact ⟨rfl, H3.out, K3.out⟩

set_option maxRecDepth 100000 in
set_option maxHeartbeats 3200000 in
theorem size_new1 (a b : Int) (h : PactAt w p L name d l m) (h1 : ((m.us 31).1 == 1) = true) (h2 : sz a ≠ m.tw) :
    Calls Try.prog 11 #[.pointer (some ⟨p, 0, none⟩), .int .i64 a, .int .i64 b] w fun e w' => e = .returned (.string ⟨(sizeL (m.sized a b)).toArray⟩) ∧ PactAt w' p L name d l (m.sized a b).tell ∧ Keep (pown p L) w w' := by
  have c14 := fun W (q : PactAt W p L name d l m) => q.cs 14 _ rfl
  have c15 := fun W (q : PactAt W p L name d l m) => q.cs 15 _ rfl
  have HI := Lib.hid (fun W (q : PactAt W p L name d l (m.sized a b)) => isOn_us p L name d l (m.sized a b) W 31 (by rfl) true h1 q)
  have HT := Lib.hid (fun W (q : PactAt W p L name d l (m.sized a b)) => tellSize_any p L name d l _ W q (sz_le a) (sz_le b))
  have HS : Hid (∀ W, PactAt W p L name d l m → PactAt ((W.setCell ⟨p, 14, none⟩ (.int .i64 (sz a : Nat))).setCell ⟨p, 15, none⟩ (.int .i64 (sz b : Nat))) p L name d l (m.sized a b)) := Lib.hid (fun W q => PactAt.sized p L name d l m W q a b)
  have H := Lib.hid h
  have hp := h.lt
  obtain ⟨x, hx⟩ : ∃ x, x = sz a := ⟨_, rfl⟩
  obtain ⟨y, hy⟩ : ∃ y, y = sz b := ⟨_, rfl⟩
  have t1 : ((x : Int) == (m.tw : Int)) = false := by rw [hx]; simpa using fun e : (sz a : Int) = (m.tw : Int) => h2 (by omega)
  have HSA := Lib.hid (fun W => sizeOf_any a b W)
  have HSS : Hid (∀ W, PactAt W p L name d l (m.sized a b) → W.cell? ⟨p, 14, none⟩ = some (.int .i64 (x : Nat)) ∧ W.cell? ⟨p, 15, none⟩ = some (.int .i64 (y : Nat)) ∧ W.cell? ⟨p, 16, none⟩ = some (.int .i64 (m.tw : Int)) ∧ W.cell? ⟨p, 17, none⟩ = some (.int .i64 (m.th : Int))) := Lib.hid (fun W q => by rw [hx, hy]; exact ⟨(q.cs 14 _ rfl).1, (q.cs 15 _ rfl).1, (q.cs 16 _ rfl).1, (q.cs 17 _ rfl).1⟩)
  rw [← hx, ← hy] at HSA HS
  generalize m.tw = tw at *
  generalize m.th = th at *
  clear h h1 h2 hx hy
  go_enter Try.func11, Try.ntmps11
  go_wp2_with fail
  refine (pready_any p L name d l m _ H.out).mono ?_
  rintro e w1 ⟨rfl, rfl⟩
  go_wp2_with fail
  refine (HSA.out _).mono ?_
  rintro e w1 ⟨rfl, hb⟩
  have H1 := Lib.hid (H.out.below hb)
  have B1 := Lib.hid hb
  have x14 := (c14 _ H1.out).1
  have y14 := (c14 _ H1.out).2
  have x15 := (c15 _ H1.out).1
  have y15 := (c15 _ H1.out).2
  have hp1 := H1.out.lt
  clear hb c14 c15
  go_wp2_with fail
  obtain ⟨W0, hW0⟩ : ∃ W0, W0 = (w1.setCell ⟨p, 14, none⟩ (.int .i64 (x : Nat))).setCell ⟨p, 15, none⟩ (.int .i64 (y : Nat)) := ⟨_, rfl⟩
  have H2 : Hid (PactAt W0 p L name d l (m.sized a b)) := Lib.hid (by rw [hW0]; exact HS.out _ H1.out)
  have K2 : Hid (Keep (pown p L) w W0) := Lib.hid (by rw [hW0]; exact (Keep.of_below (pown p L) B1.out).trans (((keep_set w1 p 14 _).own 15 _).mono (S' := pown p L) (fun i _ e => .inl e)) (fun _ _ x => x))
  rw [← hW0]
  clear hW0 x14 x15 y14 y15 H1 B1 HS
  refine wp_region_noPanic ?_
  refine wp_region_held_drew (S := fun W => W.cell? ⟨p, 14, none⟩ = some (.int .i64 (x : Nat)) ∧ W.cell? ⟨p, 15, none⟩ = some (.int .i64 (y : Nat)) ∧ W.cell? ⟨p, 16, none⟩ = some (.int .i64 (tw : Int)) ∧ W.cell? ⟨p, 17, none⟩ = some (.int .i64 (th : Int))) (by kernel_rfl) (HSS.out _ H2.out.drew) (fun hHeld => ?_)
  refine wpAnyH_take (i := 0) (oi := _) (v := ?vsc0) rfl (by kernel_rfl) (by kernel_rfl) (by kernel_rfl) (fun _ _ _ h => h) (Or.inl ⟨by rfl, ?hysc0⟩) (by assumption) ?restsc0
  case hysc0 => (intro w hSw; (try dsimp only at hSw); (try simp only [List.getElem_toArray, List.getElem_cons_zero, List.getElem_cons_succ]); go_simp; (try with_reducible rfl))
  (try simp only [Act.put, List.setIfInBounds_toArray, List.set_cons_zero, List.set_cons_succ, List.getElem_toArray, List.getElem_cons_zero, List.getElem_cons_succ])
  refine wpAnyH_take (i := 1) (oi := _) (v := ?vsc1) rfl (by kernel_rfl) (by kernel_rfl) (by kernel_rfl) (fun _ _ _ h => h) (Or.inl ⟨by rfl, ?hysc1⟩) (by assumption) ?restsc1
  case hysc1 => (intro w hSw; (try dsimp only at hSw); (try simp only [List.getElem_toArray, List.getElem_cons_zero, List.getElem_cons_succ]); go_simp; (try with_reducible rfl))
  (try simp only [Act.put, List.setIfInBounds_toArray, List.set_cons_zero, List.set_cons_succ, List.getElem_toArray, List.getElem_cons_zero, List.getElem_cons_succ])
  refine wpAnyH_take (i := 2) (oi := _) (v := ?vsc2) rfl (by kernel_rfl) (by kernel_rfl) (by kernel_rfl) (fun _ _ _ h => h) (Or.inl ⟨by rfl, ?hysc2⟩) (by assumption) ?restsc2
  case hysc2 => (intro w hSw; (try dsimp only at hSw); (try simp only [List.getElem_toArray, List.getElem_cons_zero, List.getElem_cons_succ]); go_simp; (try with_reducible rfl))
  (try simp only [Act.put, List.setIfInBounds_toArray, List.set_cons_zero, List.set_cons_succ, List.getElem_toArray, List.getElem_cons_zero, List.getElem_cons_succ])
  refine wpAnyH_ready (rs := [3]) (by kernel_rfl) (by simp) ?_
  refine AllReadyH.cons (o := _) rfl (fun K hK => ?_) AllReadyH.nil
  (try simp only [List.getElem_toArray, List.getElem_cons_zero, List.getElem_cons_succ])
  go_simp
  go_at_call 27; refine (HI.out _ H2.out.drew).mono ?_; rintro e w2 ⟨rfl, hb⟩; have H3 := Lib.hid (H2.out.drew.below hb); have K3 : Hid (Keep (pown p L) w w2) := Lib.hid (K2.out.drew.trans (Keep.of_below (pown p L) hb) (fun _ _ x => x)); clear hb
  refine hK.out _ _ ?_ (fun hHeld => ?_)
  · exact HSS.out _ H3.out
  clear hK K
  (try simp only [Act.put, List.setIfInBounds_toArray, List.set_cons_zero, List.set_cons_succ, List.getElem_toArray, List.getElem_cons_zero, List.getElem_cons_succ])
  refine wpAnyH_take (i := 4) (oi := _) (v := ?vsc4) rfl (by kernel_rfl) (by kernel_rfl) (by kernel_rfl) (fun _ _ _ h => h) (Or.inl ⟨by rfl, ?hysc4⟩) (by assumption) ?restsc4
  case hysc4 => (intro w hSw; (try dsimp only at hSw); (try simp only [List.getElem_toArray, List.getElem_cons_zero, List.getElem_cons_succ]); go_simp; (try with_reducible rfl))
  (try simp only [Act.put, List.setIfInBounds_toArray, List.set_cons_zero, List.set_cons_succ, List.getElem_toArray, List.getElem_cons_zero, List.getElem_cons_succ])
  refine wpAnyH_take (i := 5) (oi := _) (v := ?vsc5) rfl (by kernel_rfl) (by kernel_rfl) (by kernel_rfl) (fun _ _ _ h => h) (Or.inl ⟨by rfl, ?hysc5⟩) (by assumption) ?restsc5
  case hysc5 => (intro w hSw; (try dsimp only at hSw); (try simp only [List.getElem_toArray, List.getElem_cons_zero, List.getElem_cons_succ]); go_simp; (try with_reducible rfl))
  (try simp only [Act.put, List.setIfInBounds_toArray, List.set_cons_zero, List.set_cons_succ, List.getElem_toArray, List.getElem_cons_zero, List.getElem_cons_succ])
  refine wpAnyH_take (i := 6) (oi := _) (v := ?vsc6) rfl (by kernel_rfl) (by kernel_rfl) (by kernel_rfl) (fun _ _ _ h => h) (Or.inl ⟨by rfl, ?hysc6⟩) (by assumption) ?restsc6
  case hysc6 => (intro w hSw; (try dsimp only at hSw); (try simp only [List.getElem_toArray, List.getElem_cons_zero, List.getElem_cons_succ]); go_simp; (try with_reducible rfl))
  (try simp only [Act.put, List.setIfInBounds_toArray, List.set_cons_zero, List.set_cons_succ, List.getElem_toArray, List.getElem_cons_zero, List.getElem_cons_succ])
  refine wpAnyH_take (i := 7) (oi := _) (v := ?vsc7) rfl (by kernel_rfl) (by kernel_rfl) (by kernel_rfl) (fun _ _ _ h => h) (Or.inl ⟨by rfl, ?hysc7⟩) (by assumption) ?restsc7
  case hysc7 => (intro w hSw; (try dsimp only at hSw); (try simp only [List.getElem_toArray, List.getElem_cons_zero, List.getElem_cons_succ]); go_simp; (try with_reducible rfl))
  (try simp only [Act.put, List.setIfInBounds_toArray, List.set_cons_zero, List.set_cons_succ, List.getElem_toArray, List.getElem_cons_zero, List.getElem_cons_succ])
  refine wpAnyH_take (i := 8) (oi := _) (v := ?vsc8) rfl (by kernel_rfl) (by kernel_rfl) (by kernel_rfl) (fun _ _ _ h => h) (Or.inl ⟨by rfl, ?hysc8⟩) (by assumption) ?restsc8
  case hysc8 => (intro w hSw; (try dsimp only at hSw); (try simp only [List.getElem_toArray, List.getElem_cons_zero, List.getElem_cons_succ]); go_simp; (try with_reducible rfl))
  (try simp only [Act.put, List.setIfInBounds_toArray, List.set_cons_zero, List.set_cons_succ, List.getElem_toArray, List.getElem_cons_zero, List.getElem_cons_succ])
  refine wpAnyH_take (i := 9) (oi := _) (v := ?vsc9) rfl (by kernel_rfl) (by kernel_rfl) (by kernel_rfl) (fun _ _ _ h => h) (Or.inl ⟨by rfl, ?hysc9⟩) (by assumption) ?restsc9
  case hysc9 => (intro w hSw; (try dsimp only at hSw); (try simp only [List.getElem_toArray, List.getElem_cons_zero, List.getElem_cons_succ]); go_simp; (try with_reducible rfl))
  (try simp only [Act.put, List.setIfInBounds_toArray, List.set_cons_zero, List.set_cons_succ, List.getElem_toArray, List.getElem_cons_zero, List.getElem_cons_succ])
  refine wpAnyH_take (i := 10) (oi := _) (v := ?vsc10) rfl (by kernel_rfl) (by kernel_rfl) (by kernel_rfl) (fun _ _ _ h => h) (Or.inl ⟨by rfl, ?hysc10⟩) (by assumption) ?restsc10
  case hysc10 => (intro w hSw; (try dsimp only at hSw); (try simp only [List.getElem_toArray, List.getElem_cons_zero, List.getElem_cons_succ]); go_simp; (try with_reducible rfl))
  (try simp only [Act.put, List.setIfInBounds_toArray, List.set_cons_zero, List.set_cons_succ, List.getElem_toArray, List.getElem_cons_zero, List.getElem_cons_succ])
  refine wpAnyH_take (i := 11) (oi := _) (v := ?vsc11) rfl (by kernel_rfl) (by kernel_rfl) (by kernel_rfl) (fun _ _ _ h => h) (Or.inl ⟨by rfl, ?hysc11⟩) (by assumption) ?restsc11
  case hysc11 => (intro w hSw; (try dsimp only at hSw); (try simp only [List.getElem_toArray, List.getElem_cons_zero, List.getElem_cons_succ]); go_simp; (try with_reducible rfl))
  (try simp only [Act.put, List.setIfInBounds_toArray, List.set_cons_zero, List.set_cons_succ, List.getElem_toArray, List.getElem_cons_zero, List.getElem_cons_succ])
  refine wpAnyH_take (i := 12) (oi := _) (v := ?vsc12) rfl (by kernel_rfl) (by kernel_rfl) (by kernel_rfl) (fun _ _ _ h => h) (Or.inl ⟨by rfl, ?hysc12⟩) (by assumption) ?restsc12
  case hysc12 => (intro w hSw; (try dsimp only at hSw); (try simp only [List.getElem_toArray, List.getElem_cons_zero, List.getElem_cons_succ]); go_simp; (try with_reducible rfl))
  (try simp only [Act.put, List.setIfInBounds_toArray, List.set_cons_zero, List.set_cons_succ, List.getElem_toArray, List.getElem_cons_zero, List.getElem_cons_succ])
  refine wpAnyH_take (i := 13) (oi := _) (v := ?vsc13) rfl (by kernel_rfl) (by kernel_rfl) (by kernel_rfl) (fun _ _ _ h => h) (Or.inl ⟨by rfl, ?hysc13⟩) (by assumption) ?restsc13
  case hysc13 => (intro w hSw; (try dsimp only at hSw); (try simp only [List.getElem_toArray, List.getElem_cons_zero, List.getElem_cons_succ]); go_simp; (try with_reducible rfl))
  (try simp only [Act.put, List.setIfInBounds_toArray, List.set_cons_zero, List.set_cons_succ, List.getElem_toArray, List.getElem_cons_zero, List.getElem_cons_succ])
  refine wpAnyH_take (i := 14) (oi := _) (v := ?vsc14) rfl (by kernel_rfl) (by kernel_rfl) (by kernel_rfl) (fun _ _ _ h => h) (Or.inl ⟨by rfl, ?hysc14⟩) (by assumption) ?restsc14
  case hysc14 => (intro w hSw; (try dsimp only at hSw); (try simp only [List.getElem_toArray, List.getElem_cons_zero, List.getElem_cons_succ]); go_simp; (try with_reducible rfl))
  (try simp only [Act.put, List.setIfInBounds_toArray, List.set_cons_zero, List.set_cons_succ, List.getElem_toArray, List.getElem_cons_zero, List.getElem_cons_succ])
  refine wpAnyH_take (i := 15) (oi := _) (v := ?vsc15) rfl (by kernel_rfl) (by kernel_rfl) (by kernel_rfl) (fun _ _ _ h => h) (Or.inl ⟨by rfl, ?hysc15⟩) (by assumption) ?restsc15
  case hysc15 => (intro w hSw; (try dsimp only at hSw); (try simp only [List.getElem_toArray, List.getElem_cons_zero, List.getElem_cons_succ]); go_simp; (try with_reducible rfl))
  (try simp only [Act.put, List.setIfInBounds_toArray, List.set_cons_zero, List.set_cons_succ, List.getElem_toArray, List.getElem_cons_zero, List.getElem_cons_succ])
  refine wpAnyH_done (by kernel_rfl) ?_ _
  refine NoPanic.normal ?_
  go_wp2_with fail
  refine (HT.out _ H3.out).mono ?_
  rintro e w3 ⟨rfl, hq, hk⟩
  have H4 := Lib.hid hq
  have K4 := Lib.hid (K3.out.trans hk (fun _ _ x => x))
  clear hq hk
  go_wp2_with fail
  go_ret
  exact ⟨rfl, H4.out, K4.out⟩

set_option maxRecDepth 100000 in
set_option maxHeartbeats 3200000 in
theorem size_new2 (a b : Int) (h : PactAt w p L name d l m) (h1 : ((m.us 31).1 == 1) = true) (h2 : sz a = m.tw) (h3 : sz b ≠ m.th) :
    Calls Try.prog 11 #[.pointer (some ⟨p, 0, none⟩), .int .i64 a, .int .i64 b] w fun e w' => e = .returned (.string ⟨(sizeL (m.sized a b)).toArray⟩) ∧ PactAt w' p L name d l (m.sized a b).tell ∧ Keep (pown p L) w w' := by
  have c14 := fun W (q : PactAt W p L name d l m) => q.cs 14 _ rfl
  have c15 := fun W (q : PactAt W p L name d l m) => q.cs 15 _ rfl
  have HI := Lib.hid (fun W (q : PactAt W p L name d l (m.sized a b)) => isOn_us p L name d l (m.sized a b) W 31 (by rfl) true h1 q)
  have HT := Lib.hid (fun W (q : PactAt W p L name d l (m.sized a b)) => tellSize_any p L name d l _ W q (sz_le a) (sz_le b))
  have HS : Hid (∀ W, PactAt W p L name d l m → PactAt ((W.setCell ⟨p, 14, none⟩ (.int .i64 (sz a : Nat))).setCell ⟨p, 15, none⟩ (.int .i64 (sz b : Nat))) p L name d l (m.sized a b)) := Lib.hid (fun W q => PactAt.sized p L name d l m W q a b)
  have H := Lib.hid h
  have hp := h.lt
  obtain ⟨x, hx⟩ : ∃ x, x = sz a := ⟨_, rfl⟩
  obtain ⟨y, hy⟩ : ∃ y, y = sz b := ⟨_, rfl⟩
  have t1 : ((x : Int) == (m.tw : Int)) = true := by simp [hx, h2]
  have t2 : ((y : Int) == (m.th : Int)) = false := by rw [hy]; simpa using fun e : (sz b : Int) = (m.th : Int) => h3 (by omega)
  have HSA := Lib.hid (fun W => sizeOf_any a b W)
  have HSS : Hid (∀ W, PactAt W p L name d l (m.sized a b) → W.cell? ⟨p, 14, none⟩ = some (.int .i64 (x : Nat)) ∧ W.cell? ⟨p, 15, none⟩ = some (.int .i64 (y : Nat)) ∧ W.cell? ⟨p, 16, none⟩ = some (.int .i64 (m.tw : Int)) ∧ W.cell? ⟨p, 17, none⟩ = some (.int .i64 (m.th : Int))) := Lib.hid (fun W q => by rw [hx, hy]; exact ⟨(q.cs 14 _ rfl).1, (q.cs 15 _ rfl).1, (q.cs 16 _ rfl).1, (q.cs 17 _ rfl).1⟩)
  rw [← hx, ← hy] at HSA HS
  generalize m.tw = tw at *
  generalize m.th = th at *
  clear h h1 h2 h3 hx hy
  go_enter Try.func11, Try.ntmps11
  go_wp2_with fail
  refine (pready_any p L name d l m _ H.out).mono ?_
  rintro e w1 ⟨rfl, rfl⟩
  go_wp2_with fail
  refine (HSA.out _).mono ?_
  rintro e w1 ⟨rfl, hb⟩
  have H1 := Lib.hid (H.out.below hb)
  have B1 := Lib.hid hb
  have x14 := (c14 _ H1.out).1
  have y14 := (c14 _ H1.out).2
  have x15 := (c15 _ H1.out).1
  have y15 := (c15 _ H1.out).2
  have hp1 := H1.out.lt
  clear hb c14 c15
  go_wp2_with fail
  obtain ⟨W0, hW0⟩ : ∃ W0, W0 = (w1.setCell ⟨p, 14, none⟩ (.int .i64 (x : Nat))).setCell ⟨p, 15, none⟩ (.int .i64 (y : Nat)) := ⟨_, rfl⟩
  have H2 : Hid (PactAt W0 p L name d l (m.sized a b)) := Lib.hid (by rw [hW0]; exact HS.out _ H1.out)
  have K2 : Hid (Keep (pown p L) w W0) := Lib.hid (by rw [hW0]; exact (Keep.of_below (pown p L) B1.out).trans (((keep_set w1 p 14 _).own 15 _).mono (S' := pown p L) (fun i _ e => .inl e)) (fun _ _ x => x))
  rw [← hW0]
  clear hW0 x14 x15 y14 y15 H1 B1 HS
  refine wp_region_noPanic ?_
  refine wp_region_held_drew (S := fun W => W.cell? ⟨p, 14, none⟩ = some (.int .i64 (x : Nat)) ∧ W.cell? ⟨p, 15, none⟩ = some (.int .i64 (y : Nat)) ∧ W.cell? ⟨p, 16, none⟩ = some (.int .i64 (tw : Int)) ∧ W.cell? ⟨p, 17, none⟩ = some (.int .i64 (th : Int))) (by kernel_rfl) (HSS.out _ H2.out.drew) (fun hHeld => ?_)
  refine wpAnyH_take (i := 0) (oi := _) (v := ?vsd0) rfl (by kernel_rfl) (by kernel_rfl) (by kernel_rfl) (fun _ _ _ h => h) (Or.inl ⟨by rfl, ?hysd0⟩) (by assumption) ?restsd0
  case hysd0 => (intro w hSw; (try dsimp only at hSw); (try simp only [List.getElem_toArray, List.getElem_cons_zero, List.getElem_cons_succ]); go_simp; (try with_reducible rfl))
  (try simp only [Act.put, List.setIfInBounds_toArray, List.set_cons_zero, List.set_cons_succ, List.getElem_toArray, List.getElem_cons_zero, List.getElem_cons_succ])
  refine wpAnyH_take (i := 1) (oi := _) (v := ?vsd1) rfl (by kernel_rfl) (by kernel_rfl) (by kernel_rfl) (fun _ _ _ h => h) (Or.inl ⟨by rfl, ?hysd1⟩) (by assumption) ?restsd1
  case hysd1 => (intro w hSw; (try dsimp only at hSw); (try simp only [List.getElem_toArray, List.getElem_cons_zero, List.getElem_cons_succ]); go_simp; (try with_reducible rfl))
  (try simp only [Act.put, List.setIfInBounds_toArray, List.set_cons_zero, List.set_cons_succ, List.getElem_toArray, List.getElem_cons_zero, List.getElem_cons_succ])
  refine wpAnyH_take (i := 2) (oi := _) (v := ?vsd2) rfl (by kernel_rfl) (by kernel_rfl) (by kernel_rfl) (fun _ _ _ h => h) (Or.inl ⟨by rfl, ?hysd2⟩) (by assumption) ?restsd2
  case hysd2 => (intro w hSw; (try dsimp only at hSw); (try simp only [List.getElem_toArray, List.getElem_cons_zero, List.getElem_cons_succ]); go_simp; (try with_reducible rfl))
  (try simp only [Act.put, List.setIfInBounds_toArray, List.set_cons_zero, List.set_cons_succ, List.getElem_toArray, List.getElem_cons_zero, List.getElem_cons_succ])
  refine wpAnyH_ready (rs := [3]) (by kernel_rfl) (by simp) ?_
  refine AllReadyH.cons (o := _) rfl (fun K hK => ?_) AllReadyH.nil
  (try simp only [List.getElem_toArray, List.getElem_cons_zero, List.getElem_cons_succ])
  go_simp
  go_at_call 27; refine (HI.out _ H2.out.drew).mono ?_; rintro e w2 ⟨rfl, hb⟩; have H3 := Lib.hid (H2.out.drew.below hb); have K3 : Hid (Keep (pown p L) w w2) := Lib.hid (K2.out.drew.trans (Keep.of_below (pown p L) hb) (fun _ _ x => x)); clear hb
  refine hK.out _ _ ?_ (fun hHeld => ?_)
  · exact HSS.out _ H3.out
  clear hK K
  (try simp only [Act.put, List.setIfInBounds_toArray, List.set_cons_zero, List.set_cons_succ, List.getElem_toArray, List.getElem_cons_zero, List.getElem_cons_succ])
  refine wpAnyH_take (i := 4) (oi := _) (v := ?vsd4) rfl (by kernel_rfl) (by kernel_rfl) (by kernel_rfl) (fun _ _ _ h => h) (Or.inl ⟨by rfl, ?hysd4⟩) (by assumption) ?restsd4
  case hysd4 => (intro w hSw; (try dsimp only at hSw); (try simp only [List.getElem_toArray, List.getElem_cons_zero, List.getElem_cons_succ]); go_simp; (try with_reducible rfl))
  (try simp only [Act.put, List.setIfInBounds_toArray, List.set_cons_zero, List.set_cons_succ, List.getElem_toArray, List.getElem_cons_zero, List.getElem_cons_succ])
  refine wpAnyH_take (i := 5) (oi := _) (v := ?vsd5) rfl (by kernel_rfl) (by kernel_rfl) (by kernel_rfl) (fun _ _ _ h => h) (Or.inl ⟨by rfl, ?hysd5⟩) (by assumption) ?restsd5
  case hysd5 => (intro w hSw; (try dsimp only at hSw); (try simp only [List.getElem_toArray, List.getElem_cons_zero, List.getElem_cons_succ]); go_simp; (try with_reducible rfl))
  (try simp only [Act.put, List.setIfInBounds_toArray, List.set_cons_zero, List.set_cons_succ, List.getElem_toArray, List.getElem_cons_zero, List.getElem_cons_succ])
  refine wpAnyH_take (i := 6) (oi := _) (v := ?vsd6) rfl (by kernel_rfl) (by kernel_rfl) (by kernel_rfl) (fun _ _ _ h => h) (Or.inl ⟨by rfl, ?hysd6⟩) (by assumption) ?restsd6
  case hysd6 => (intro w hSw; (try dsimp only at hSw); (try simp only [List.getElem_toArray, List.getElem_cons_zero, List.getElem_cons_succ]); go_simp; (try with_reducible rfl))
  (try simp only [Act.put, List.setIfInBounds_toArray, List.set_cons_zero, List.set_cons_succ, List.getElem_toArray, List.getElem_cons_zero, List.getElem_cons_succ])
  refine wpAnyH_take (i := 7) (oi := _) (v := ?vsd7) rfl (by kernel_rfl) (by kernel_rfl) (by kernel_rfl) (fun _ _ _ h => h) (Or.inl ⟨by rfl, ?hysd7⟩) (by assumption) ?restsd7
  case hysd7 => (intro w hSw; (try dsimp only at hSw); (try simp only [List.getElem_toArray, List.getElem_cons_zero, List.getElem_cons_succ]); go_simp; (try with_reducible rfl))
  (try simp only [Act.put, List.setIfInBounds_toArray, List.set_cons_zero, List.set_cons_succ, List.getElem_toArray, List.getElem_cons_zero, List.getElem_cons_succ])
  refine wpAnyH_take (i := 8) (oi := _) (v := ?vsd8) rfl (by kernel_rfl) (by kernel_rfl) (by kernel_rfl) (fun _ _ _ h => h) (Or.inl ⟨by rfl, ?hysd8⟩) (by assumption) ?restsd8
  case hysd8 => (intro w hSw; (try dsimp only at hSw); (try simp only [List.getElem_toArray, List.getElem_cons_zero, List.getElem_cons_succ]); go_simp; (try with_reducible rfl))
  (try simp only [Act.put, List.setIfInBounds_toArray, List.set_cons_zero, List.set_cons_succ, List.getElem_toArray, List.getElem_cons_zero, List.getElem_cons_succ])
  refine wpAnyH_take (i := 9) (oi := _) (v := ?vsd9) rfl (by kernel_rfl) (by kernel_rfl) (by kernel_rfl) (fun _ _ _ h => h) (Or.inl ⟨by rfl, ?hysd9⟩) (by assumption) ?restsd9
  case hysd9 => (intro w hSw; (try dsimp only at hSw); (try simp only [List.getElem_toArray, List.getElem_cons_zero, List.getElem_cons_succ]); go_simp; (try with_reducible rfl))
  (try simp only [Act.put, List.setIfInBounds_toArray, List.set_cons_zero, List.set_cons_succ, List.getElem_toArray, List.getElem_cons_zero, List.getElem_cons_succ])
  refine wpAnyH_take (i := 10) (oi := _) (v := ?vsd10) rfl (by kernel_rfl) (by kernel_rfl) (by kernel_rfl) (fun _ _ _ h => h) (Or.inl ⟨by rfl, ?hysd10⟩) (by assumption) ?restsd10
  case hysd10 => (intro w hSw; (try dsimp only at hSw); (try simp only [List.getElem_toArray, List.getElem_cons_zero, List.getElem_cons_succ]); go_simp; (try with_reducible rfl))
  (try simp only [Act.put, List.setIfInBounds_toArray, List.set_cons_zero, List.set_cons_succ, List.getElem_toArray, List.getElem_cons_zero, List.getElem_cons_succ])
  refine wpAnyH_take (i := 11) (oi := _) (v := ?vsd11) rfl (by kernel_rfl) (by kernel_rfl) (by kernel_rfl) (fun _ _ _ h => h) (Or.inl ⟨by rfl, ?hysd11⟩) (by assumption) ?restsd11
  case hysd11 => (intro w hSw; (try dsimp only at hSw); (try simp only [List.getElem_toArray, List.getElem_cons_zero, List.getElem_cons_succ]); go_simp; (try with_reducible rfl))
  (try simp only [Act.put, List.setIfInBounds_toArray, List.set_cons_zero, List.set_cons_succ, List.getElem_toArray, List.getElem_cons_zero, List.getElem_cons_succ])
  refine wpAnyH_take (i := 12) (oi := _) (v := ?vsd12) rfl (by kernel_rfl) (by kernel_rfl) (by kernel_rfl) (fun _ _ _ h => h) (Or.inl ⟨by rfl, ?hysd12⟩) (by assumption) ?restsd12
  case hysd12 => (intro w hSw; (try dsimp only at hSw); (try simp only [List.getElem_toArray, List.getElem_cons_zero, List.getElem_cons_succ]); go_simp; (try with_reducible rfl))
  (try simp only [Act.put, List.setIfInBounds_toArray, List.set_cons_zero, List.set_cons_succ, List.getElem_toArray, List.getElem_cons_zero, List.getElem_cons_succ])
  refine wpAnyH_take (i := 13) (oi := _) (v := ?vsd13) rfl (by kernel_rfl) (by kernel_rfl) (by kernel_rfl) (fun _ _ _ h => h) (Or.inl ⟨by rfl, ?hysd13⟩) (by assumption) ?restsd13
  case hysd13 => (intro w hSw; (try dsimp only at hSw); (try simp only [List.getElem_toArray, List.getElem_cons_zero, List.getElem_cons_succ]); go_simp; (try with_reducible rfl))
  (try simp only [Act.put, List.setIfInBounds_toArray, List.set_cons_zero, List.set_cons_succ, List.getElem_toArray, List.getElem_cons_zero, List.getElem_cons_succ])
  refine wpAnyH_take (i := 14) (oi := _) (v := ?vsd14) rfl (by kernel_rfl) (by kernel_rfl) (by kernel_rfl) (fun _ _ _ h => h) (Or.inl ⟨by rfl, ?hysd14⟩) (by assumption) ?restsd14
  case hysd14 => (intro w hSw; (try dsimp only at hSw); (try simp only [List.getElem_toArray, List.getElem_cons_zero, List.getElem_cons_succ]); go_simp; (try with_reducible rfl))
  (try simp only [Act.put, List.setIfInBounds_toArray, List.set_cons_zero, List.set_cons_succ, List.getElem_toArray, List.getElem_cons_zero, List.getElem_cons_succ])
  refine wpAnyH_take (i := 15) (oi := _) (v := ?vsd15) rfl (by kernel_rfl) (by kernel_rfl) (by kernel_rfl) (fun _ _ _ h => h) (Or.inl ⟨by rfl, ?hysd15⟩) (by assumption) ?restsd15
  case hysd15 => (intro w hSw; (try dsimp only at hSw); (try simp only [List.getElem_toArray, List.getElem_cons_zero, List.getElem_cons_succ]); go_simp; (try with_reducible rfl))
  (try simp only [Act.put, List.setIfInBounds_toArray, List.set_cons_zero, List.set_cons_succ, List.getElem_toArray, List.getElem_cons_zero, List.getElem_cons_succ])
  refine wpAnyH_done (by kernel_rfl) ?_ _
  refine NoPanic.normal ?_
  go_wp2_with fail
  refine (HT.out _ H3.out).mono ?_
  rintro e w3 ⟨rfl, hq, hk⟩
  have H4 := Lib.hid hq
  have K4 := Lib.hid (K3.out.trans hk (fun _ _ x => x))
  clear hq hk
  go_wp2_with fail
  go_ret
  exact ⟨rfl, H4.out, K4.out⟩

theorem size_any (a b : Int) (h : PactAt w p L name d l m) (hok : m.Ok) :
    Calls Try.prog 11 #[.pointer (some ⟨p, 0, none⟩), .int .i64 a, .int .i64 b] w fun e w' => e = .returned (.string ⟨(m.sizeT a b).toArray⟩) ∧ PactAt w' p L name d l (m.size a b) ∧ Keep (pown p L) w w' := by
  by_cases h1 : (m.us 31).1 = 1
  · have h1' : ((m.us 31).1 == 1) = true := by simpa using h1
    have ht := hok.told h1
    by_cases h2 : sz a = m.tw
    · by_cases h3 : sz b = m.th
      · have e : m.news a b = false := by simp [Pm.news, h1, ht, h2, h3]
        rw [show m.sizeT a b = [] by rw [Pm.sizeT, e]; rfl, show m.size a b = m.sized a b by rw [Pm.size, e]; rfl]
        exact size_same p L name d l m w a b h h1' h2 h3
      · have e : m.news a b = true := by simp [Pm.news, h1, ht, h2, h3]
        rw [show m.sizeT a b = sizeL (m.sized a b) by rw [Pm.sizeT, e]; rfl, show m.size a b = (m.sized a b).tell by rw [Pm.size, e]; rfl]
        exact size_new2 p L name d l m w a b h h1' h2 h3
    · have e : m.news a b = true := by simp [Pm.news, h1, ht, h2]
      rw [show m.sizeT a b = sizeL (m.sized a b) by rw [Pm.sizeT, e]; rfl, show m.size a b = (m.sized a b).tell by rw [Pm.size, e]; rfl]
      exact size_new1 p L name d l m w a b h h1' h2
  · have e : m.news a b = false := by simp [Pm.news, h1]
    rw [show m.sizeT a b = [] by rw [Pm.sizeT, e]; rfl, show m.size a b = m.sized a b by rw [Pm.size, e]; rfl]
    exact size_off p L name d l m w a b h (by simpa using h1)
end

end Go.Proofs.Ytmkgcmnimpkmjaa
