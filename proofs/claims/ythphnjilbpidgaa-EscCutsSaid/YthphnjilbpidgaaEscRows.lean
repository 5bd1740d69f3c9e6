/- esc's table: its rows, makeTable. By program (rgn/XEscRows.py). Own work. -/
import Derived.Test.YthphnjilbpidgaaEscLay
namespace Go.Proofs.Ythphnjilbpidgaa
set_option linter.unusedVariables false
set_option linter.unusedSimpArgs false
open Go.RowKit

def commonL (s : Nat) : List Nat := layR (layR (layR (layR (layR zrow 0 1 s 2) 2 2 0 0) 3 3 1 0) 13 13 s 0) 14 14 0 1
def escL (s fn fd e : Nat) : List Nat := layR (layR (commonL s) 4 4 fn fd) 5 12 0 e
def csiL (s fn fd e : Nat) : List Nat := layR (layR (layR (commonL s) 4 4 fn fd) 5 8 9 0) 9 12 0 e
def numL (s : Nat) : List Nat := layR (layR (csiL s 7 8 4) 5 5 6 9) 7 7 6 10
def textL (s e : Nat) : List Nat := layR (layR (layR (layR zrow 0 1 s 0) 2 2 0 0) 3 3 1 e) 4 14 s 11
theorem commonL_len (s : Nat) : (commonL s).length = 30 := by simp only [commonL, layR_len]; rfl
theorem escL_len (s fn fd e : Nat) : (escL s fn fd e).length = 30 := by simp only [escL, layR_len]; exact commonL_len s
theorem csiL_len (s fn fd e : Nat) : (csiL s fn fd e).length = 30 := by simp only [csiL, layR_len]; exact commonL_len s
theorem numL_len (s : Nat) : (numL s).length = 30 := by simp only [numL, layR_len]; exact csiL_len _ _ _ _
theorem textL_len (s e : Nat) : (textL s e).length = 30 := by simp only [textL, layR_len]; rfl

/-- The result's row, which nothing turns till it is stored. -/
structure Rq (w : World) (g : Nat) (w' : World) : Prop where
  q : w'.heap[g]? = some (.cells (u8a zrow) 73 (0, 0))
  b : Below g w w'
theorem Rq.start (w : World) (g : Nat) (hg : g = w.heap.size) : Rq w g (w.alloc (.cells (u8a zrow) 73)) := by
  subst hg; exact ⟨heap_alloc_new w _, (Below.refl _ w).alloc (Nat.le_refl _) _⟩
theorem Rq.step {w w1 w2 : World} {g : Nat} (h : Rq w g w1) (k : Below w1.heap.size w1 w2) : Rq w g w2 :=
  ⟨(k.block g (lt_heap h.q)).trans h.q, h.b.trans (k.mono (Nat.le_of_lt (lt_heap h.q)))⟩
theorem Rq.alloc {w w1 : World} {g : Nat} (h : Rq w g w1) (o : Obj) : Rq w g (w1.alloc o) := ⟨heap_alloc h.q o, h.b.alloc (Nat.le_of_lt (lt_heap h.q)) o⟩
theorem Rq.drew {w w1 : World} {g : Nat} (h : Rq w g w1) : Rq w g w1.drew := ⟨h.q, h.b.drew⟩

theorem lay_is (l : List Nat) (T T' : Array Value) (f t a b : Nat) (w : World) (h : u8a l = T) (h' : u8a (layR l f t a b) = T') (hl : l.length = 30) (hf : f ≤ t) (ht : t ≤ 14) :
    Calls Try.prog 38 #[.agg T, .int .u8 (f : Int), .int .u8 (t : Int), .agg #[.int .u8 (a : Int), .int .u8 (b : Int)]] w fun e w' => e = .returned (.agg T') ∧ Below w.heap.size w w' := by
  subst h h'; exact lay_any l f t a b w hl hf ht

set_option maxRecDepth 100000 in
set_option maxHeartbeats 3200000 in
theorem common_any (s : Nat) (T' : Array Value) (hT' : u8a (commonL s) = T') (w : World) :
    Calls Try.prog 37 #[.int .u8 (s : Int)] w fun e w' => e = .returned (.agg T') ∧ Below w.heap.size w w' := by
  subst hT'
  obtain ⟨g, hg⟩ : ∃ g, g = w.heap.size := ⟨_, rfl⟩
  have HG := Lib.hid hg
  have R0 := Lib.hid (Rq.start w g hg)
  clear hg
  go_enter Try.func37, Try.ntmps37
  go_wp2_with fail
  rw [← HG.out]
  obtain ⟨T1, h1⟩ : ∃ T, u8a (layR (zrow) 0 1 s 2) = T := ⟨_, rfl⟩
  have H1 := Lib.hid h1
  clear h1
  refine (lay_is (zrow) _ _ 0 1 s 2 _ rfl H1.out rfl (by omega) (by omega)).mono ?_
  rintro e w1 ⟨rfl, hb⟩
  have R1 := Lib.hid (R0.out.step hb)
  clear hb
  go_wp2_with fail
  obtain ⟨T2, h2⟩ : ∃ T, u8a (layR (layR (zrow) 0 1 s 2) 2 2 0 0) = T := ⟨_, rfl⟩
  have H2 := Lib.hid h2
  clear h2
  refine (lay_is (layR (zrow) 0 1 s 2) _ _ 2 2 0 0 _ H1.out H2.out (by simp only [layR_len]; rfl) (by omega) (by omega)).mono ?_
  rintro e w2 ⟨rfl, hb⟩
  have R2 := Lib.hid (R1.out.step hb)
  clear hb
  go_wp2_with fail
  obtain ⟨T3, h3⟩ : ∃ T, u8a (layR (layR (layR (zrow) 0 1 s 2) 2 2 0 0) 3 3 1 0) = T := ⟨_, rfl⟩
  have H3 := Lib.hid h3
  clear h3
  refine (lay_is (layR (layR (zrow) 0 1 s 2) 2 2 0 0) _ _ 3 3 1 0 _ H2.out H3.out (by simp only [layR_len]; rfl) (by omega) (by omega)).mono ?_
  rintro e w3 ⟨rfl, hb⟩
  have R3 := Lib.hid (R2.out.step hb)
  clear hb
  go_wp2_with fail
  obtain ⟨T4, h4⟩ : ∃ T, u8a (layR (layR (layR (layR (zrow) 0 1 s 2) 2 2 0 0) 3 3 1 0) 13 13 s 0) = T := ⟨_, rfl⟩
  have H4 := Lib.hid h4
  clear h4
  refine (lay_is (layR (layR (layR (zrow) 0 1 s 2) 2 2 0 0) 3 3 1 0) _ _ 13 13 s 0 _ H3.out H4.out (by simp only [layR_len]; rfl) (by omega) (by omega)).mono ?_
  rintro e w4 ⟨rfl, hb⟩
  have R4 := Lib.hid (R3.out.step hb)
  clear hb
  go_wp2_with fail
  obtain ⟨T5, h5⟩ : ∃ T, u8a (layR (layR (layR (layR (layR (zrow) 0 1 s 2) 2 2 0 0) 3 3 1 0) 13 13 s 0) 14 14 0 1) = T := ⟨_, rfl⟩
  have H5 := Lib.hid h5
  clear h5
  refine (lay_is (layR (layR (layR (layR (zrow) 0 1 s 2) 2 2 0 0) 3 3 1 0) 13 13 s 0) _ _ 14 14 0 1 _ H4.out H5.out (by simp only [layR_len]; rfl) (by omega) (by omega)).mono ?_
  rintro e w5 ⟨rfl, hb⟩
  have R5 := Lib.hid (R4.out.step hb)
  clear hb
  have HI : Hid ((Try.prog.info? 73).map (·.size) = some T5.size) := Lib.hid (by rw [← H5.out, u8a_size, show (layR (layR (layR (layR (layR (zrow) 0 1 s 2) 2 2 0 0) 3 3 1 0) 13 13 s 0) 14 14 0 1).length = 30 from (by simp only [layR_len]; rfl)]; exact row_info)
  have HI0 : Hid ((u8a zrow).size = T5.size) := Lib.hid (by rw [← H5.out, u8a_size, u8a_size, show (layR (layR (layR (layR (layR (zrow) 0 1 s 2) 2 2 0 0) 3 3 1 0) 13 13 s 0) 14 14 0 1).length = 30 from (by simp only [layR_len]; rfl)]; rfl)
  have HO : Hid (T5.all (·.oneCell') = true) := Lib.hid (by rw [← H5.out]; exact u8a_one _)
  have HQ := R5.out.q
  go_wp2_with (with_reducible refine wpList_store_row rfl 73 (.tmp 2) (.tmp 15) rfl g T5 rfl rfl 73 (u8a zrow) HQ HI.out HI0.out HO.out ?_)
  refine bodyPost_ret (v := .agg T5) ?_ rfl ⟨by rw [← H5.out]; rfl, ?_⟩
  · exact results_cell_row Try.results37 _ _ g 73 _ (0, 0) _ rfl (setRow_heap _ _ _ _ _ _ HQ) Try.underlying73 rfl HI.out
  · rw [← HG.out]
    exact ⟨R5.out.b.os, R5.out.b.tape, R5.out.b.output, by simpa using R5.out.b.size, fun k hk => (setRow_other _ _ _ _ (by omega)).trans (R5.out.b.block k hk)⟩

set_option maxRecDepth 100000 in
set_option maxHeartbeats 3200000 in
theorem text_any (s e : Nat) (T' : Array Value) (hT' : u8a (textL s e) = T') (w : World) :
    Calls Try.prog 42 #[.int .u8 (s : Int), .int .u8 (e : Int)] w fun e w' => e = .returned (.agg T') ∧ Below w.heap.size w w' := by
  subst hT'
  obtain ⟨g, hg⟩ : ∃ g, g = w.heap.size := ⟨_, rfl⟩
  have HG := Lib.hid hg
  have R0 := Lib.hid (Rq.start w g hg)
  clear hg
  go_enter Try.func42, Try.ntmps42
  go_wp2_with fail
  rw [← HG.out]
  obtain ⟨T1, h1⟩ : ∃ T, u8a (layR (zrow) 0 1 s 0) = T := ⟨_, rfl⟩
  have H1 := Lib.hid h1
  clear h1
  refine (lay_is (zrow) _ _ 0 1 s 0 _ rfl H1.out rfl (by omega) (by omega)).mono ?_
  rintro e w1 ⟨rfl, hb⟩
  have R1 := Lib.hid (R0.out.step hb)
  clear hb
  go_wp2_with fail
  obtain ⟨T2, h2⟩ : ∃ T, u8a (layR (layR (zrow) 0 1 s 0) 2 2 0 0) = T := ⟨_, rfl⟩
  have H2 := Lib.hid h2
  clear h2
  refine (lay_is (layR (zrow) 0 1 s 0) _ _ 2 2 0 0 _ H1.out H2.out (by simp only [layR_len]; rfl) (by omega) (by omega)).mono ?_
  rintro e w2 ⟨rfl, hb⟩
  have R2 := Lib.hid (R1.out.step hb)
  clear hb
  go_wp2_with fail
  obtain ⟨T3, h3⟩ : ∃ T, u8a (layR (layR (layR (zrow) 0 1 s 0) 2 2 0 0) 3 3 1 e) = T := ⟨_, rfl⟩
  have H3 := Lib.hid h3
  clear h3
  refine (lay_is (layR (layR (zrow) 0 1 s 0) 2 2 0 0) _ _ 3 3 1 e _ H2.out H3.out (by simp only [layR_len]; rfl) (by omega) (by omega)).mono ?_
  rintro e w3 ⟨rfl, hb⟩
  have R3 := Lib.hid (R2.out.step hb)
  clear hb
  go_wp2_with fail
  obtain ⟨T4, h4⟩ : ∃ T, u8a (layR (layR (layR (layR (zrow) 0 1 s 0) 2 2 0 0) 3 3 1 e) 4 14 s 11) = T := ⟨_, rfl⟩
  have H4 := Lib.hid h4
  clear h4
  refine (lay_is (layR (layR (layR (zrow) 0 1 s 0) 2 2 0 0) 3 3 1 e) _ _ 4 14 s 11 _ H3.out H4.out (by simp only [layR_len]; rfl) (by omega) (by omega)).mono ?_
  rintro e w4 ⟨rfl, hb⟩
  have R4 := Lib.hid (R3.out.step hb)
  clear hb
  have HI : Hid ((Try.prog.info? 73).map (·.size) = some T4.size) := Lib.hid (by rw [← H4.out, u8a_size, show (layR (layR (layR (layR (zrow) 0 1 s 0) 2 2 0 0) 3 3 1 e) 4 14 s 11).length = 30 from (by simp only [layR_len]; rfl)]; exact row_info)
  have HI0 : Hid ((u8a zrow).size = T4.size) := Lib.hid (by rw [← H4.out, u8a_size, u8a_size, show (layR (layR (layR (layR (zrow) 0 1 s 0) 2 2 0 0) 3 3 1 e) 4 14 s 11).length = 30 from (by simp only [layR_len]; rfl)]; rfl)
  have HO : Hid (T4.all (·.oneCell') = true) := Lib.hid (by rw [← H4.out]; exact u8a_one _)
  have HQ := R4.out.q
  go_wp2_with (with_reducible refine wpList_store_row rfl 73 (.tmp 4) (.tmp 16) rfl g T4 rfl rfl 73 (u8a zrow) HQ HI.out HI0.out HO.out ?_)
  refine bodyPost_ret (v := .agg T4) ?_ rfl ⟨by rw [← H4.out]; rfl, ?_⟩
  · exact results_cell_row Try.results42 _ _ g 73 _ (0, 0) _ rfl (setRow_heap _ _ _ _ _ _ HQ) Try.underlying73 rfl HI.out
  · rw [← HG.out]
    exact ⟨R4.out.b.os, R4.out.b.tape, R4.out.b.output, by simpa using R4.out.b.size, fun k hk => (setRow_other _ _ _ _ (by omega)).trans (R4.out.b.block k hk)⟩

structure Rz (w : World) (g0 g : Nat) (c : Array Value) (w' : World) : Prop where
  q : w'.heap[g]? = some (.cells (u8a zrow) 73 (0, 0))
  c : w'.heap[g0]? = some (.cells c 71 (0, 0))
  b : Below g0 w w'
theorem Rz.start (w : World) (c : Array Value) : Rz w w.heap.size (w.heap.size + 1) c ((w.alloc (.cells c 71)).alloc (.cells (u8a zrow) 73)) := by
  have h := heap_alloc_new (w.alloc (.cells c 71)) (.cells (u8a zrow) 73)
  rw [show (w.alloc (.cells c 71)).heap.size = w.heap.size + 1 from by simp] at h
  exact ⟨h, heap_alloc (heap_alloc_new w _) _, ((Below.refl _ w).alloc (Nat.le_refl _) _).alloc (by simp) _⟩
theorem Rz.step {w w1 w2 : World} {g0 g : Nat} {c : Array Value} (h : Rz w g0 g c w1) (k : Below w1.heap.size w1 w2) : Rz w g0 g c w2 :=
  ⟨(k.block g (lt_heap h.q)).trans h.q, (k.block g0 (lt_heap h.c)).trans h.c, h.b.trans (k.mono (Nat.le_of_lt (lt_heap h.c)))⟩

set_option maxRecDepth 100000 in
set_option maxHeartbeats 3200000 in
theorem esc_any (s fn fd e : Nat) (T' : Array Value) (hT' : u8a (escL s fn fd e) = T') (w : World) :
    Calls Try.prog 39 #[.int .u8 (s : Int), .agg #[.int .u8 (fn : Int), .int .u8 (fd : Int)], .int .u8 (e : Int)] w fun e w' => e = .returned (.agg T') ∧ Below w.heap.size w w' := by
  subst hT'
  obtain ⟨W, hW⟩ : ∃ W : World, W = (w.alloc (.cells #[.int .u8 (fn : Int), .int .u8 (fd : Int)] 71)).alloc (.cells (u8a zrow) 73) := ⟨_, rfl⟩
  obtain ⟨g0, hg0⟩ : ∃ g0, g0 = w.heap.size := ⟨_, rfl⟩
  obtain ⟨g, hg⟩ : ∃ g, g = w.heap.size + 1 := ⟨_, rfl⟩
  have R0 : Hid (Rz w g0 g #[.int .u8 (fn : Int), .int .u8 (fd : Int)] W) := Lib.hid (by rw [hW, hg, hg0]; exact Rz.start w _)
  have HG := Lib.hid hg0
  have hgg : g0 < g := by omega
  go_enter Try.func39, Try.ntmps39
  go_wp2_with fail
  have hW2 : W = (w.alloc (.cells #[.int .u8 (fn : Int), .int .u8 (fd : Int)] 71)).alloc (.cells #[.int .u8 0, .int .u8 0, .int .u8 0, .int .u8 0, .int .u8 0, .int .u8 0, .int .u8 0, .int .u8 0, .int .u8 0, .int .u8 0, .int .u8 0, .int .u8 0, .int .u8 0, .int .u8 0, .int .u8 0, .int .u8 0, .int .u8 0, .int .u8 0, .int .u8 0, .int .u8 0, .int .u8 0, .int .u8 0, .int .u8 0, .int .u8 0, .int .u8 0, .int .u8 0, .int .u8 0, .int .u8 0, .int .u8 0, .int .u8 0] 73) := hW
  rw [← hW2, ← hg, ← hg0]
  clear hW hW2 hg hg0
  obtain ⟨T1, h1⟩ : ∃ T, u8a (commonL s) = T := ⟨_, rfl⟩
  have H1 := Lib.hid h1
  clear h1
  obtain ⟨T2, h2⟩ : ∃ T, u8a (layR (commonL s) 4 4 fn fd) = T := ⟨_, rfl⟩
  have H2 := Lib.hid h2
  clear h2
  obtain ⟨T3, h3⟩ : ∃ T, u8a (layR (layR (commonL s) 4 4 fn fd) 5 12 0 e) = T := ⟨_, rfl⟩
  have H3 := Lib.hid h3
  clear h3
  have HI : Hid ((Try.prog.info? 73).map (·.size) = some T3.size) := Lib.hid (by rw [← H3.out, u8a_size, show (layR (layR (commonL s) 4 4 fn fd) 5 12 0 e).length = 30 from (by (try simp only [layR_len]); exact commonL_len s)]; exact row_info)
  have HI0 : Hid ((u8a zrow).size = T3.size) := Lib.hid (by rw [← H3.out, u8a_size, u8a_size, show (layR (layR (commonL s) 4 4 fn fd) 5 12 0 e).length = 30 from (by (try simp only [layR_len]); exact commonL_len s)]; rfl)
  have HO : Hid (T3.all (·.oneCell') = true) := Lib.hid (by rw [← H3.out]; exact u8a_one _)
  refine wp_region_noPanic ?_
  refine wp_region_held_drew (S := fun w' => w'.cell? ⟨g0, 0, none⟩ = some (.int .u8 (fn : Int)) ∧ w'.cell? ⟨g0, 1, none⟩ = some (.int .u8 (fd : Int))) (by kernel_rfl) ⟨cell_at R0.out.c 0, cell_at R0.out.c 1⟩ (fun hHeld => ?_)
  refine wpAnyH_take (i := 0) (oi := _) (v := ?va0) rfl (by kernel_rfl) (by kernel_rfl) (by kernel_rfl) (fun _ _ _ h => h) (Or.inl ⟨by rfl, ?hya0⟩) (by assumption) ?resta0
  case hya0 => (intro w hSw; (try dsimp only at hSw); (try simp only [List.getElem_toArray, List.getElem_cons_zero, List.getElem_cons_succ]); go_simp; (try with_reducible rfl))
  (try simp only [Act.put, List.setIfInBounds_toArray, List.set_cons_zero, List.set_cons_succ, List.getElem_toArray, List.getElem_cons_zero, List.getElem_cons_succ])
  refine wpAnyH_take (i := 2) (oi := _) (v := ?va2) rfl (by kernel_rfl) (by kernel_rfl) (by kernel_rfl) (fun _ _ _ h => h) (Or.inl ⟨by rfl, ?hya2⟩) (by assumption) ?resta2
  case hya2 => (intro w hSw; (try dsimp only at hSw); (try simp only [List.getElem_toArray, List.getElem_cons_zero, List.getElem_cons_succ]); go_simp; (try with_reducible rfl))
  (try simp only [Act.put, List.setIfInBounds_toArray, List.set_cons_zero, List.set_cons_succ, List.getElem_toArray, List.getElem_cons_zero, List.getElem_cons_succ])
  refine wpAnyH_take (i := 4) (oi := _) (v := ?va4) rfl (by kernel_rfl) (by kernel_rfl) (by kernel_rfl) (fun _ _ _ h => h) (Or.inl ⟨by rfl, ?hya4⟩) (by assumption) ?resta4
  case hya4 => (intro w hSw; (try dsimp only at hSw); (try simp only [List.getElem_toArray, List.getElem_cons_zero, List.getElem_cons_succ]); go_simp; (try with_reducible rfl))
  (try simp only [Act.put, List.setIfInBounds_toArray, List.set_cons_zero, List.set_cons_succ, List.getElem_toArray, List.getElem_cons_zero, List.getElem_cons_succ])
  refine wpAnyH_take (i := 5) (oi := _) (v := ?va5) rfl (by kernel_rfl) (by kernel_rfl) (by kernel_rfl) (fun _ _ _ h => h) (Or.inl ⟨by rfl, ?hya5⟩) (by assumption) ?resta5
  case hya5 => (intro w hSw; (try dsimp only at hSw); (try simp only [List.getElem_toArray, List.getElem_cons_zero, List.getElem_cons_succ]); go_simp; (try with_reducible rfl))
  (try simp only [Act.put, List.setIfInBounds_toArray, List.set_cons_zero, List.set_cons_succ, List.getElem_toArray, List.getElem_cons_zero, List.getElem_cons_succ])
  refine wpAnyH_ready (rs := [1]) (by kernel_rfl) (by simp) ?_
  refine AllReadyH.cons (o := _) rfl (fun K hK => ?_) AllReadyH.nil
  (try simp only [List.getElem_toArray, List.getElem_cons_zero, List.getElem_cons_succ])
  go_simp
  refine (common_any s _ H1.out _).mono ?_; rintro e w1 ⟨rfl, hb⟩; have R1 : Hid (Rz w g0 g _ w1) := Lib.hid (R0.out.step ⟨hb.os, hb.tape, hb.output, hb.size, hb.block⟩); clear hb
  refine hK.out _ _ ?_ (fun hHeld => ?_)
  · exact ⟨cell_at R1.out.c 0, cell_at R1.out.c 1⟩
  clear hK K
  (try simp only [Act.put, List.setIfInBounds_toArray, List.set_cons_zero, List.set_cons_succ, List.getElem_toArray, List.getElem_cons_zero, List.getElem_cons_succ])
  refine wpAnyH_ready (rs := [3]) (by kernel_rfl) (by simp) ?_
  refine AllReadyH.cons (o := _) rfl (fun K hK => ?_) AllReadyH.nil
  (try simp only [List.getElem_toArray, List.getElem_cons_zero, List.getElem_cons_succ])
  go_simp
  refine (lay_is (commonL s) _ _ 4 4 fn fd _ H1.out H2.out (by (try simp only [layR_len]); exact commonL_len s) (by omega) (by omega)).mono ?_; rintro e w2 ⟨rfl, hb⟩; have R2 : Hid (Rz w g0 g _ w2) := Lib.hid (R1.out.step hb); clear hb
  refine hK.out _ _ ?_ (fun hHeld => ?_)
  · exact ⟨cell_at R2.out.c 0, cell_at R2.out.c 1⟩
  clear hK K
  (try simp only [Act.put, List.setIfInBounds_toArray, List.set_cons_zero, List.set_cons_succ, List.getElem_toArray, List.getElem_cons_zero, List.getElem_cons_succ])
  refine wpAnyH_ready (rs := [6]) (by kernel_rfl) (by simp) ?_
  refine AllReadyH.cons (o := _) rfl (fun K hK => ?_) AllReadyH.nil
  (try simp only [List.getElem_toArray, List.getElem_cons_zero, List.getElem_cons_succ])
  go_simp
  refine (lay_is (layR (commonL s) 4 4 fn fd) _ _ 5 12 0 e _ H2.out H3.out (by (try simp only [layR_len]); exact commonL_len s) (by omega) (by omega)).mono ?_; rintro e w3 ⟨rfl, hb⟩; have R3 : Hid (Rz w g0 g _ w3) := Lib.hid (R2.out.step hb); clear hb
  refine hK.out _ _ ?_ (fun hHeld => ?_)
  · exact ⟨cell_at R3.out.c 0, cell_at R3.out.c 1⟩
  clear hK K
  (try simp only [Act.put, List.setIfInBounds_toArray, List.set_cons_zero, List.set_cons_succ, List.getElem_toArray, List.getElem_cons_zero, List.getElem_cons_succ])
  refine wpAnyH_ready (rs := [7]) (by kernel_rfl) (by simp) ?_
  refine AllReadyH.cons (o := _) rfl (fun K hK => ?_) AllReadyH.nil
  (try simp only [List.getElem_toArray, List.getElem_cons_zero, List.getElem_cons_succ])
  rw [if_pos (by rfl)]; refine wp_store_row 73 (.tmp 6) (.tmp 13) rfl g T3 rfl rfl 73 (u8a zrow) R3.out.q HI.out HI0.out HO.out ?_; have hcc := (setRow_other w3 g g0 T3 (by omega)).trans R3.out.c
  refine hK.out _ _ ?_ (fun hHeld => ?_)
  · exact ⟨cell_at hcc 0, cell_at hcc 1⟩
  clear hK K
  (try simp only [Act.put, List.setIfInBounds_toArray, List.set_cons_zero, List.set_cons_succ, List.getElem_toArray, List.getElem_cons_zero, List.getElem_cons_succ])
  refine wpAnyH_done (by kernel_rfl) ?_ _
  refine NoPanic.normal ?_
  clear hHeld
  go_wp2_with fail
  refine bodyPost_ret (v := .agg T3) ?_ rfl ⟨by rw [← H3.out]; rfl, ?_⟩
  · exact results_cell_row Try.results39 _ _ g 73 _ (0, 0) _ rfl (setRow_heap _ _ _ _ _ _ R3.out.q) Try.underlying73 rfl HI.out
  · rw [← HG.out]
    exact ⟨R3.out.b.os, R3.out.b.tape, R3.out.b.output, by simpa using R3.out.b.size, fun k hk => (setRow_other _ _ _ _ (by omega)).trans (R3.out.b.block k hk)⟩

set_option maxRecDepth 100000 in
set_option maxHeartbeats 3200000 in
theorem csi_any (s fn fd e : Nat) (T' : Array Value) (hT' : u8a (csiL s fn fd e) = T') (w : World) :
    Calls Try.prog 41 #[.int .u8 (s : Int), .agg #[.int .u8 (fn : Int), .int .u8 (fd : Int)], .int .u8 (e : Int)] w fun e w' => e = .returned (.agg T') ∧ Below w.heap.size w w' := by
  subst hT'
  obtain ⟨W, hW⟩ : ∃ W : World, W = (w.alloc (.cells #[.int .u8 (fn : Int), .int .u8 (fd : Int)] 71)).alloc (.cells (u8a zrow) 73) := ⟨_, rfl⟩
  obtain ⟨g0, hg0⟩ : ∃ g0, g0 = w.heap.size := ⟨_, rfl⟩
  obtain ⟨g, hg⟩ : ∃ g, g = w.heap.size + 1 := ⟨_, rfl⟩
  have R0 : Hid (Rz w g0 g #[.int .u8 (fn : Int), .int .u8 (fd : Int)] W) := Lib.hid (by rw [hW, hg, hg0]; exact Rz.start w _)
  have HG := Lib.hid hg0
  have hgg : g0 < g := by omega
  go_enter Try.func41, Try.ntmps41
  go_wp2_with fail
  have hW2 : W = (w.alloc (.cells #[.int .u8 (fn : Int), .int .u8 (fd : Int)] 71)).alloc (.cells #[.int .u8 0, .int .u8 0, .int .u8 0, .int .u8 0, .int .u8 0, .int .u8 0, .int .u8 0, .int .u8 0, .int .u8 0, .int .u8 0, .int .u8 0, .int .u8 0, .int .u8 0, .int .u8 0, .int .u8 0, .int .u8 0, .int .u8 0, .int .u8 0, .int .u8 0, .int .u8 0, .int .u8 0, .int .u8 0, .int .u8 0, .int .u8 0, .int .u8 0, .int .u8 0, .int .u8 0, .int .u8 0, .int .u8 0, .int .u8 0] 73) := hW
  rw [← hW2, ← hg, ← hg0]
  clear hW hW2 hg hg0
  obtain ⟨T1, h1⟩ : ∃ T, u8a (commonL s) = T := ⟨_, rfl⟩
  have H1 := Lib.hid h1
  clear h1
  obtain ⟨T2, h2⟩ : ∃ T, u8a (layR (commonL s) 4 4 fn fd) = T := ⟨_, rfl⟩
  have H2 := Lib.hid h2
  clear h2
  obtain ⟨T3, h3⟩ : ∃ T, u8a (layR (layR (commonL s) 4 4 fn fd) 5 8 9 0) = T := ⟨_, rfl⟩
  have H3 := Lib.hid h3
  clear h3
  obtain ⟨T4, h4⟩ : ∃ T, u8a (layR (layR (layR (commonL s) 4 4 fn fd) 5 8 9 0) 9 12 0 e) = T := ⟨_, rfl⟩
  have H4 := Lib.hid h4
  clear h4
  have HI : Hid ((Try.prog.info? 73).map (·.size) = some T4.size) := Lib.hid (by rw [← H4.out, u8a_size, show (layR (layR (layR (commonL s) 4 4 fn fd) 5 8 9 0) 9 12 0 e).length = 30 from (by (try simp only [layR_len]); exact commonL_len s)]; exact row_info)
  have HI0 : Hid ((u8a zrow).size = T4.size) := Lib.hid (by rw [← H4.out, u8a_size, u8a_size, show (layR (layR (layR (commonL s) 4 4 fn fd) 5 8 9 0) 9 12 0 e).length = 30 from (by (try simp only [layR_len]); exact commonL_len s)]; rfl)
  have HO : Hid (T4.all (·.oneCell') = true) := Lib.hid (by rw [← H4.out]; exact u8a_one _)
  refine wp_region_noPanic ?_
  refine wp_region_held_drew (S := fun w' => w'.cell? ⟨g0, 0, none⟩ = some (.int .u8 (fn : Int)) ∧ w'.cell? ⟨g0, 1, none⟩ = some (.int .u8 (fd : Int))) (by kernel_rfl) ⟨cell_at R0.out.c 0, cell_at R0.out.c 1⟩ (fun hHeld => ?_)
  refine wpAnyH_take (i := 0) (oi := _) (v := ?va0) rfl (by kernel_rfl) (by kernel_rfl) (by kernel_rfl) (fun _ _ _ h => h) (Or.inl ⟨by rfl, ?hya0⟩) (by assumption) ?resta0
  case hya0 => (intro w hSw; (try dsimp only at hSw); (try simp only [List.getElem_toArray, List.getElem_cons_zero, List.getElem_cons_succ]); go_simp; (try with_reducible rfl))
  (try simp only [Act.put, List.setIfInBounds_toArray, List.set_cons_zero, List.set_cons_succ, List.getElem_toArray, List.getElem_cons_zero, List.getElem_cons_succ])
  refine wpAnyH_take (i := 2) (oi := _) (v := ?va2) rfl (by kernel_rfl) (by kernel_rfl) (by kernel_rfl) (fun _ _ _ h => h) (Or.inl ⟨by rfl, ?hya2⟩) (by assumption) ?resta2
  case hya2 => (intro w hSw; (try dsimp only at hSw); (try simp only [List.getElem_toArray, List.getElem_cons_zero, List.getElem_cons_succ]); go_simp; (try with_reducible rfl))
  (try simp only [Act.put, List.setIfInBounds_toArray, List.set_cons_zero, List.set_cons_succ, List.getElem_toArray, List.getElem_cons_zero, List.getElem_cons_succ])
  refine wpAnyH_take (i := 4) (oi := _) (v := ?va4) rfl (by kernel_rfl) (by kernel_rfl) (by kernel_rfl) (fun _ _ _ h => h) (Or.inl ⟨by rfl, ?hya4⟩) (by assumption) ?resta4
  case hya4 => (intro w hSw; (try dsimp only at hSw); (try simp only [List.getElem_toArray, List.getElem_cons_zero, List.getElem_cons_succ]); go_simp; (try with_reducible rfl))
  (try simp only [Act.put, List.setIfInBounds_toArray, List.set_cons_zero, List.set_cons_succ, List.getElem_toArray, List.getElem_cons_zero, List.getElem_cons_succ])
  refine wpAnyH_take (i := 6) (oi := _) (v := ?va6) rfl (by kernel_rfl) (by kernel_rfl) (by kernel_rfl) (fun _ _ _ h => h) (Or.inl ⟨by rfl, ?hya6⟩) (by assumption) ?resta6
  case hya6 => (intro w hSw; (try dsimp only at hSw); (try simp only [List.getElem_toArray, List.getElem_cons_zero, List.getElem_cons_succ]); go_simp; (try with_reducible rfl))
  (try simp only [Act.put, List.setIfInBounds_toArray, List.set_cons_zero, List.set_cons_succ, List.getElem_toArray, List.getElem_cons_zero, List.getElem_cons_succ])
  refine wpAnyH_take (i := 7) (oi := _) (v := ?va7) rfl (by kernel_rfl) (by kernel_rfl) (by kernel_rfl) (fun _ _ _ h => h) (Or.inl ⟨by rfl, ?hya7⟩) (by assumption) ?resta7
  case hya7 => (intro w hSw; (try dsimp only at hSw); (try simp only [List.getElem_toArray, List.getElem_cons_zero, List.getElem_cons_succ]); go_simp; (try with_reducible rfl))
  (try simp only [Act.put, List.setIfInBounds_toArray, List.set_cons_zero, List.set_cons_succ, List.getElem_toArray, List.getElem_cons_zero, List.getElem_cons_succ])
  refine wpAnyH_ready (rs := [1]) (by kernel_rfl) (by simp) ?_
  refine AllReadyH.cons (o := _) rfl (fun K hK => ?_) AllReadyH.nil
  (try simp only [List.getElem_toArray, List.getElem_cons_zero, List.getElem_cons_succ])
  go_simp
  refine (common_any s _ H1.out _).mono ?_; rintro e w1 ⟨rfl, hb⟩; have R1 : Hid (Rz w g0 g _ w1) := Lib.hid (R0.out.step ⟨hb.os, hb.tape, hb.output, hb.size, hb.block⟩); clear hb
  refine hK.out _ _ ?_ (fun hHeld => ?_)
  · exact ⟨cell_at R1.out.c 0, cell_at R1.out.c 1⟩
  clear hK K
  (try simp only [Act.put, List.setIfInBounds_toArray, List.set_cons_zero, List.set_cons_succ, List.getElem_toArray, List.getElem_cons_zero, List.getElem_cons_succ])
  refine wpAnyH_ready (rs := [3]) (by kernel_rfl) (by simp) ?_
  refine AllReadyH.cons (o := _) rfl (fun K hK => ?_) AllReadyH.nil
  (try simp only [List.getElem_toArray, List.getElem_cons_zero, List.getElem_cons_succ])
  go_simp
  refine (lay_is (commonL s) _ _ 4 4 fn fd _ H1.out H2.out (by (try simp only [layR_len]); exact commonL_len s) (by omega) (by omega)).mono ?_; rintro e w2 ⟨rfl, hb⟩; have R2 : Hid (Rz w g0 g _ w2) := Lib.hid (R1.out.step hb); clear hb
  refine hK.out _ _ ?_ (fun hHeld => ?_)
  · exact ⟨cell_at R2.out.c 0, cell_at R2.out.c 1⟩
  clear hK K
  (try simp only [Act.put, List.setIfInBounds_toArray, List.set_cons_zero, List.set_cons_succ, List.getElem_toArray, List.getElem_cons_zero, List.getElem_cons_succ])
  refine wpAnyH_ready (rs := [5]) (by kernel_rfl) (by simp) ?_
  refine AllReadyH.cons (o := _) rfl (fun K hK => ?_) AllReadyH.nil
  (try simp only [List.getElem_toArray, List.getElem_cons_zero, List.getElem_cons_succ])
  go_simp
  refine (lay_is (layR (commonL s) 4 4 fn fd) _ _ 5 8 9 0 _ H2.out H3.out (by (try simp only [layR_len]); exact commonL_len s) (by omega) (by omega)).mono ?_; rintro e w3 ⟨rfl, hb⟩; have R3 : Hid (Rz w g0 g _ w3) := Lib.hid (R2.out.step hb); clear hb
  refine hK.out _ _ ?_ (fun hHeld => ?_)
  · exact ⟨cell_at R3.out.c 0, cell_at R3.out.c 1⟩
  clear hK K
  (try simp only [Act.put, List.setIfInBounds_toArray, List.set_cons_zero, List.set_cons_succ, List.getElem_toArray, List.getElem_cons_zero, List.getElem_cons_succ])
  refine wpAnyH_ready (rs := [8]) (by kernel_rfl) (by simp) ?_
  refine AllReadyH.cons (o := _) rfl (fun K hK => ?_) AllReadyH.nil
  (try simp only [List.getElem_toArray, List.getElem_cons_zero, List.getElem_cons_succ])
  go_simp
  refine (lay_is (layR (layR (commonL s) 4 4 fn fd) 5 8 9 0) _ _ 9 12 0 e _ H3.out H4.out (by (try simp only [layR_len]); exact commonL_len s) (by omega) (by omega)).mono ?_; rintro e w4 ⟨rfl, hb⟩; have R4 : Hid (Rz w g0 g _ w4) := Lib.hid (R3.out.step hb); clear hb
  refine hK.out _ _ ?_ (fun hHeld => ?_)
  · exact ⟨cell_at R4.out.c 0, cell_at R4.out.c 1⟩
  clear hK K
  (try simp only [Act.put, List.setIfInBounds_toArray, List.set_cons_zero, List.set_cons_succ, List.getElem_toArray, List.getElem_cons_zero, List.getElem_cons_succ])
  refine wpAnyH_ready (rs := [9]) (by kernel_rfl) (by simp) ?_
  refine AllReadyH.cons (o := _) rfl (fun K hK => ?_) AllReadyH.nil
  (try simp only [List.getElem_toArray, List.getElem_cons_zero, List.getElem_cons_succ])
  rw [if_pos (by rfl)]; refine wp_store_row 73 (.tmp 6) (.tmp 15) rfl g T4 rfl rfl 73 (u8a zrow) R4.out.q HI.out HI0.out HO.out ?_; have hcc := (setRow_other w4 g g0 T4 (by omega)).trans R4.out.c
  refine hK.out _ _ ?_ (fun hHeld => ?_)
  · exact ⟨cell_at hcc 0, cell_at hcc 1⟩
  clear hK K
  (try simp only [Act.put, List.setIfInBounds_toArray, List.set_cons_zero, List.set_cons_succ, List.getElem_toArray, List.getElem_cons_zero, List.getElem_cons_succ])
  refine wpAnyH_done (by kernel_rfl) ?_ _
  refine NoPanic.normal ?_
  clear hHeld
  go_wp2_with fail
  refine bodyPost_ret (v := .agg T4) ?_ rfl ⟨by rw [← H4.out]; rfl, ?_⟩
  · exact results_cell_row Try.results41 _ _ g 73 _ (0, 0) _ rfl (setRow_heap _ _ _ _ _ _ R4.out.q) Try.underlying73 rfl HI.out
  · rw [← HG.out]
    exact ⟨R4.out.b.os, R4.out.b.tape, R4.out.b.output, by simpa using R4.out.b.size, fun k hk => (setRow_other _ _ _ _ (by omega)).trans (R4.out.b.block k hk)⟩

set_option maxRecDepth 100000 in
set_option maxHeartbeats 3200000 in
theorem num_any (s : Nat) (T' : Array Value) (hT' : u8a (numL s) = T') (w : World) :
    Calls Try.prog 40 #[.int .u8 (s : Int)] w fun e w' => e = .returned (.agg T') ∧ Below w.heap.size w w' := by
  subst hT'
  obtain ⟨g, hg⟩ : ∃ g, g = w.heap.size := ⟨_, rfl⟩
  have HG := Lib.hid hg
  have R0 := Lib.hid (Rq.start w g hg)
  clear hg
  go_enter Try.func40, Try.ntmps40
  go_wp2_with fail
  rw [← HG.out]
  obtain ⟨T1, h1⟩ : ∃ T, u8a (csiL s 7 8 4) = T := ⟨_, rfl⟩
  have H1 := Lib.hid h1
  clear h1
  refine (csi_any s 7 8 4 _ H1.out _).mono ?_
  rintro e w1 ⟨rfl, hb⟩
  have R1 := Lib.hid (R0.out.step hb)
  clear hb
  go_wp2_with fail
  obtain ⟨T2, h2⟩ : ∃ T, u8a (layR (csiL s 7 8 4) 5 5 6 9) = T := ⟨_, rfl⟩
  have H2 := Lib.hid h2
  clear h2
  refine (lay_is (csiL s 7 8 4) _ _ 5 5 6 9 _ H1.out H2.out (by (try simp only [layR_len]); exact csiL_len _ _ _ _) (by omega) (by omega)).mono ?_
  rintro e w2 ⟨rfl, hb⟩
  have R2 := Lib.hid (R1.out.step hb)
  clear hb
  go_wp2_with fail
  obtain ⟨T3, h3⟩ : ∃ T, u8a (layR (layR (csiL s 7 8 4) 5 5 6 9) 7 7 6 10) = T := ⟨_, rfl⟩
  have H3 := Lib.hid h3
  clear h3
  refine (lay_is (layR (csiL s 7 8 4) 5 5 6 9) _ _ 7 7 6 10 _ H2.out H3.out (by (try simp only [layR_len]); exact csiL_len _ _ _ _) (by omega) (by omega)).mono ?_
  rintro e w3 ⟨rfl, hb⟩
  have R3 := Lib.hid (R2.out.step hb)
  clear hb
  have HI : Hid ((Try.prog.info? 73).map (·.size) = some T3.size) := Lib.hid (by rw [← H3.out, u8a_size, show (layR (layR (csiL s 7 8 4) 5 5 6 9) 7 7 6 10).length = 30 from (by (try simp only [layR_len]); exact csiL_len _ _ _ _)]; exact row_info)
  have HI0 : Hid ((u8a zrow).size = T3.size) := Lib.hid (by rw [← H3.out, u8a_size, u8a_size, show (layR (layR (csiL s 7 8 4) 5 5 6 9) 7 7 6 10).length = 30 from (by (try simp only [layR_len]); exact csiL_len _ _ _ _)]; rfl)
  have HO : Hid (T3.all (·.oneCell') = true) := Lib.hid (by rw [← H3.out]; exact u8a_one _)
  have HQ := R3.out.q
  go_wp2_with (with_reducible refine wpList_store_row rfl 73 (.tmp 2) (.tmp 9) rfl g T3 rfl rfl 73 (u8a zrow) HQ HI.out HI0.out HO.out ?_)
  refine bodyPost_ret (v := .agg T3) ?_ rfl ⟨by rw [← H3.out]; rfl, ?_⟩
  · exact results_cell_row Try.results40 _ _ g 73 _ (0, 0) _ rfl (setRow_heap _ _ _ _ _ _ HQ) Try.underlying73 rfl HI.out
  · rw [← HG.out]
    exact ⟨R3.out.b.os, R3.out.b.tape, R3.out.b.output, by simpa using R3.out.b.size, fun k hk => (setRow_other _ _ _ _ (by omega)).trans (R3.out.b.block k hk)⟩

def zero360 : Array Value := u8a (List.replicate 360 0)
def tabV : Array Value := u8a tabE
theorem table_info : (Try.prog.info? 74).map (·.size) = some 360 := by kernel_rfl
theorem tabV_size : tabV.size = 360 := by rw [tabV, u8a_size]; decide +kernel
theorem zero_table (w : World) : (zeroValue 74).run Try.prog w = .ok (.agg zero360) w := by kernel_rfl
structure Rt (w : World) (g : Nat) (Z : Array Value) (w' : World) : Prop where
  q : w'.heap[g]? = some (.cells Z 74 (0, 0))
  b : Below g w w'
theorem Rt.start (w : World) (g : Nat) (hg : g = w.heap.size) (Z : Array Value) : Rt w g Z (w.alloc (.cells Z 74)) := by
  subst hg; exact ⟨heap_alloc_new w _, (Below.refl _ w).alloc (Nat.le_refl _) _⟩
theorem Rt.step {w w1 w2 : World} {g : Nat} {Z : Array Value} (h : Rt w g Z w1) (k : Below w1.heap.size w1 w2) : Rt w g Z w2 :=
  ⟨(k.block g (lt_heap h.q)).trans h.q, h.b.trans (k.mono (Nat.le_of_lt (lt_heap h.q)))⟩
theorem trow_0 : u8a (layR (commonL 0) 4 12 0 1) = #[.int .u8 0, .int .u8 2, .int .u8 0, .int .u8 2, .int .u8 0, .int .u8 0, .int .u8 1, .int .u8 0, .int .u8 0, .int .u8 1, .int .u8 0, .int .u8 1, .int .u8 0, .int .u8 1, .int .u8 0, .int .u8 1, .int .u8 0, .int .u8 1, .int .u8 0, .int .u8 1, .int .u8 0, .int .u8 1, .int .u8 0, .int .u8 1, .int .u8 0, .int .u8 1, .int .u8 0, .int .u8 0, .int .u8 0, .int .u8 1] := by
  show u8a _ = u8a [0, 2, 0, 2, 0, 0, 1, 0, 0, 1, 0, 1, 0, 1, 0, 1, 0, 1, 0, 1, 0, 1, 0, 1, 0, 1, 0, 0, 0, 1]
  exact congrArg u8a (by decide +kernel)
theorem trow_1 : u8a (layR (layR (layR (escL 1 2 8 3) 10 10 11 0) 11 11 5 0) 12 12 10 0) = #[.int .u8 1, .int .u8 2, .int .u8 1, .int .u8 2, .int .u8 0, .int .u8 0, .int .u8 1, .int .u8 0, .int .u8 2, .int .u8 8, .int .u8 0, .int .u8 3, .int .u8 0, .int .u8 3, .int .u8 0, .int .u8 3, .int .u8 0, .int .u8 3, .int .u8 0, .int .u8 3, .int .u8 11, .int .u8 0, .int .u8 5, .int .u8 0, .int .u8 10, .int .u8 0, .int .u8 1, .int .u8 0, .int .u8 0, .int .u8 1] := by
  show u8a _ = u8a [1, 2, 1, 2, 0, 0, 1, 0, 2, 8, 0, 3, 0, 3, 0, 3, 0, 3, 0, 3, 11, 0, 5, 0, 10, 0, 1, 0, 0, 1]
  exact congrArg u8a (by decide +kernel)
theorem trow_2 : u8a (escL 2 3 8 3) = #[.int .u8 2, .int .u8 2, .int .u8 2, .int .u8 2, .int .u8 0, .int .u8 0, .int .u8 1, .int .u8 0, .int .u8 3, .int .u8 8, .int .u8 0, .int .u8 3, .int .u8 0, .int .u8 3, .int .u8 0, .int .u8 3, .int .u8 0, .int .u8 3, .int .u8 0, .int .u8 3, .int .u8 0, .int .u8 3, .int .u8 0, .int .u8 3, .int .u8 0, .int .u8 3, .int .u8 2, .int .u8 0, .int .u8 0, .int .u8 1] := by
  show u8a _ = u8a [2, 2, 2, 2, 0, 0, 1, 0, 3, 8, 0, 3, 0, 3, 0, 3, 0, 3, 0, 3, 0, 3, 0, 3, 0, 3, 2, 0, 0, 1]
  exact congrArg u8a (by decide +kernel)
theorem trow_3 : u8a (escL 3 4 0 3) = #[.int .u8 3, .int .u8 2, .int .u8 3, .int .u8 2, .int .u8 0, .int .u8 0, .int .u8 1, .int .u8 0, .int .u8 4, .int .u8 0, .int .u8 0, .int .u8 3, .int .u8 0, .int .u8 3, .int .u8 0, .int .u8 3, .int .u8 0, .int .u8 3, .int .u8 0, .int .u8 3, .int .u8 0, .int .u8 3, .int .u8 0, .int .u8 3, .int .u8 0, .int .u8 3, .int .u8 3, .int .u8 0, .int .u8 0, .int .u8 1] := by
  show u8a _ = u8a [3, 2, 3, 2, 0, 0, 1, 0, 4, 0, 0, 3, 0, 3, 0, 3, 0, 3, 0, 3, 0, 3, 0, 3, 0, 3, 3, 0, 0, 1]
  exact congrArg u8a (by decide +kernel)
theorem trow_4 : u8a (escL 4 4 0 0) = #[.int .u8 4, .int .u8 2, .int .u8 4, .int .u8 2, .int .u8 0, .int .u8 0, .int .u8 1, .int .u8 0, .int .u8 4, .int .u8 0, .int .u8 0, .int .u8 0, .int .u8 0, .int .u8 0, .int .u8 0, .int .u8 0, .int .u8 0, .int .u8 0, .int .u8 0, .int .u8 0, .int .u8 0, .int .u8 0, .int .u8 0, .int .u8 0, .int .u8 0, .int .u8 0, .int .u8 4, .int .u8 0, .int .u8 0, .int .u8 1] := by
  show u8a _ = u8a [4, 2, 4, 2, 0, 0, 1, 0, 4, 0, 0, 0, 0, 0, 0, 0, 0, 0, 0, 0, 0, 0, 0, 0, 0, 0, 4, 0, 0, 1]
  exact congrArg u8a (by decide +kernel)
theorem trow_5 : u8a (layR (numL 5) 8 8 6 7) = #[.int .u8 5, .int .u8 2, .int .u8 5, .int .u8 2, .int .u8 0, .int .u8 0, .int .u8 1, .int .u8 0, .int .u8 7, .int .u8 8, .int .u8 6, .int .u8 9, .int .u8 9, .int .u8 0, .int .u8 6, .int .u8 10, .int .u8 6, .int .u8 7, .int .u8 0, .int .u8 4, .int .u8 0, .int .u8 4, .int .u8 0, .int .u8 4, .int .u8 0, .int .u8 4, .int .u8 5, .int .u8 0, .int .u8 0, .int .u8 1] := by
  show u8a _ = u8a [5, 2, 5, 2, 0, 0, 1, 0, 7, 8, 6, 9, 9, 0, 6, 10, 6, 7, 0, 4, 0, 4, 0, 4, 0, 4, 5, 0, 0, 1]
  exact congrArg u8a (by decide +kernel)
theorem trow_6 : u8a (numL 6) = #[.int .u8 6, .int .u8 2, .int .u8 6, .int .u8 2, .int .u8 0, .int .u8 0, .int .u8 1, .int .u8 0, .int .u8 7, .int .u8 8, .int .u8 6, .int .u8 9, .int .u8 9, .int .u8 0, .int .u8 6, .int .u8 10, .int .u8 9, .int .u8 0, .int .u8 0, .int .u8 4, .int .u8 0, .int .u8 4, .int .u8 0, .int .u8 4, .int .u8 0, .int .u8 4, .int .u8 6, .int .u8 0, .int .u8 0, .int .u8 1] := by
  show u8a _ = u8a [6, 2, 6, 2, 0, 0, 1, 0, 7, 8, 6, 9, 9, 0, 6, 10, 9, 0, 0, 4, 0, 4, 0, 4, 0, 4, 6, 0, 0, 1]
  exact congrArg u8a (by decide +kernel)
theorem trow_7 : u8a (csiL 7 8 8 4) = #[.int .u8 7, .int .u8 2, .int .u8 7, .int .u8 2, .int .u8 0, .int .u8 0, .int .u8 1, .int .u8 0, .int .u8 8, .int .u8 8, .int .u8 9, .int .u8 0, .int .u8 9, .int .u8 0, .int .u8 9, .int .u8 0, .int .u8 9, .int .u8 0, .int .u8 0, .int .u8 4, .int .u8 0, .int .u8 4, .int .u8 0, .int .u8 4, .int .u8 0, .int .u8 4, .int .u8 7, .int .u8 0, .int .u8 0, .int .u8 1] := by
  show u8a _ = u8a [7, 2, 7, 2, 0, 0, 1, 0, 8, 8, 9, 0, 9, 0, 9, 0, 9, 0, 0, 4, 0, 4, 0, 4, 0, 4, 7, 0, 0, 1]
  exact congrArg u8a (by decide +kernel)
theorem trow_8 : u8a (csiL 8 9 0 4) = #[.int .u8 8, .int .u8 2, .int .u8 8, .int .u8 2, .int .u8 0, .int .u8 0, .int .u8 1, .int .u8 0, .int .u8 9, .int .u8 0, .int .u8 9, .int .u8 0, .int .u8 9, .int .u8 0, .int .u8 9, .int .u8 0, .int .u8 9, .int .u8 0, .int .u8 0, .int .u8 4, .int .u8 0, .int .u8 4, .int .u8 0, .int .u8 4, .int .u8 0, .int .u8 4, .int .u8 8, .int .u8 0, .int .u8 0, .int .u8 1] := by
  show u8a _ = u8a [8, 2, 8, 2, 0, 0, 1, 0, 9, 0, 9, 0, 9, 0, 9, 0, 9, 0, 0, 4, 0, 4, 0, 4, 0, 4, 8, 0, 0, 1]
  exact congrArg u8a (by decide +kernel)
theorem trow_9 : u8a (csiL 9 9 0 0) = #[.int .u8 9, .int .u8 2, .int .u8 9, .int .u8 2, .int .u8 0, .int .u8 0, .int .u8 1, .int .u8 0, .int .u8 9, .int .u8 0, .int .u8 9, .int .u8 0, .int .u8 9, .int .u8 0, .int .u8 9, .int .u8 0, .int .u8 9, .int .u8 0, .int .u8 0, .int .u8 0, .int .u8 0, .int .u8 0, .int .u8 0, .int .u8 0, .int .u8 0, .int .u8 0, .int .u8 9, .int .u8 0, .int .u8 0, .int .u8 1] := by
  show u8a _ = u8a [9, 2, 9, 2, 0, 0, 1, 0, 9, 0, 9, 0, 9, 0, 9, 0, 9, 0, 0, 0, 0, 0, 0, 0, 0, 0, 9, 0, 0, 1]
  exact congrArg u8a (by decide +kernel)
theorem trow_10 : u8a (layR (textL 10 5) 1 1 0 5) = #[.int .u8 10, .int .u8 0, .int .u8 0, .int .u8 5, .int .u8 0, .int .u8 0, .int .u8 1, .int .u8 5, .int .u8 10, .int .u8 11, .int .u8 10, .int .u8 11, .int .u8 10, .int .u8 11, .int .u8 10, .int .u8 11, .int .u8 10, .int .u8 11, .int .u8 10, .int .u8 11, .int .u8 10, .int .u8 11, .int .u8 10, .int .u8 11, .int .u8 10, .int .u8 11, .int .u8 10, .int .u8 11, .int .u8 10, .int .u8 11] := by
  show u8a _ = u8a [10, 0, 0, 5, 0, 0, 1, 5, 10, 11, 10, 11, 10, 11, 10, 11, 10, 11, 10, 11, 10, 11, 10, 11, 10, 11, 10, 11, 10, 11]
  exact congrArg u8a (by decide +kernel)
theorem trow_11 : u8a (textL 11 6) = #[.int .u8 11, .int .u8 0, .int .u8 11, .int .u8 0, .int .u8 0, .int .u8 0, .int .u8 1, .int .u8 6, .int .u8 11, .int .u8 11, .int .u8 11, .int .u8 11, .int .u8 11, .int .u8 11, .int .u8 11, .int .u8 11, .int .u8 11, .int .u8 11, .int .u8 11, .int .u8 11, .int .u8 11, .int .u8 11, .int .u8 11, .int .u8 11, .int .u8 11, .int .u8 11, .int .u8 11, .int .u8 11, .int .u8 11, .int .u8 11] := by
  show u8a _ = u8a [11, 0, 11, 0, 0, 0, 1, 6, 11, 11, 11, 11, 11, 11, 11, 11, 11, 11, 11, 11, 11, 11, 11, 11, 11, 11, 11, 11, 11, 11]
  exact congrArg u8a (by decide +kernel)

set_option maxRecDepth 100000 in
set_option maxHeartbeats 6400000 in
theorem make_any (w : World) :
    Calls Try.prog 29 #[] w fun e w' => e = .returned (.agg tabV) ∧ Below w.heap.size w w' := by
  obtain ⟨g, hg⟩ : ∃ g, g = w.heap.size := ⟨_, rfl⟩
  have HG := Lib.hid hg
  have hzero := zero_table
  obtain ⟨Z, hZ⟩ : ∃ Z, Z = zero360 := ⟨_, rfl⟩
  rw [← hZ] at hzero
  have HZ := Lib.hid hZ
  have R0 := Lib.hid (Rt.start w g hg Z)
  clear hg hZ
  go_enter Try.func29, Try.ntmps29
  go_wp2_with fail
  rw [← HG.out]
  obtain ⟨T1, h1⟩ : ∃ T, u8a (commonL 0) = T := ⟨_, rfl⟩
  have H1 := Lib.hid h1
  clear h1
  refine (common_any 0 _ H1.out _).mono ?_
  rintro e w1 ⟨rfl, hb⟩
  have R1 := Lib.hid (R0.out.step hb)
  clear hb
  go_wp2_with fail
  obtain ⟨T2, h2⟩ : ∃ T, u8a (layR (commonL 0) 4 12 0 1) = T := ⟨_, rfl⟩
  have H2 := Lib.hid h2
  clear h2
  refine (lay_is (commonL 0) _ _ 4 12 0 1 _ H1.out H2.out (by (try simp only [layR_len]); exact commonL_len _) (by omega) (by omega)).mono ?_
  rintro e w2 ⟨rfl, hb⟩
  have R2 := Lib.hid (R1.out.step hb)
  clear hb
  go_wp2_with fail
  obtain ⟨T3, h3⟩ : ∃ T, u8a (escL 1 2 8 3) = T := ⟨_, rfl⟩
  have H3 := Lib.hid h3
  clear h3
  refine (esc_any 1 2 8 3 _ H3.out _).mono ?_
  rintro e w3 ⟨rfl, hb⟩
  have R3 := Lib.hid (R2.out.step hb)
  clear hb
  go_wp2_with fail
  obtain ⟨T4, h4⟩ : ∃ T, u8a (layR (escL 1 2 8 3) 10 10 11 0) = T := ⟨_, rfl⟩
  have H4 := Lib.hid h4
  clear h4
  refine (lay_is (escL 1 2 8 3) _ _ 10 10 11 0 _ H3.out H4.out (by (try simp only [layR_len]); exact escL_len _ _ _ _) (by omega) (by omega)).mono ?_
  rintro e w4 ⟨rfl, hb⟩
  have R4 := Lib.hid (R3.out.step hb)
  clear hb
  go_wp2_with fail
  obtain ⟨T5, h5⟩ : ∃ T, u8a (layR (layR (escL 1 2 8 3) 10 10 11 0) 11 11 5 0) = T := ⟨_, rfl⟩
  have H5 := Lib.hid h5
  clear h5
  refine (lay_is (layR (escL 1 2 8 3) 10 10 11 0) _ _ 11 11 5 0 _ H4.out H5.out (by (try simp only [layR_len]); exact escL_len _ _ _ _) (by omega) (by omega)).mono ?_
  rintro e w5 ⟨rfl, hb⟩
  have R5 := Lib.hid (R4.out.step hb)
  clear hb
  go_wp2_with fail
  obtain ⟨T6, h6⟩ : ∃ T, u8a (layR (layR (layR (escL 1 2 8 3) 10 10 11 0) 11 11 5 0) 12 12 10 0) = T := ⟨_, rfl⟩
  have H6 := Lib.hid h6
  clear h6
  refine (lay_is (layR (layR (escL 1 2 8 3) 10 10 11 0) 11 11 5 0) _ _ 12 12 10 0 _ H5.out H6.out (by (try simp only [layR_len]); exact escL_len _ _ _ _) (by omega) (by omega)).mono ?_
  rintro e w6 ⟨rfl, hb⟩
  have R6 := Lib.hid (R5.out.step hb)
  clear hb
  go_wp2_with fail
  obtain ⟨T7, h7⟩ : ∃ T, u8a (escL 2 3 8 3) = T := ⟨_, rfl⟩
  have H7 := Lib.hid h7
  clear h7
  refine (esc_any 2 3 8 3 _ H7.out _).mono ?_
  rintro e w7 ⟨rfl, hb⟩
  have R7 := Lib.hid (R6.out.step hb)
  clear hb
  go_wp2_with fail
  obtain ⟨T8, h8⟩ : ∃ T, u8a (escL 3 4 0 3) = T := ⟨_, rfl⟩
  have H8 := Lib.hid h8
  clear h8
  refine (esc_any 3 4 0 3 _ H8.out _).mono ?_
  rintro e w8 ⟨rfl, hb⟩
  have R8 := Lib.hid (R7.out.step hb)
  clear hb
  go_wp2_with fail
  obtain ⟨T9, h9⟩ : ∃ T, u8a (escL 4 4 0 0) = T := ⟨_, rfl⟩
  have H9 := Lib.hid h9
  clear h9
  refine (esc_any 4 4 0 0 _ H9.out _).mono ?_
  rintro e w9 ⟨rfl, hb⟩
  have R9 := Lib.hid (R8.out.step hb)
  clear hb
  go_wp2_with fail
  obtain ⟨T10, h10⟩ : ∃ T, u8a (numL 5) = T := ⟨_, rfl⟩
  have H10 := Lib.hid h10
  clear h10
  refine (num_any 5 _ H10.out _).mono ?_
  rintro e w10 ⟨rfl, hb⟩
  have R10 := Lib.hid (R9.out.step hb)
  clear hb
  go_wp2_with fail
  obtain ⟨T11, h11⟩ : ∃ T, u8a (layR (numL 5) 8 8 6 7) = T := ⟨_, rfl⟩
  have H11 := Lib.hid h11
  clear h11
  refine (lay_is (numL 5) _ _ 8 8 6 7 _ H10.out H11.out (by (try simp only [layR_len]); exact numL_len _) (by omega) (by omega)).mono ?_
  rintro e w11 ⟨rfl, hb⟩
  have R11 := Lib.hid (R10.out.step hb)
  clear hb
  go_wp2_with fail
  obtain ⟨T12, h12⟩ : ∃ T, u8a (numL 6) = T := ⟨_, rfl⟩
  have H12 := Lib.hid h12
  clear h12
  refine (num_any 6 _ H12.out _).mono ?_
  rintro e w12 ⟨rfl, hb⟩
  have R12 := Lib.hid (R11.out.step hb)
  clear hb
  go_wp2_with fail
  obtain ⟨T13, h13⟩ : ∃ T, u8a (csiL 7 8 8 4) = T := ⟨_, rfl⟩
  have H13 := Lib.hid h13
  clear h13
  refine (csi_any 7 8 8 4 _ H13.out _).mono ?_
  rintro e w13 ⟨rfl, hb⟩
  have R13 := Lib.hid (R12.out.step hb)
  clear hb
  go_wp2_with fail
  obtain ⟨T14, h14⟩ : ∃ T, u8a (csiL 8 9 0 4) = T := ⟨_, rfl⟩
  have H14 := Lib.hid h14
  clear h14
  refine (csi_any 8 9 0 4 _ H14.out _).mono ?_
  rintro e w14 ⟨rfl, hb⟩
  have R14 := Lib.hid (R13.out.step hb)
  clear hb
  go_wp2_with fail
  obtain ⟨T15, h15⟩ : ∃ T, u8a (csiL 9 9 0 0) = T := ⟨_, rfl⟩
  have H15 := Lib.hid h15
  clear h15
  refine (csi_any 9 9 0 0 _ H15.out _).mono ?_
  rintro e w15 ⟨rfl, hb⟩
  have R15 := Lib.hid (R14.out.step hb)
  clear hb
  go_wp2_with fail
  obtain ⟨T16, h16⟩ : ∃ T, u8a (textL 10 5) = T := ⟨_, rfl⟩
  have H16 := Lib.hid h16
  clear h16
  refine (text_any 10 5 _ H16.out _).mono ?_
  rintro e w16 ⟨rfl, hb⟩
  have R16 := Lib.hid (R15.out.step hb)
  clear hb
  go_wp2_with fail
  obtain ⟨T17, h17⟩ : ∃ T, u8a (layR (textL 10 5) 1 1 0 5) = T := ⟨_, rfl⟩
  have H17 := Lib.hid h17
  clear h17
  refine (lay_is (textL 10 5) _ _ 1 1 0 5 _ H16.out H17.out (by (try simp only [layR_len]); exact textL_len _ _) (by omega) (by omega)).mono ?_
  rintro e w17 ⟨rfl, hb⟩
  have R17 := Lib.hid (R16.out.step hb)
  clear hb
  go_wp2_with fail
  obtain ⟨T18, h18⟩ : ∃ T, u8a (textL 11 6) = T := ⟨_, rfl⟩
  have H18 := Lib.hid h18
  clear h18
  refine (text_any 11 6 _ H18.out _).mono ?_
  rintro e w18 ⟨rfl, hb⟩
  have R18 := Lib.hid (R17.out.step hb)
  clear hb
  have HBT : Hid (Try.prog.built 74 [(0, .agg T2), (1, .agg T6), (2, .agg T7), (3, .agg T8), (4, .agg T9), (5, .agg T11), (6, .agg T12), (7, .agg T13), (8, .agg T14), (9, .agg T15), (10, .agg T17), (11, .agg T18)] = some tabV) := by
    show _ = _
    rw [← H2.out, trow_0, ← H6.out, trow_1, ← H7.out, trow_2, ← H8.out, trow_3, ← H9.out, trow_4, ← H11.out, trow_5, ← H12.out, trow_6, ← H13.out, trow_7, ← H14.out, trow_8, ← H15.out, trow_9, ← H17.out, trow_10, ← H18.out, trow_11]
    kernel_rfl
  obtain ⟨V, hV⟩ : ∃ V, V = tabV := ⟨_, rfl⟩
  rw [← hV] at HBT
  have HV := Lib.hid hV
  have HI : Hid ((Try.prog.info? 74).map (·.size) = some V.size) := Lib.hid (by rw [hV, tabV_size]; exact table_info)
  have HI0 : Hid (Z.size = V.size) := Lib.hid (by rw [hV, tabV_size, HZ.out, zero360, u8a_size, List.length_replicate])
  have HO : Hid (V.all (·.oneCell') = true) := Lib.hid (by rw [hV]; exact u8a_one _)
  have HQ := R18.out.q
  clear hV
  go_wp2_with (first
    | (with_reducible refine wpList_built rfl 74 #[(0, .tmp 3), (1, .tmp 11), (2, .tmp 13), (3, .tmp 15), (4, .tmp 17), (5, .tmp 20), (6, .tmp 21), (7, .tmp 23), (8, .tmp 25), (9, .tmp 27), (10, .tmp 30), (11, .tmp 31)] rfl V ?hbt ?_)
    | (with_reducible refine wpList_store_row rfl 74 (.tmp 0) (.tmp 32) rfl g V rfl rfl 74 Z HQ HI.out HI0.out HO.out ?_))
  case hbt => first | exact HBT.out | (simp; exact HBT.out)
  refine bodyPost_ret (v := .agg V) ?_ rfl ⟨by rw [HV.out], ?_⟩
  · exact results_cell_row Try.results29 _ _ g 74 _ (0, 0) _ rfl (setRow_heap _ _ _ _ _ _ HQ) Try.underlying74 rfl HI.out
  · rw [← HG.out]
    exact ⟨R18.out.b.os, R18.out.b.tape, R18.out.b.output, by simpa using R18.out.b.size, fun k hk => (setRow_other _ _ _ _ (by omega)).trans (R18.out.b.block k hk)⟩

end Go.Proofs.Ythphnjilbpidgaa
