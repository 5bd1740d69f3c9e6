/- esc's table: lay, common. Own work. esc's table: its rows, makeTable. By program (rgn/XEscRows.py). Own work. esc.rules: rows makes the table, once. Own work (after nvt's XOpen). esc.Parser in memory: take. By program (rgn/XEscT.py). Own work. esc.Parser: Feed. Own work (rgn/XEscF.lean by rgn.py). esc.Parser: Feed of any, Ground, Kept. Own work (rgn/XEscA.lean by rgn.py). esc: what the laws ask of the document's parser, over lists. Own work. -/
import Derived.Test.YtnminmaklbhakaaGreatDoorEscs
import Derived.Test.YtnminmaklbhakaaGreatDoorBase
import Derived.Laws.Rows
import Derived.Laws.Tables
import Derived.Deep.WholeRow
import Derived.Deep.CutRange
import Derived.Deep.Cut
import Derived.Deep.RegionLaw
import Derived.Test.YtnminmaklbhakaaGreatDoorOnces
set_option linter.unusedVariables false
set_option linter.unusedSimpArgs false
namespace Go.Proofs.YtnminmaklbhakaaGreatDoor
set_option linter.unusedVariables false
set_option linter.unusedSimpArgs false
open Go.RowKit

theorem wpList_built {P : Program} {ops : Array Oper} {rest : List Oper} {o : Oper} {a : Act} {w : World} {Q : Exit → Act → World → Prop} (hgd : o.guard = none) (t : TypeId) (parts : Array (Nat × Operand)) (ho : o.op = .build t parts) (cells : Array Value)
    (h : P.built t (parts.map fun (i, x) => (i, a.eval x)).toList = some cells) (hK : wpList P ops Q rest (a.put o.dst (.agg cells)) w) : wpList P ops Q (o :: rest) a w :=
  wpList_plain hgd fun K hK' => by
    unfold Oper.wp execOp
    simp only [ho, Sem.run_bind, run_build w t _ cells h, Result.andThen_ok]
    exact hK' _ _ hK

/-- Cells of small numbers. -/
def u8a (l : List Nat) : Array Value := (l.map fun n : Nat => Value.int .u8 (n : Int)).toArray
theorem u8a_size (l : List Nat) : (u8a l).size = l.length := by simp [u8a]
theorem u8a_set (l : List Nat) (i a : Nat) : (u8a l).setIfInBounds i (.int .u8 (a : Int)) = u8a (l.set i a) := by
  simp [u8a, List.map_set]
theorem u8a_at (l : List Nat) (i : Nat) (h : i < l.length) : (u8a l)[i]? = some (.int .u8 ((l.getD i 0 : Nat) : Int)) := by
  simp [u8a, List.getD_eq_getElem?_getD, List.getElem?_eq_getElem h]
theorem u8a_one (l : List Nat) : (u8a l).all (·.oneCell') = true := by
  simp [u8a, Value.oneCell']

def layN (l : List Nat) (f : Nat) : Nat → Nat → Nat → List Nat
  | 0, _, _ => l
  | n + 1, a, b => ((layN l f n a b).set ((f + n) * 2) a).set ((f + n) * 2 + 1) b
def layR (l : List Nat) (f t a b : Nat) : List Nat := layN l f (t + 1 - f) a b
theorem layN_len (l : List Nat) (f n a b : Nat) : (layN l f n a b).length = l.length := by
  induction n with
  | zero => rfl
  | succ n ih => simp [layN, ih]
theorem layR_len (l : List Nat) (f t a b : Nat) : (layR l f t a b).length = l.length := layN_len ..

theorem step_info : (Tryz.prog.info? 117).map (fun i => (i.size, i.bytes)) = some (2, 2) := by kernel_rfl
theorem row_info : (Tryz.prog.info? 119).map (·.size) = some 30 := by kernel_rfl
def zrow : List Nat := List.replicate 30 0

set_option maxRecDepth 100000 in
set_option maxHeartbeats 1600000 in
theorem lay_any (l : List Nat) (f t a b : Nat) (w : World) (hl : l.length = 30) (hf : f ≤ t) (ht : t ≤ 14) :
    Calls Tryz.prog 77 #[.agg (u8a l), .int .u8 (f : Int), .int .u8 (t : Int), .agg #[.int .u8 (a : Int), .int .u8 (b : Int)]] w fun e w' => e = .returned (.agg (u8a (layR l f t a b))) ∧ Below w.heap.size w w' := by
  obtain ⟨g, hg⟩ : ∃ g, g = w.heap.size := ⟨_, rfl⟩
  have HG := Lib.hid hg
  obtain ⟨R, hR⟩ : ∃ R, R = u8a l := ⟨_, rfl⟩
  have HR := Lib.hid hR
  have HI : Hid ((Tryz.prog.info? 119).map (·.size) = some R.size) := Lib.hid (by rw [hR, u8a_size, hl]; exact row_info)
  rw [← hR]
  clear hg hR
  go_enter Tryz.func77, Tryz.ntmps77
  go_wp2_with fail
  rw [← HG.out]
  go_loopw [9] (fun i wr => ∃ k : Nat, f ≤ k ∧ k ≤ t + 1 ∧ i = .int .u8 k ∧ Hid (wr.heap[g]? = some (.cells (u8a (layN l f (k - f) a b)) 119 (0, 0))) ∧ Hid (wr.heap[g + 1]? = some (.cells #[.int .u8 (a : Int), .int .u8 (b : Int)] 117 (0, 0))) ∧
    Hid (wr.heap[g + 1 + 1]? = some (.cells (u8a zrow) 119 (0, 0))) ∧ Hid (Below g w wr)) (fun i _ => 16 - (intOf i).toNat)
  case atStart =>
    refine ⟨f, Nat.le_refl _, by omega, rfl, ?_, ?_, ?_, ?_⟩
    · show _ = _
      rw [Nat.sub_self, HG.out, show u8a (layN l f 0 a b) = R from HR.out.symm]
      exact heap_alloc (heap_alloc (heap_alloc_new w _) _) _
    · show _ = _
      rw [HG.out]
      have := heap_alloc_new (w.alloc (.cells R 119)) (.cells #[.int .u8 (a : Int), .int .u8 (b : Int)] 117)
      rw [show (w.alloc (.cells R 119)).heap.size = w.heap.size + 1 from by simp] at this
      exact heap_alloc this _
    · show _ = _
      rw [HG.out]
      have := heap_alloc_new ((w.alloc (.cells R 119)).alloc (.cells #[.int .u8 (a : Int), .int .u8 (b : Int)] 117)) (.cells (u8a zrow) 119)
      rw [show ((w.alloc (.cells R 119)).alloc (.cells #[.int .u8 (a : Int), .int .u8 (b : Int)] 117)).heap.size = w.heap.size + 1 + 1 from by simp] at this
      exact this
    · show Below _ _ _
      rw [HG.out]
      exact (((Below.refl _ w).alloc (Nat.le_refl _) _).alloc (by simp) _).alloc (by simp; omega) _
  case round =>
    obtain ⟨k, hk1, hk2, rfl, h2, h0, h1, hb⟩ := hrel
    have hlk : (layN l f (k - f) a b).length = 30 := by rw [layN_len, hl]
    by_cases hlt : k ≤ t
    · have a0 : wr.cell? ⟨g + 1, 0, none⟩ = some (.int .u8 (a : Int)) := cell_at h0.out 0
      have a1 : wr.cell? ⟨g + 1, 1, none⟩ = some (.int .u8 (b : Int)) := cell_at h0.out 1
      have b0 := (cell_at h2.out (k * 2)).trans (u8a_at _ _ (by omega))
      have b1 := (cell_at h2.out (k * 2 + 1)).trans (u8a_at _ _ (by omega))
      have f0 := free_at h2.out (k * 2)
      have f1 := free_at h2.out (k * 2 + 1)
      have HST : Hid (((u8a (layN l f (k - f) a b)).setIfInBounds (k * 2) (.int .u8 (a : Int))).setIfInBounds (k * 2 + 1) (.int .u8 (b : Int)) = u8a (layN l f (k + 1 - f) a b)) := by
        show _ = _
        rw [u8a_set, u8a_set, show k + 1 - f = (k - f) + 1 by omega]
        simp only [layN]
        rw [show f + (k - f) = k by omega]
      have hk8 : (k : Int) ≤ (t : Int) := by omega
      have hk15 : (k : Int) < 15 := by omega
      have hk0 : (0 : Int) ≤ (k : Int) := by omega
      clear hlk
      go_wp2_with fail
      go_roundw
      case rel =>
        refine ⟨k + 1, by omega, by omega, by go_num, ?_, ?_, ?_, ?_⟩
        · show _ = _
          rw [← HST.out]
          exact heap_set (heap_set h2.out _ _) _ _
        · exact heap_far (heap_far h0.out (show g + 1 ≠ g by omega) _) (show g + 1 ≠ g by omega) _
        · exact heap_far (heap_far h1.out (show g + 1 + 1 ≠ g by omega) _) (show g + 1 + 1 ≠ g by omega) _
        · exact (hb.out.setCell (show g ≤ g by omega) _).setCell (show g ≤ g by omega) _
      case measure => simp [intOf]; omega
    · obtain rfl : k = t + 1 := by omega
      obtain ⟨T, hT⟩ : ∃ T, u8a (layN l f (t + 1 - f) a b) = T := ⟨_, rfl⟩
      have HT := Lib.hid hT
      have hTs : T.size = 30 := by rw [← hT, u8a_size, hlk]
      have HI : Hid ((Tryz.prog.info? 119).map (·.size) = some T.size) := Lib.hid (by rw [hTs]; exact row_info)
      have HI0 : Hid ((u8a zrow).size = T.size) := Lib.hid (by rw [hTs]; rfl)
      have H1 : Hid (T.all (·.oneCell') = true) := Lib.hid (by rw [← hT]; exact u8a_one _)
      have H2 : Hid (wr.heap[g]? = some (.cells T 119 (0, 0))) := Lib.hid (by rw [← hT]; exact h2.out)
      have hkt : ¬ ((t : Int) + 1 ≤ (t : Int)) := by omega
      have hkt2 : ¬ (((t + 1 : Nat) : Int) ≤ (t : Int)) := by omega
      clear hT hTs hlk h2
      go_wp2_with (first
        | (with_reducible refine wpList_load_row rfl 119 (.tmp 4) rfl g rfl 119 T (0, 0) _ H2.out Tryz.underlying119 rfl HI.out ?_)
        | (with_reducible refine wpList_store_row rfl 119 (.tmp 8) (.tmp 19) rfl (g + 1 + 1) T rfl rfl 119 (u8a zrow) h1.out HI.out HI0.out H1.out ?_))
      refine bodyPost_ret (v := .agg T) ?_ rfl ⟨by rw [← HT.out]; rfl, ?_⟩
      · exact results_cell_row Tryz.results77 _ _ (g + 1 + 1) 119 _ (0, 0) _ rfl (setRow_heap _ _ _ _ _ _ h1.out) Tryz.underlying119 rfl HI.out
      · rw [← HG.out]
        exact ⟨hb.out.os, hb.out.tape, hb.out.output, by simpa using hb.out.size, fun k hk => (setRow_other _ _ _ _ (by omega)).trans (hb.out.block k hk)⟩

end Go.Proofs.YtnminmaklbhakaaGreatDoor
namespace Go.Proofs.YtnminmaklbhakaaGreatDoor
set_option linter.unusedVariables false
set_option linter.unusedSimpArgs false
open Go.RowKit

def commonL (s : Nat) : List Nat := layR (layR (layR (layR (layR zrow 0 1 s 2) 2 2 0 0) 3 3 1 0) 13 13 s 0) 14 14 0 1
def escL (s fn fd e : Nat) : List Nat := layR (layR (commonL s) 4 4 fn fd) 5 12 0 e
def csiL (s fn fd e : Nat) : List Nat := layR (layR (layR (commonL s) 4 4 fn fd) 5 8 9 0) 9 12 0 e
def numL (s : Nat) : List Nat := layR (layR (csiL s 7 8 4) 5 5 6 9) 7 7 6 10
def textL (s e : Nat) : List Nat := layR (layR (layR (layR zrow 0 1 s 0) 2 2 0 0) 3 3 1 e) 4 14 s 11
theorem commonL_len (s : Nat) : (commonL s).length = 30 := by simp only [commonL, layR_len]; rfl
theorem escL_len (s fn fd e : Nat) : (escL s fn fd e).length = 30 := by simp only [escL, layR_len]; exact commonL_len s
theorem csiL_len (s fn fd e : Nat) : (csiL s fn fd e).length = 30 := by simp only [csiL, layR_len]; exact commonL_len s
theorem numL_len (s : Nat) : (numL s).length = 30 := by simp only [numL, layR_len]; exact csiL_len _ _ _ _
theorem textL_len (s e : Nat) : (textL s e).length = 30 := by simp only [textL, layR_len]; rfl

/-- The result's row, which nothing turns till it is stored. -/
structure Rq (w : World) (g : Nat) (w' : World) : Prop where
  q : w'.heap[g]? = some (.cells (u8a zrow) 119 (0, 0))
  b : Below g w w'
theorem Rq.start (w : World) (g : Nat) (hg : g = w.heap.size) : Rq w g (w.alloc (.cells (u8a zrow) 119)) := by
  subst hg; exact ⟨heap_alloc_new w _, (Below.refl _ w).alloc (Nat.le_refl _) _⟩
theorem Rq.step {w w1 w2 : World} {g : Nat} (h : Rq w g w1) (k : Below w1.heap.size w1 w2) : Rq w g w2 :=
  ⟨(k.block g (lt_heap h.q)).trans h.q, h.b.trans (k.mono (Nat.le_of_lt (lt_heap h.q)))⟩
theorem Rq.alloc {w w1 : World} {g : Nat} (h : Rq w g w1) (o : Obj) : Rq w g (w1.alloc o) := ⟨heap_alloc h.q o, h.b.alloc (Nat.le_of_lt (lt_heap h.q)) o⟩
theorem Rq.drew {w w1 : World} {g : Nat} (h : Rq w g w1) : Rq w g w1.drew := ⟨h.q, h.b.drew⟩

theorem lay_is (l : List Nat) (T T' : Array Value) (f t a b : Nat) (w : World) (h : u8a l = T) (h' : u8a (layR l f t a b) = T') (hl : l.length = 30) (hf : f ≤ t) (ht : t ≤ 14) :
    Calls Tryz.prog 77 #[.agg T, .int .u8 (f : Int), .int .u8 (t : Int), .agg #[.int .u8 (a : Int), .int .u8 (b : Int)]] w fun e w' => e = .returned (.agg T') ∧ Below w.heap.size w w' := by
  subst h h'; exact lay_any l f t a b w hl hf ht

set_option maxRecDepth 100000 in
set_option maxHeartbeats 3200000 in
theorem common_any (s : Nat) (T' : Array Value) (hT' : u8a (commonL s) = T') (w : World) :
    Calls Tryz.prog 76 #[.int .u8 (s : Int)] w fun e w' => e = .returned (.agg T') ∧ Below w.heap.size w w' := by
  subst hT'
  obtain ⟨g, hg⟩ : ∃ g, g = w.heap.size := ⟨_, rfl⟩
  have HG := Lib.hid hg
  have R0 := Lib.hid (Rq.start w g hg)
  clear hg
  go_enter Tryz.func76, Tryz.ntmps76
  go_wp2_with fail
  rw [← HG.out]
  obtain ⟨T1, h1⟩ : ∃ T, u8a (layR (zrow) 0 1 s 2) = T := ⟨_, rfl⟩
  have H1 := Lib.hid h1
  clear h1
  refine (lay_is (zrow) _ _ 0 1 s 2 _ rfl H1.out rfl (by omega) (by omega)).mono ?_
  rintro e w1 ⟨rfl, hb⟩
  have R1 := Lib.hid (R0.out.step hb)
  clear hb
  go_wp2_with fail
  obtain ⟨T2, h2⟩ : ∃ T, u8a (layR (layR (zrow) 0 1 s 2) 2 2 0 0) = T := ⟨_, rfl⟩
  have H2 := Lib.hid h2
  clear h2
  refine (lay_is (layR (zrow) 0 1 s 2) _ _ 2 2 0 0 _ H1.out H2.out (by simp only [layR_len]; rfl) (by omega) (by omega)).mono ?_
  rintro e w2 ⟨rfl, hb⟩
  have R2 := Lib.hid (R1.out.step hb)
  clear hb
  go_wp2_with fail
  obtain ⟨T3, h3⟩ : ∃ T, u8a (layR (layR (layR (zrow) 0 1 s 2) 2 2 0 0) 3 3 1 0) = T := ⟨_, rfl⟩
  have H3 := Lib.hid h3
  clear h3
  refine (lay_is (layR (layR (zrow) 0 1 s 2) 2 2 0 0) _ _ 3 3 1 0 _ H2.out H3.out (by simp only [layR_len]; rfl) (by omega) (by omega)).mono ?_
  rintro e w3 ⟨rfl, hb⟩
  have R3 := Lib.hid (R2.out.step hb)
  clear hb
  go_wp2_with fail
  obtain ⟨T4, h4⟩ : ∃ T, u8a (layR (layR (layR (layR (zrow) 0 1 s 2) 2 2 0 0) 3 3 1 0) 13 13 s 0) = T := ⟨_, rfl⟩
  have H4 := Lib.hid h4
  clear h4
  refine (lay_is (layR (layR (layR (zrow) 0 1 s 2) 2 2 0 0) 3 3 1 0) _ _ 13 13 s 0 _ H3.out H4.out (by simp only [layR_len]; rfl) (by omega) (by omega)).mono ?_
  rintro e w4 ⟨rfl, hb⟩
  have R4 := Lib.hid (R3.out.step hb)
  clear hb
  go_wp2_with fail
  obtain ⟨T5, h5⟩ : ∃ T, u8a (layR (layR (layR (layR (layR (zrow) 0 1 s 2) 2 2 0 0) 3 3 1 0) 13 13 s 0) 14 14 0 1) = T := ⟨_, rfl⟩
  have H5 := Lib.hid h5
  clear h5
  refine (lay_is (layR (layR (layR (layR (zrow) 0 1 s 2) 2 2 0 0) 3 3 1 0) 13 13 s 0) _ _ 14 14 0 1 _ H4.out H5.out (by simp only [layR_len]; rfl) (by omega) (by omega)).mono ?_
  rintro e w5 ⟨rfl, hb⟩
  have R5 := Lib.hid (R4.out.step hb)
  clear hb
  have HI : Hid ((Tryz.prog.info? 119).map (·.size) = some T5.size) := Lib.hid (by rw [← H5.out, u8a_size, show (layR (layR (layR (layR (layR (zrow) 0 1 s 2) 2 2 0 0) 3 3 1 0) 13 13 s 0) 14 14 0 1).length = 30 from (by simp only [layR_len]; rfl)]; exact row_info)
  have HI0 : Hid ((u8a zrow).size = T5.size) := Lib.hid (by rw [← H5.out, u8a_size, u8a_size, show (layR (layR (layR (layR (layR (zrow) 0 1 s 2) 2 2 0 0) 3 3 1 0) 13 13 s 0) 14 14 0 1).length = 30 from (by simp only [layR_len]; rfl)]; rfl)
  have HO : Hid (T5.all (·.oneCell') = true) := Lib.hid (by rw [← H5.out]; exact u8a_one _)
  have HQ := R5.out.q
  go_wp2_with (with_reducible refine wpList_store_row rfl 119 (.tmp 2) (.tmp 15) rfl g T5 rfl rfl 119 (u8a zrow) HQ HI.out HI0.out HO.out ?_)
  refine bodyPost_ret (v := .agg T5) ?_ rfl ⟨by rw [← H5.out]; rfl, ?_⟩
  · exact results_cell_row Tryz.results76 _ _ g 119 _ (0, 0) _ rfl (setRow_heap _ _ _ _ _ _ HQ) Tryz.underlying119 rfl HI.out
  · rw [← HG.out]
    exact ⟨R5.out.b.os, R5.out.b.tape, R5.out.b.output, by simpa using R5.out.b.size, fun k hk => (setRow_other _ _ _ _ (by omega)).trans (R5.out.b.block k hk)⟩

set_option maxRecDepth 100000 in
set_option maxHeartbeats 3200000 in
theorem text_any (s e : Nat) (T' : Array Value) (hT' : u8a (textL s e) = T') (w : World) :
    Calls Tryz.prog 81 #[.int .u8 (s : Int), .int .u8 (e : Int)] w fun e w' => e = .returned (.agg T') ∧ Below w.heap.size w w' := by
  subst hT'
  obtain ⟨g, hg⟩ : ∃ g, g = w.heap.size := ⟨_, rfl⟩
  have HG := Lib.hid hg
  have R0 := Lib.hid (Rq.start w g hg)
  clear hg
  go_enter Tryz.func81, Tryz.ntmps81
  go_wp2_with fail
  rw [← HG.out]
  obtain ⟨T1, h1⟩ : ∃ T, u8a (layR (zrow) 0 1 s 0) = T := ⟨_, rfl⟩
  have H1 := Lib.hid h1
  clear h1
  refine (lay_is (zrow) _ _ 0 1 s 0 _ rfl H1.out rfl (by omega) (by omega)).mono ?_
  rintro e w1 ⟨rfl, hb⟩
  have R1 := Lib.hid (R0.out.step hb)
  clear hb
  go_wp2_with fail
  obtain ⟨T2, h2⟩ : ∃ T, u8a (layR (layR (zrow) 0 1 s 0) 2 2 0 0) = T := ⟨_, rfl⟩
  have H2 := Lib.hid h2
  clear h2
  refine (lay_is (layR (zrow) 0 1 s 0) _ _ 2 2 0 0 _ H1.out H2.out (by simp only [layR_len]; rfl) (by omega) (by omega)).mono ?_
  rintro e w2 ⟨rfl, hb⟩
  have R2 := Lib.hid (R1.out.step hb)
  clear hb
  go_wp2_with fail
  obtain ⟨T3, h3⟩ : ∃ T, u8a (layR (layR (layR (zrow) 0 1 s 0) 2 2 0 0) 3 3 1 e) = T := ⟨_, rfl⟩
  have H3 := Lib.hid h3
  clear h3
  refine (lay_is (layR (layR (zrow) 0 1 s 0) 2 2 0 0) _ _ 3 3 1 e _ H2.out H3.out (by simp only [layR_len]; rfl) (by omega) (by omega)).mono ?_
  rintro e w3 ⟨rfl, hb⟩
  have R3 := Lib.hid (R2.out.step hb)
  clear hb
  go_wp2_with fail
  obtain ⟨T4, h4⟩ : ∃ T, u8a (layR (layR (layR (layR (zrow) 0 1 s 0) 2 2 0 0) 3 3 1 e) 4 14 s 11) = T := ⟨_, rfl⟩
  have H4 := Lib.hid h4
  clear h4
  refine (lay_is (layR (layR (layR (zrow) 0 1 s 0) 2 2 0 0) 3 3 1 e) _ _ 4 14 s 11 _ H3.out H4.out (by simp only [layR_len]; rfl) (by omega) (by omega)).mono ?_
  rintro e w4 ⟨rfl, hb⟩
  have R4 := Lib.hid (R3.out.step hb)
  clear hb
  have HI : Hid ((Tryz.prog.info? 119).map (·.size) = some T4.size) := Lib.hid (by rw [← H4.out, u8a_size, show (layR (layR (layR (layR (zrow) 0 1 s 0) 2 2 0 0) 3 3 1 e) 4 14 s 11).length = 30 from (by simp only [layR_len]; rfl)]; exact row_info)
  have HI0 : Hid ((u8a zrow).size = T4.size) := Lib.hid (by rw [← H4.out, u8a_size, u8a_size, show (layR (layR (layR (layR (zrow) 0 1 s 0) 2 2 0 0) 3 3 1 e) 4 14 s 11).length = 30 from (by simp only [layR_len]; rfl)]; rfl)
  have HO : Hid (T4.all (·.oneCell') = true) := Lib.hid (by rw [← H4.out]; exact u8a_one _)
  have HQ := R4.out.q
  go_wp2_with (with_reducible refine wpList_store_row rfl 119 (.tmp 4) (.tmp 16) rfl g T4 rfl rfl 119 (u8a zrow) HQ HI.out HI0.out HO.out ?_)
  refine bodyPost_ret (v := .agg T4) ?_ rfl ⟨by rw [← H4.out]; rfl, ?_⟩
  · exact results_cell_row Tryz.results81 _ _ g 119 _ (0, 0) _ rfl (setRow_heap _ _ _ _ _ _ HQ) Tryz.underlying119 rfl HI.out
  · rw [← HG.out]
    exact ⟨R4.out.b.os, R4.out.b.tape, R4.out.b.output, by simpa using R4.out.b.size, fun k hk => (setRow_other _ _ _ _ (by omega)).trans (R4.out.b.block k hk)⟩

structure Rz (w : World) (g0 g : Nat) (c : Array Value) (w' : World) : Prop where
  q : w'.heap[g]? = some (.cells (u8a zrow) 119 (0, 0))
  c : w'.heap[g0]? = some (.cells c 117 (0, 0))
  b : Below g0 w w'
theorem Rz.start (w : World) (c : Array Value) : Rz w w.heap.size (w.heap.size + 1) c ((w.alloc (.cells c 117)).alloc (.cells (u8a zrow) 119)) := by
  have h := heap_alloc_new (w.alloc (.cells c 117)) (.cells (u8a zrow) 119)
  rw [show (w.alloc (.cells c 117)).heap.size = w.heap.size + 1 from by simp] at h
  exact ⟨h, heap_alloc (heap_alloc_new w _) _, ((Below.refl _ w).alloc (Nat.le_refl _) _).alloc (by simp) _⟩
theorem Rz.step {w w1 w2 : World} {g0 g : Nat} {c : Array Value} (h : Rz w g0 g c w1) (k : Below w1.heap.size w1 w2) : Rz w g0 g c w2 :=
  ⟨(k.block g (lt_heap h.q)).trans h.q, (k.block g0 (lt_heap h.c)).trans h.c, h.b.trans (k.mono (Nat.le_of_lt (lt_heap h.c)))⟩

set_option maxRecDepth 100000 in
set_option maxHeartbeats 3200000 in
theorem esc_any (s fn fd e : Nat) (T' : Array Value) (hT' : u8a (escL s fn fd e) = T') (w : World) :
    Calls Tryz.prog 78 #[.int .u8 (s : Int), .agg #[.int .u8 (fn : Int), .int .u8 (fd : Int)], .int .u8 (e : Int)] w fun e w' => e = .returned (.agg T') ∧ Below w.heap.size w w' := by
  subst hT'
  obtain ⟨W, hW⟩ : ∃ W : World, W = (w.alloc (.cells #[.int .u8 (fn : Int), .int .u8 (fd : Int)] 117)).alloc (.cells (u8a zrow) 119) := ⟨_, rfl⟩
  obtain ⟨g0, hg0⟩ : ∃ g0, g0 = w.heap.size := ⟨_, rfl⟩
  obtain ⟨g, hg⟩ : ∃ g, g = w.heap.size + 1 := ⟨_, rfl⟩
  have R0 : Hid (Rz w g0 g #[.int .u8 (fn : Int), .int .u8 (fd : Int)] W) := Lib.hid (by rw [hW, hg, hg0]; exact Rz.start w _)
  have HG := Lib.hid hg0
  have hgg : g0 < g := by omega
  go_enter Tryz.func78, Tryz.ntmps78
  go_wp2_with fail
  have hW2 : W = (w.alloc (.cells #[.int .u8 (fn : Int), .int .u8 (fd : Int)] 117)).alloc (.cells #[.int .u8 0, .int .u8 0, .int .u8 0, .int .u8 0, .int .u8 0, .int .u8 0, .int .u8 0, .int .u8 0, .int .u8 0, .int .u8 0, .int .u8 0, .int .u8 0, .int .u8 0, .int .u8 0, .int .u8 0, .int .u8 0, .int .u8 0, .int .u8 0, .int .u8 0, .int .u8 0, .int .u8 0, .int .u8 0, .int .u8 0, .int .u8 0, .int .u8 0, .int .u8 0, .int .u8 0, .int .u8 0, .int .u8 0, .int .u8 0] 119) := hW
  rw [← hW2, ← hg, ← hg0]
  clear hW hW2 hg hg0
  obtain ⟨T1, h1⟩ : ∃ T, u8a (commonL s) = T := ⟨_, rfl⟩
  have H1 := Lib.hid h1
  clear h1
  obtain ⟨T2, h2⟩ : ∃ T, u8a (layR (commonL s) 4 4 fn fd) = T := ⟨_, rfl⟩
  have H2 := Lib.hid h2
  clear h2
  obtain ⟨T3, h3⟩ : ∃ T, u8a (layR (layR (commonL s) 4 4 fn fd) 5 12 0 e) = T := ⟨_, rfl⟩
  have H3 := Lib.hid h3
  clear h3
  have HI : Hid ((Tryz.prog.info? 119).map (·.size) = some T3.size) := Lib.hid (by rw [← H3.out, u8a_size, show (layR (layR (commonL s) 4 4 fn fd) 5 12 0 e).length = 30 from (by (try simp only [layR_len]); exact commonL_len s)]; exact row_info)
  have HI0 : Hid ((u8a zrow).size = T3.size) := Lib.hid (by rw [← H3.out, u8a_size, u8a_size, show (layR (layR (commonL s) 4 4 fn fd) 5 12 0 e).length = 30 from (by (try simp only [layR_len]); exact commonL_len s)]; rfl)
  have HO : Hid (T3.all (·.oneCell') = true) := Lib.hid (by rw [← H3.out]; exact u8a_one _)
  refine wp_region_noPanic ?_
  refine wp_region_held_drew (S := fun w' => w'.cell? ⟨g0, 0, none⟩ = some (.int .u8 (fn : Int)) ∧ w'.cell? ⟨g0, 1, none⟩ = some (.int .u8 (fd : Int))) (by kernel_rfl) ⟨cell_at R0.out.c 0, cell_at R0.out.c 1⟩ (fun hHeld => ?_)
  refine wpAnyH_take (i := 0) (oi := _) (v := ?va0) rfl (by kernel_rfl) (by kernel_rfl) (by kernel_rfl) (fun _ _ _ h => h) (Or.inl ⟨by rfl, ?hya0⟩) (by assumption) ?resta0
  case hya0 => (intro w hSw; (try dsimp only at hSw); (try simp only [List.getElem_toArray, List.getElem_cons_zero, List.getElem_cons_succ]); go_simp; (try with_reducible rfl))
  (try simp only [Act.put, List.setIfInBounds_toArray, List.set_cons_zero, List.set_cons_succ, List.getElem_toArray, List.getElem_cons_zero, List.getElem_cons_succ])
  refine wpAnyH_take (i := 2) (oi := _) (v := ?va2) rfl (by kernel_rfl) (by kernel_rfl) (by kernel_rfl) (fun _ _ _ h => h) (Or.inl ⟨by rfl, ?hya2⟩) (by assumption) ?resta2
  case hya2 => (intro w hSw; (try dsimp only at hSw); (try simp only [List.getElem_toArray, List.getElem_cons_zero, List.getElem_cons_succ]); go_simp; (try with_reducible rfl))
  (try simp only [Act.put, List.setIfInBounds_toArray, List.set_cons_zero, List.set_cons_succ, List.getElem_toArray, List.getElem_cons_zero, List.getElem_cons_succ])
  refine wpAnyH_take (i := 4) (oi := _) (v := ?va4) rfl (by kernel_rfl) (by kernel_rfl) (by kernel_rfl) (fun _ _ _ h => h) (Or.inl ⟨by rfl, ?hya4⟩) (by assumption) ?resta4
  case hya4 => (intro w hSw; (try dsimp only at hSw); (try simp only [List.getElem_toArray, List.getElem_cons_zero, List.getElem_cons_succ]); go_simp; (try with_reducible rfl))
  (try simp only [Act.put, List.setIfInBounds_toArray, List.set_cons_zero, List.set_cons_succ, List.getElem_toArray, List.getElem_cons_zero, List.getElem_cons_succ])
  refine wpAnyH_take (i := 5) (oi := _) (v := ?va5) rfl (by kernel_rfl) (by kernel_rfl) (by kernel_rfl) (fun _ _ _ h => h) (Or.inl ⟨by rfl, ?hya5⟩) (by assumption) ?resta5
  case hya5 => (intro w hSw; (try dsimp only at hSw); (try simp only [List.getElem_toArray, List.getElem_cons_zero, List.getElem_cons_succ]); go_simp; (try with_reducible rfl))
  (try simp only [Act.put, List.setIfInBounds_toArray, List.set_cons_zero, List.set_cons_succ, List.getElem_toArray, List.getElem_cons_zero, List.getElem_cons_succ])
  refine wpAnyH_ready (rs := [1]) (by kernel_rfl) (by simp) ?_
  refine AllReadyH.cons (o := _) rfl (fun K hK => ?_) AllReadyH.nil
  (try simp only [List.getElem_toArray, List.getElem_cons_zero, List.getElem_cons_succ])
  go_simp
  refine (common_any s _ H1.out _).mono ?_; rintro e w1 ⟨rfl, hb⟩; have R1 : Hid (Rz w g0 g _ w1) := Lib.hid (R0.out.step ⟨hb.os, hb.tape, hb.output, hb.size, hb.block⟩); clear hb
  refine hK.out _ _ ?_ (fun hHeld => ?_)
  · exact ⟨cell_at R1.out.c 0, cell_at R1.out.c 1⟩
  clear hK K
  (try simp only [Act.put, List.setIfInBounds_toArray, List.set_cons_zero, List.set_cons_succ, List.getElem_toArray, List.getElem_cons_zero, List.getElem_cons_succ])
  refine wpAnyH_ready (rs := [3]) (by kernel_rfl) (by simp) ?_
  refine AllReadyH.cons (o := _) rfl (fun K hK => ?_) AllReadyH.nil
  (try simp only [List.getElem_toArray, List.getElem_cons_zero, List.getElem_cons_succ])
  go_simp
  refine (lay_is (commonL s) _ _ 4 4 fn fd _ H1.out H2.out (by (try simp only [layR_len]); exact commonL_len s) (by omega) (by omega)).mono ?_; rintro e w2 ⟨rfl, hb⟩; have R2 : Hid (Rz w g0 g _ w2) := Lib.hid (R1.out.step hb); clear hb
  refine hK.out _ _ ?_ (fun hHeld => ?_)
  · exact ⟨cell_at R2.out.c 0, cell_at R2.out.c 1⟩
  clear hK K
  (try simp only [Act.put, List.setIfInBounds_toArray, List.set_cons_zero, List.set_cons_succ, List.getElem_toArray, List.getElem_cons_zero, List.getElem_cons_succ])
  refine wpAnyH_ready (rs := [6]) (by kernel_rfl) (by simp) ?_
  refine AllReadyH.cons (o := _) rfl (fun K hK => ?_) AllReadyH.nil
  (try simp only [List.getElem_toArray, List.getElem_cons_zero, List.getElem_cons_succ])
  go_simp
  refine (lay_is (layR (commonL s) 4 4 fn fd) _ _ 5 12 0 e _ H2.out H3.out (by (try simp only [layR_len]); exact commonL_len s) (by omega) (by omega)).mono ?_; rintro e w3 ⟨rfl, hb⟩; have R3 : Hid (Rz w g0 g _ w3) := Lib.hid (R2.out.step hb); clear hb
  refine hK.out _ _ ?_ (fun hHeld => ?_)
  · exact ⟨cell_at R3.out.c 0, cell_at R3.out.c 1⟩
  clear hK K
  (try simp only [Act.put, List.setIfInBounds_toArray, List.set_cons_zero, List.set_cons_succ, List.getElem_toArray, List.getElem_cons_zero, List.getElem_cons_succ])
  refine wpAnyH_ready (rs := [7]) (by kernel_rfl) (by simp) ?_
  refine AllReadyH.cons (o := _) rfl (fun K hK => ?_) AllReadyH.nil
  (try simp only [List.getElem_toArray, List.getElem_cons_zero, List.getElem_cons_succ])
  rw [if_pos (by rfl)]; refine wp_store_row 119 (.tmp 6) (.tmp 13) rfl g T3 rfl rfl 119 (u8a zrow) R3.out.q HI.out HI0.out HO.out ?_; have hcc := (setRow_other w3 g g0 T3 (by omega)).trans R3.out.c
  refine hK.out _ _ ?_ (fun hHeld => ?_)
  · exact ⟨cell_at hcc 0, cell_at hcc 1⟩
  clear hK K
  (try simp only [Act.put, List.setIfInBounds_toArray, List.set_cons_zero, List.set_cons_succ, List.getElem_toArray, List.getElem_cons_zero, List.getElem_cons_succ])
  refine wpAnyH_done (by kernel_rfl) ?_ _
  refine NoPanic.normal ?_
  clear hHeld
  go_wp2_with fail
  refine bodyPost_ret (v := .agg T3) ?_ rfl ⟨by rw [← H3.out]; rfl, ?_⟩
  · exact results_cell_row Tryz.results78 _ _ g 119 _ (0, 0) _ rfl (setRow_heap _ _ _ _ _ _ R3.out.q) Tryz.underlying119 rfl HI.out
  · rw [← HG.out]
    exact ⟨R3.out.b.os, R3.out.b.tape, R3.out.b.output, by simpa using R3.out.b.size, fun k hk => (setRow_other _ _ _ _ (by omega)).trans (R3.out.b.block k hk)⟩

set_option maxRecDepth 100000 in
set_option maxHeartbeats 3200000 in
theorem csi_any (s fn fd e : Nat) (T' : Array Value) (hT' : u8a (csiL s fn fd e) = T') (w : World) :
    Calls Tryz.prog 80 #[.int .u8 (s : Int), .agg #[.int .u8 (fn : Int), .int .u8 (fd : Int)], .int .u8 (e : Int)] w fun e w' => e = .returned (.agg T') ∧ Below w.heap.size w w' := by
  subst hT'
  obtain ⟨W, hW⟩ : ∃ W : World, W = (w.alloc (.cells #[.int .u8 (fn : Int), .int .u8 (fd : Int)] 117)).alloc (.cells (u8a zrow) 119) := ⟨_, rfl⟩
  obtain ⟨g0, hg0⟩ : ∃ g0, g0 = w.heap.size := ⟨_, rfl⟩
  obtain ⟨g, hg⟩ : ∃ g, g = w.heap.size + 1 := ⟨_, rfl⟩
  have R0 : Hid (Rz w g0 g #[.int .u8 (fn : Int), .int .u8 (fd : Int)] W) := Lib.hid (by rw [hW, hg, hg0]; exact Rz.start w _)
  have HG := Lib.hid hg0
  have hgg : g0 < g := by omega
  go_enter Tryz.func80, Tryz.ntmps80
  go_wp2_with fail
  have hW2 : W = (w.alloc (.cells #[.int .u8 (fn : Int), .int .u8 (fd : Int)] 117)).alloc (.cells #[.int .u8 0, .int .u8 0, .int .u8 0, .int .u8 0, .int .u8 0, .int .u8 0, .int .u8 0, .int .u8 0, .int .u8 0, .int .u8 0, .int .u8 0, .int .u8 0, .int .u8 0, .int .u8 0, .int .u8 0, .int .u8 0, .int .u8 0, .int .u8 0, .int .u8 0, .int .u8 0, .int .u8 0, .int .u8 0, .int .u8 0, .int .u8 0, .int .u8 0, .int .u8 0, .int .u8 0, .int .u8 0, .int .u8 0, .int .u8 0] 119) := hW
  rw [← hW2, ← hg, ← hg0]
  clear hW hW2 hg hg0
  obtain ⟨T1, h1⟩ : ∃ T, u8a (commonL s) = T := ⟨_, rfl⟩
  have H1 := Lib.hid h1
  clear h1
  obtain ⟨T2, h2⟩ : ∃ T, u8a (layR (commonL s) 4 4 fn fd) = T := ⟨_, rfl⟩
  have H2 := Lib.hid h2
  clear h2
  obtain ⟨T3, h3⟩ : ∃ T, u8a (layR (layR (commonL s) 4 4 fn fd) 5 8 9 0) = T := ⟨_, rfl⟩
  have H3 := Lib.hid h3
  clear h3
  obtain ⟨T4, h4⟩ : ∃ T, u8a (layR (layR (layR (commonL s) 4 4 fn fd) 5 8 9 0) 9 12 0 e) = T := ⟨_, rfl⟩
  have H4 := Lib.hid h4
  clear h4
  have HI : Hid ((Tryz.prog.info? 119).map (·.size) = some T4.size) := Lib.hid (by rw [← H4.out, u8a_size, show (layR (layR (layR (commonL s) 4 4 fn fd) 5 8 9 0) 9 12 0 e).length = 30 from (by (try simp only [layR_len]); exact commonL_len s)]; exact row_info)
  have HI0 : Hid ((u8a zrow).size = T4.size) := Lib.hid (by rw [← H4.out, u8a_size, u8a_size, show (layR (layR (layR (commonL s) 4 4 fn fd) 5 8 9 0) 9 12 0 e).length = 30 from (by (try simp only [layR_len]); exact commonL_len s)]; rfl)
  have HO : Hid (T4.all (·.oneCell') = true) := Lib.hid (by rw [← H4.out]; exact u8a_one _)
  refine wp_region_noPanic ?_
  refine wp_region_held_drew (S := fun w' => w'.cell? ⟨g0, 0, none⟩ = some (.int .u8 (fn : Int)) ∧ w'.cell? ⟨g0, 1, none⟩ = some (.int .u8 (fd : Int))) (by kernel_rfl) ⟨cell_at R0.out.c 0, cell_at R0.out.c 1⟩ (fun hHeld => ?_)
  refine wpAnyH_take (i := 0) (oi := _) (v := ?va0) rfl (by kernel_rfl) (by kernel_rfl) (by kernel_rfl) (fun _ _ _ h => h) (Or.inl ⟨by rfl, ?hya0⟩) (by assumption) ?resta0
  case hya0 => (intro w hSw; (try dsimp only at hSw); (try simp only [List.getElem_toArray, List.getElem_cons_zero, List.getElem_cons_succ]); go_simp; (try with_reducible rfl))
  (try simp only [Act.put, List.setIfInBounds_toArray, List.set_cons_zero, List.set_cons_succ, List.getElem_toArray, List.getElem_cons_zero, List.getElem_cons_succ])
  refine wpAnyH_take (i := 2) (oi := _) (v := ?va2) rfl (by kernel_rfl) (by kernel_rfl) (by kernel_rfl) (fun _ _ _ h => h) (Or.inl ⟨by rfl, ?hya2⟩) (by assumption) ?resta2
  case hya2 => (intro w hSw; (try dsimp only at hSw); (try simp only [List.getElem_toArray, List.getElem_cons_zero, List.getElem_cons_succ]); go_simp; (try with_reducible rfl))
  (try simp only [Act.put, List.setIfInBounds_toArray, List.set_cons_zero, List.set_cons_succ, List.getElem_toArray, List.getElem_cons_zero, List.getElem_cons_succ])
  refine wpAnyH_take (i := 4) (oi := _) (v := ?va4) rfl (by kernel_rfl) (by kernel_rfl) (by kernel_rfl) (fun _ _ _ h => h) (Or.inl ⟨by rfl, ?hya4⟩) (by assumption) ?resta4
  case hya4 => (intro w hSw; (try dsimp only at hSw); (try simp only [List.getElem_toArray, List.getElem_cons_zero, List.getElem_cons_succ]); go_simp; (try with_reducible rfl))
  (try simp only [Act.put, List.setIfInBounds_toArray, List.set_cons_zero, List.set_cons_succ, List.getElem_toArray, List.getElem_cons_zero, List.getElem_cons_succ])
  refine wpAnyH_take (i := 6) (oi := _) (v := ?va6) rfl (by kernel_rfl) (by kernel_rfl) (by kernel_rfl) (fun _ _ _ h => h) (Or.inl ⟨by rfl, ?hya6⟩) (by assumption) ?resta6
  case hya6 => (intro w hSw; (try dsimp only at hSw); (try simp only [List.getElem_toArray, List.getElem_cons_zero, List.getElem_cons_succ]); go_simp; (try with_reducible rfl))
  (try simp only [Act.put, List.setIfInBounds_toArray, List.set_cons_zero, List.set_cons_succ, List.getElem_toArray, List.getElem_cons_zero, List.getElem_cons_succ])
  refine wpAnyH_take (i := 7) (oi := _) (v := ?va7) rfl (by kernel_rfl) (by kernel_rfl) (by kernel_rfl) (fun _ _ _ h => h) (Or.inl ⟨by rfl, ?hya7⟩) (by assumption) ?resta7
  case hya7 => (intro w hSw; (try dsimp only at hSw); (try simp only [List.getElem_toArray, List.getElem_cons_zero, List.getElem_cons_succ]); go_simp; (try with_reducible rfl))
  (try simp only [Act.put, List.setIfInBounds_toArray, List.set_cons_zero, List.set_cons_succ, List.getElem_toArray, List.getElem_cons_zero, List.getElem_cons_succ])
  refine wpAnyH_ready (rs := [1]) (by kernel_rfl) (by simp) ?_
  refine AllReadyH.cons (o := _) rfl (fun K hK => ?_) AllReadyH.nil
  (try simp only [List.getElem_toArray, List.getElem_cons_zero, List.getElem_cons_succ])
  go_simp
  refine (common_any s _ H1.out _).mono ?_; rintro e w1 ⟨rfl, hb⟩; have R1 : Hid (Rz w g0 g _ w1) := Lib.hid (R0.out.step ⟨hb.os, hb.tape, hb.output, hb.size, hb.block⟩); clear hb
  refine hK.out _ _ ?_ (fun hHeld => ?_)
  · exact ⟨cell_at R1.out.c 0, cell_at R1.out.c 1⟩
  clear hK K
  (try simp only [Act.put, List.setIfInBounds_toArray, List.set_cons_zero, List.set_cons_succ, List.getElem_toArray, List.getElem_cons_zero, List.getElem_cons_succ])
  refine wpAnyH_ready (rs := [3]) (by kernel_rfl) (by simp) ?_
  refine AllReadyH.cons (o := _) rfl (fun K hK => ?_) AllReadyH.nil
  (try simp only [List.getElem_toArray, List.getElem_cons_zero, List.getElem_cons_succ])
  go_simp
  refine (lay_is (commonL s) _ _ 4 4 fn fd _ H1.out H2.out (by (try simp only [layR_len]); exact commonL_len s) (by omega) (by omega)).mono ?_; rintro e w2 ⟨rfl, hb⟩; have R2 : Hid (Rz w g0 g _ w2) := Lib.hid (R1.out.step hb); clear hb
  refine hK.out _ _ ?_ (fun hHeld => ?_)
  · exact ⟨cell_at R2.out.c 0, cell_at R2.out.c 1⟩
  clear hK K
  (try simp only [Act.put, List.setIfInBounds_toArray, List.set_cons_zero, List.set_cons_succ, List.getElem_toArray, List.getElem_cons_zero, List.getElem_cons_succ])
  refine wpAnyH_ready (rs := [5]) (by kernel_rfl) (by simp) ?_
  refine AllReadyH.cons (o := _) rfl (fun K hK => ?_) AllReadyH.nil
  (try simp only [List.getElem_toArray, List.getElem_cons_zero, List.getElem_cons_succ])
  go_simp
  refine (lay_is (layR (commonL s) 4 4 fn fd) _ _ 5 8 9 0 _ H2.out H3.out (by (try simp only [layR_len]); exact commonL_len s) (by omega) (by omega)).mono ?_; rintro e w3 ⟨rfl, hb⟩; have R3 : Hid (Rz w g0 g _ w3) := Lib.hid (R2.out.step hb); clear hb
  refine hK.out _ _ ?_ (fun hHeld => ?_)
  · exact ⟨cell_at R3.out.c 0, cell_at R3.out.c 1⟩
  clear hK K
  (try simp only [Act.put, List.setIfInBounds_toArray, List.set_cons_zero, List.set_cons_succ, List.getElem_toArray, List.getElem_cons_zero, List.getElem_cons_succ])
  refine wpAnyH_ready (rs := [8]) (by kernel_rfl) (by simp) ?_
  refine AllReadyH.cons (o := _) rfl (fun K hK => ?_) AllReadyH.nil
  (try simp only [List.getElem_toArray, List.getElem_cons_zero, List.getElem_cons_succ])
  go_simp
  refine (lay_is (layR (layR (commonL s) 4 4 fn fd) 5 8 9 0) _ _ 9 12 0 e _ H3.out H4.out (by (try simp only [layR_len]); exact commonL_len s) (by omega) (by omega)).mono ?_; rintro e w4 ⟨rfl, hb⟩; have R4 : Hid (Rz w g0 g _ w4) := Lib.hid (R3.out.step hb); clear hb
  refine hK.out _ _ ?_ (fun hHeld => ?_)
  · exact ⟨cell_at R4.out.c 0, cell_at R4.out.c 1⟩
  clear hK K
  (try simp only [Act.put, List.setIfInBounds_toArray, List.set_cons_zero, List.set_cons_succ, List.getElem_toArray, List.getElem_cons_zero, List.getElem_cons_succ])
  refine wpAnyH_ready (rs := [9]) (by kernel_rfl) (by simp) ?_
  refine AllReadyH.cons (o := _) rfl (fun K hK => ?_) AllReadyH.nil
  (try simp only [List.getElem_toArray, List.getElem_cons_zero, List.getElem_cons_succ])
  rw [if_pos (by rfl)]; refine wp_store_row 119 (.tmp 6) (.tmp 15) rfl g T4 rfl rfl 119 (u8a zrow) R4.out.q HI.out HI0.out HO.out ?_; have hcc := (setRow_other w4 g g0 T4 (by omega)).trans R4.out.c
  refine hK.out _ _ ?_ (fun hHeld => ?_)
  · exact ⟨cell_at hcc 0, cell_at hcc 1⟩
  clear hK K
  (try simp only [Act.put, List.setIfInBounds_toArray, List.set_cons_zero, List.set_cons_succ, List.getElem_toArray, List.getElem_cons_zero, List.getElem_cons_succ])
  refine wpAnyH_done (by kernel_rfl) ?_ _
  refine NoPanic.normal ?_
  clear hHeld
  go_wp2_with fail
  refine bodyPost_ret (v := .agg T4) ?_ rfl ⟨by rw [← H4.out]; rfl, ?_⟩
  · exact results_cell_row Tryz.results80 _ _ g 119 _ (0, 0) _ rfl (setRow_heap _ _ _ _ _ _ R4.out.q) Tryz.underlying119 rfl HI.out
  · rw [← HG.out]
    exact ⟨R4.out.b.os, R4.out.b.tape, R4.out.b.output, by simpa using R4.out.b.size, fun k hk => (setRow_other _ _ _ _ (by omega)).trans (R4.out.b.block k hk)⟩

set_option maxRecDepth 100000 in
set_option maxHeartbeats 3200000 in
theorem num_any (s : Nat) (T' : Array Value) (hT' : u8a (numL s) = T') (w : World) :
    Calls Tryz.prog 79 #[.int .u8 (s : Int)] w fun e w' => e = .returned (.agg T') ∧ Below w.heap.size w w' := by
  subst hT'
  obtain ⟨g, hg⟩ : ∃ g, g = w.heap.size := ⟨_, rfl⟩
  have HG := Lib.hid hg
  have R0 := Lib.hid (Rq.start w g hg)
  clear hg
  go_enter Tryz.func79, Tryz.ntmps79
  go_wp2_with fail
  rw [← HG.out]
  obtain ⟨T1, h1⟩ : ∃ T, u8a (csiL s 7 8 4) = T := ⟨_, rfl⟩
  have H1 := Lib.hid h1
  clear h1
  refine (csi_any s 7 8 4 _ H1.out _).mono ?_
  rintro e w1 ⟨rfl, hb⟩
  have R1 := Lib.hid (R0.out.step hb)
  clear hb
  go_wp2_with fail
  obtain ⟨T2, h2⟩ : ∃ T, u8a (layR (csiL s 7 8 4) 5 5 6 9) = T := ⟨_, rfl⟩
  have H2 := Lib.hid h2
  clear h2
  refine (lay_is (csiL s 7 8 4) _ _ 5 5 6 9 _ H1.out H2.out (by (try simp only [layR_len]); exact csiL_len _ _ _ _) (by omega) (by omega)).mono ?_
  rintro e w2 ⟨rfl, hb⟩
  have R2 := Lib.hid (R1.out.step hb)
  clear hb
  go_wp2_with fail
  obtain ⟨T3, h3⟩ : ∃ T, u8a (layR (layR (csiL s 7 8 4) 5 5 6 9) 7 7 6 10) = T := ⟨_, rfl⟩
  have H3 := Lib.hid h3
  clear h3
  refine (lay_is (layR (csiL s 7 8 4) 5 5 6 9) _ _ 7 7 6 10 _ H2.out H3.out (by (try simp only [layR_len]); exact csiL_len _ _ _ _) (by omega) (by omega)).mono ?_
  rintro e w3 ⟨rfl, hb⟩
  have R3 := Lib.hid (R2.out.step hb)
  clear hb
  have HI : Hid ((Tryz.prog.info? 119).map (·.size) = some T3.size) := Lib.hid (by rw [← H3.out, u8a_size, show (layR (layR (csiL s 7 8 4) 5 5 6 9) 7 7 6 10).length = 30 from (by (try simp only [layR_len]); exact csiL_len _ _ _ _)]; exact row_info)
  have HI0 : Hid ((u8a zrow).size = T3.size) := Lib.hid (by rw [← H3.out, u8a_size, u8a_size, show (layR (layR (csiL s 7 8 4) 5 5 6 9) 7 7 6 10).length = 30 from (by (try simp only [layR_len]); exact csiL_len _ _ _ _)]; rfl)
  have HO : Hid (T3.all (·.oneCell') = true) := Lib.hid (by rw [← H3.out]; exact u8a_one _)
  have HQ := R3.out.q
  go_wp2_with (with_reducible refine wpList_store_row rfl 119 (.tmp 2) (.tmp 9) rfl g T3 rfl rfl 119 (u8a zrow) HQ HI.out HI0.out HO.out ?_)
  refine bodyPost_ret (v := .agg T3) ?_ rfl ⟨by rw [← H3.out]; rfl, ?_⟩
  · exact results_cell_row Tryz.results79 _ _ g 119 _ (0, 0) _ rfl (setRow_heap _ _ _ _ _ _ HQ) Tryz.underlying119 rfl HI.out
  · rw [← HG.out]
    exact ⟨R3.out.b.os, R3.out.b.tape, R3.out.b.output, by simpa using R3.out.b.size, fun k hk => (setRow_other _ _ _ _ (by omega)).trans (R3.out.b.block k hk)⟩

def zero360 : Array Value := u8a (List.replicate 360 0)
def tabV : Array Value := u8a tabE
theorem table_info : (Tryz.prog.info? 120).map (·.size) = some 360 := by kernel_rfl
theorem tabV_size : tabV.size = 360 := by rw [tabV, u8a_size]; decide +kernel
theorem zero_table (w : World) : (zeroValue 120).run Tryz.prog w = .ok (.agg zero360) w := by kernel_rfl
structure Rt (w : World) (g : Nat) (Z : Array Value) (w' : World) : Prop where
  q : w'.heap[g]? = some (.cells Z 120 (0, 0))
  b : Below g w w'
theorem Rt.start (w : World) (g : Nat) (hg : g = w.heap.size) (Z : Array Value) : Rt w g Z (w.alloc (.cells Z 120)) := by
  subst hg; exact ⟨heap_alloc_new w _, (Below.refl _ w).alloc (Nat.le_refl _) _⟩
theorem Rt.step {w w1 w2 : World} {g : Nat} {Z : Array Value} (h : Rt w g Z w1) (k : Below w1.heap.size w1 w2) : Rt w g Z w2 :=
  ⟨(k.block g (lt_heap h.q)).trans h.q, h.b.trans (k.mono (Nat.le_of_lt (lt_heap h.q)))⟩
theorem trow_0 : u8a (layR (commonL 0) 4 12 0 1) = #[.int .u8 0, .int .u8 2, .int .u8 0, .int .u8 2, .int .u8 0, .int .u8 0, .int .u8 1, .int .u8 0, .int .u8 0, .int .u8 1, .int .u8 0, .int .u8 1, .int .u8 0, .int .u8 1, .int .u8 0, .int .u8 1, .int .u8 0, .int .u8 1, .int .u8 0, .int .u8 1, .int .u8 0, .int .u8 1, .int .u8 0, .int .u8 1, .int .u8 0, .int .u8 1, .int .u8 0, .int .u8 0, .int .u8 0, .int .u8 1] := by
  show u8a _ = u8a [0, 2, 0, 2, 0, 0, 1, 0, 0, 1, 0, 1, 0, 1, 0, 1, 0, 1, 0, 1, 0, 1, 0, 1, 0, 1, 0, 0, 0, 1]
  exact congrArg u8a (by decide +kernel)
theorem trow_1 : u8a (layR (layR (layR (escL 1 2 8 3) 10 10 11 0) 11 11 5 0) 12 12 10 0) = #[.int .u8 1, .int .u8 2, .int .u8 1, .int .u8 2, .int .u8 0, .int .u8 0, .int .u8 1, .int .u8 0, .int .u8 2, .int .u8 8, .int .u8 0, .int .u8 3, .int .u8 0, .int .u8 3, .int .u8 0, .int .u8 3, .int .u8 0, .int .u8 3, .int .u8 0, .int .u8 3, .int .u8 11, .int .u8 0, .int .u8 5, .int .u8 0, .int .u8 10, .int .u8 0, .int .u8 1, .int .u8 0, .int .u8 0, .int .u8 1] := by
  show u8a _ = u8a [1, 2, 1, 2, 0, 0, 1, 0, 2, 8, 0, 3, 0, 3, 0, 3, 0, 3, 0, 3, 11, 0, 5, 0, 10, 0, 1, 0, 0, 1]
  exact congrArg u8a (by decide +kernel)
theorem trow_2 : u8a (escL 2 3 8 3) = #[.int .u8 2, .int .u8 2, .int .u8 2, .int .u8 2, .int .u8 0, .int .u8 0, .int .u8 1, .int .u8 0, .int .u8 3, .int .u8 8, .int .u8 0, .int .u8 3, .int .u8 0, .int .u8 3, .int .u8 0, .int .u8 3, .int .u8 0, .int .u8 3, .int .u8 0, .int .u8 3, .int .u8 0, .int .u8 3, .int .u8 0, .int .u8 3, .int .u8 0, .int .u8 3, .int .u8 2, .int .u8 0, .int .u8 0, .int .u8 1] := by
  show u8a _ = u8a [2, 2, 2, 2, 0, 0, 1, 0, 3, 8, 0, 3, 0, 3, 0, 3, 0, 3, 0, 3, 0, 3, 0, 3, 0, 3, 2, 0, 0, 1]
  exact congrArg u8a (by decide +kernel)
theorem trow_3 : u8a (escL 3 4 0 3) = #[.int .u8 3, .int .u8 2, .int .u8 3, .int .u8 2, .int .u8 0, .int .u8 0, .int .u8 1, .int .u8 0, .int .u8 4, .int .u8 0, .int .u8 0, .int .u8 3, .int .u8 0, .int .u8 3, .int .u8 0, .int .u8 3, .int .u8 0, .int .u8 3, .int .u8 0, .int .u8 3, .int .u8 0, .int .u8 3, .int .u8 0, .int .u8 3, .int .u8 0, .int .u8 3, .int .u8 3, .int .u8 0, .int .u8 0, .int .u8 1] := by
  show u8a _ = u8a [3, 2, 3, 2, 0, 0, 1, 0, 4, 0, 0, 3, 0, 3, 0, 3, 0, 3, 0, 3, 0, 3, 0, 3, 0, 3, 3, 0, 0, 1]
  exact congrArg u8a (by decide +kernel)
theorem trow_4 : u8a (escL 4 4 0 0) = #[.int .u8 4, .int .u8 2, .int .u8 4, .int .u8 2, .int .u8 0, .int .u8 0, .int .u8 1, .int .u8 0, .int .u8 4, .int .u8 0, .int .u8 0, .int .u8 0, .int .u8 0, .int .u8 0, .int .u8 0, .int .u8 0, .int .u8 0, .int .u8 0, .int .u8 0, .int .u8 0, .int .u8 0, .int .u8 0, .int .u8 0, .int .u8 0, .int .u8 0, .int .u8 0, .int .u8 4, .int .u8 0, .int .u8 0, .int .u8 1] := by
  show u8a _ = u8a [4, 2, 4, 2, 0, 0, 1, 0, 4, 0, 0, 0, 0, 0, 0, 0, 0, 0, 0, 0, 0, 0, 0, 0, 0, 0, 4, 0, 0, 1]
  exact congrArg u8a (by decide +kernel)
theorem trow_5 : u8a (layR (numL 5) 8 8 6 7) = #[.int .u8 5, .int .u8 2, .int .u8 5, .int .u8 2, .int .u8 0, .int .u8 0, .int .u8 1, .int .u8 0, .int .u8 7, .int .u8 8, .int .u8 6, .int .u8 9, .int .u8 9, .int .u8 0, .int .u8 6, .int .u8 10, .int .u8 6, .int .u8 7, .int .u8 0, .int .u8 4, .int .u8 0, .int .u8 4, .int .u8 0, .int .u8 4, .int .u8 0, .int .u8 4, .int .u8 5, .int .u8 0, .int .u8 0, .int .u8 1] := by
  show u8a _ = u8a [5, 2, 5, 2, 0, 0, 1, 0, 7, 8, 6, 9, 9, 0, 6, 10, 6, 7, 0, 4, 0, 4, 0, 4, 0, 4, 5, 0, 0, 1]
  exact congrArg u8a (by decide +kernel)
theorem trow_6 : u8a (numL 6) = #[.int .u8 6, .int .u8 2, .int .u8 6, .int .u8 2, .int .u8 0, .int .u8 0, .int .u8 1, .int .u8 0, .int .u8 7, .int .u8 8, .int .u8 6, .int .u8 9, .int .u8 9, .int .u8 0, .int .u8 6, .int .u8 10, .int .u8 9, .int .u8 0, .int .u8 0, .int .u8 4, .int .u8 0, .int .u8 4, .int .u8 0, .int .u8 4, .int .u8 0, .int .u8 4, .int .u8 6, .int .u8 0, .int .u8 0, .int .u8 1] := by
  show u8a _ = u8a [6, 2, 6, 2, 0, 0, 1, 0, 7, 8, 6, 9, 9, 0, 6, 10, 9, 0, 0, 4, 0, 4, 0, 4, 0, 4, 6, 0, 0, 1]
  exact congrArg u8a (by decide +kernel)
theorem trow_7 : u8a (csiL 7 8 8 4) = #[.int .u8 7, .int .u8 2, .int .u8 7, .int .u8 2, .int .u8 0, .int .u8 0, .int .u8 1, .int .u8 0, .int .u8 8, .int .u8 8, .int .u8 9, .int .u8 0, .int .u8 9, .int .u8 0, .int .u8 9, .int .u8 0, .int .u8 9, .int .u8 0, .int .u8 0, .int .u8 4, .int .u8 0, .int .u8 4, .int .u8 0, .int .u8 4, .int .u8 0, .int .u8 4, .int .u8 7, .int .u8 0, .int .u8 0, .int .u8 1] := by
  show u8a _ = u8a [7, 2, 7, 2, 0, 0, 1, 0, 8, 8, 9, 0, 9, 0, 9, 0, 9, 0, 0, 4, 0, 4, 0, 4, 0, 4, 7, 0, 0, 1]
  exact congrArg u8a (by decide +kernel)
theorem trow_8 : u8a (csiL 8 9 0 4) = #[.int .u8 8, .int .u8 2, .int .u8 8, .int .u8 2, .int .u8 0, .int .u8 0, .int .u8 1, .int .u8 0, .int .u8 9, .int .u8 0, .int .u8 9, .int .u8 0, .int .u8 9, .int .u8 0, .int .u8 9, .int .u8 0, .int .u8 9, .int .u8 0, .int .u8 0, .int .u8 4, .int .u8 0, .int .u8 4, .int .u8 0, .int .u8 4, .int .u8 0, .int .u8 4, .int .u8 8, .int .u8 0, .int .u8 0, .int .u8 1] := by
  show u8a _ = u8a [8, 2, 8, 2, 0, 0, 1, 0, 9, 0, 9, 0, 9, 0, 9, 0, 9, 0, 0, 4, 0, 4, 0, 4, 0, 4, 8, 0, 0, 1]
  exact congrArg u8a (by decide +kernel)
theorem trow_9 : u8a (csiL 9 9 0 0) = #[.int .u8 9, .int .u8 2, .int .u8 9, .int .u8 2, .int .u8 0, .int .u8 0, .int .u8 1, .int .u8 0, .int .u8 9, .int .u8 0, .int .u8 9, .int .u8 0, .int .u8 9, .int .u8 0, .int .u8 9, .int .u8 0, .int .u8 9, .int .u8 0, .int .u8 0, .int .u8 0, .int .u8 0, .int .u8 0, .int .u8 0, .int .u8 0, .int .u8 0, .int .u8 0, .int .u8 9, .int .u8 0, .int .u8 0, .int .u8 1] := by
  show u8a _ = u8a [9, 2, 9, 2, 0, 0, 1, 0, 9, 0, 9, 0, 9, 0, 9, 0, 9, 0, 0, 0, 0, 0, 0, 0, 0, 0, 9, 0, 0, 1]
  exact congrArg u8a (by decide +kernel)
theorem trow_10 : u8a (layR (textL 10 5) 1 1 0 5) = #[.int .u8 10, .int .u8 0, .int .u8 0, .int .u8 5, .int .u8 0, .int .u8 0, .int .u8 1, .int .u8 5, .int .u8 10, .int .u8 11, .int .u8 10, .int .u8 11, .int .u8 10, .int .u8 11, .int .u8 10, .int .u8 11, .int .u8 10, .int .u8 11, .int .u8 10, .int .u8 11, .int .u8 10, .int .u8 11, .int .u8 10, .int .u8 11, .int .u8 10, .int .u8 11, .int .u8 10, .int .u8 11, .int .u8 10, .int .u8 11] := by
  show u8a _ = u8a [10, 0, 0, 5, 0, 0, 1, 5, 10, 11, 10, 11, 10, 11, 10, 11, 10, 11, 10, 11, 10, 11, 10, 11, 10, 11, 10, 11, 10, 11]
  exact congrArg u8a (by decide +kernel)
theorem trow_11 : u8a (textL 11 6) = #[.int .u8 11, .int .u8 0, .int .u8 11, .int .u8 0, .int .u8 0, .int .u8 0, .int .u8 1, .int .u8 6, .int .u8 11, .int .u8 11, .int .u8 11, .int .u8 11, .int .u8 11, .int .u8 11, .int .u8 11, .int .u8 11, .int .u8 11, .int .u8 11, .int .u8 11, .int .u8 11, .int .u8 11, .int .u8 11, .int .u8 11, .int .u8 11, .int .u8 11, .int .u8 11, .int .u8 11, .int .u8 11, .int .u8 11, .int .u8 11] := by
  show u8a _ = u8a [11, 0, 11, 0, 0, 0, 1, 6, 11, 11, 11, 11, 11, 11, 11, 11, 11, 11, 11, 11, 11, 11, 11, 11, 11, 11, 11, 11, 11, 11]
  exact congrArg u8a (by decide +kernel)

set_option maxRecDepth 100000 in
set_option maxHeartbeats 6400000 in
theorem make_any (w : World) :
    Calls Tryz.prog 57 #[] w fun e w' => e = .returned (.agg tabV) ∧ Below w.heap.size w w' := by
  obtain ⟨g, hg⟩ : ∃ g, g = w.heap.size := ⟨_, rfl⟩
  have HG := Lib.hid hg
  have hzero := zero_table
  obtain ⟨Z, hZ⟩ : ∃ Z, Z = zero360 := ⟨_, rfl⟩
  rw [← hZ] at hzero
  have HZ := Lib.hid hZ
  have R0 := Lib.hid (Rt.start w g hg Z)
  clear hg hZ
  go_enter Tryz.func57, Tryz.ntmps57
  go_wp2_with fail
  rw [← HG.out]
  obtain ⟨T1, h1⟩ : ∃ T, u8a (commonL 0) = T := ⟨_, rfl⟩
  have H1 := Lib.hid h1
  clear h1
  refine (common_any 0 _ H1.out _).mono ?_
  rintro e w1 ⟨rfl, hb⟩
  have R1 := Lib.hid (R0.out.step hb)
  clear hb
  go_wp2_with fail
  obtain ⟨T2, h2⟩ : ∃ T, u8a (layR (commonL 0) 4 12 0 1) = T := ⟨_, rfl⟩
  have H2 := Lib.hid h2
  clear h2
  refine (lay_is (commonL 0) _ _ 4 12 0 1 _ H1.out H2.out (by (try simp only [layR_len]); exact commonL_len _) (by omega) (by omega)).mono ?_
  rintro e w2 ⟨rfl, hb⟩
  have R2 := Lib.hid (R1.out.step hb)
  clear hb
  go_wp2_with fail
  obtain ⟨T3, h3⟩ : ∃ T, u8a (escL 1 2 8 3) = T := ⟨_, rfl⟩
  have H3 := Lib.hid h3
  clear h3
  refine (esc_any 1 2 8 3 _ H3.out _).mono ?_
  rintro e w3 ⟨rfl, hb⟩
  have R3 := Lib.hid (R2.out.step hb)
  clear hb
  go_wp2_with fail
  obtain ⟨T4, h4⟩ : ∃ T, u8a (layR (escL 1 2 8 3) 10 10 11 0) = T := ⟨_, rfl⟩
  have H4 := Lib.hid h4
  clear h4
  refine (lay_is (escL 1 2 8 3) _ _ 10 10 11 0 _ H3.out H4.out (by (try simp only [layR_len]); exact escL_len _ _ _ _) (by omega) (by omega)).mono ?_
  rintro e w4 ⟨rfl, hb⟩
  have R4 := Lib.hid (R3.out.step hb)
  clear hb
  go_wp2_with fail
  obtain ⟨T5, h5⟩ : ∃ T, u8a (layR (layR (escL 1 2 8 3) 10 10 11 0) 11 11 5 0) = T := ⟨_, rfl⟩
  have H5 := Lib.hid h5
  clear h5
  refine (lay_is (layR (escL 1 2 8 3) 10 10 11 0) _ _ 11 11 5 0 _ H4.out H5.out (by (try simp only [layR_len]); exact escL_len _ _ _ _) (by omega) (by omega)).mono ?_
  rintro e w5 ⟨rfl, hb⟩
  have R5 := Lib.hid (R4.out.step hb)
  clear hb
  go_wp2_with fail
  obtain ⟨T6, h6⟩ : ∃ T, u8a (layR (layR (layR (escL 1 2 8 3) 10 10 11 0) 11 11 5 0) 12 12 10 0) = T := ⟨_, rfl⟩
  have H6 := Lib.hid h6
  clear h6
  refine (lay_is (layR (layR (escL 1 2 8 3) 10 10 11 0) 11 11 5 0) _ _ 12 12 10 0 _ H5.out H6.out (by (try simp only [layR_len]); exact escL_len _ _ _ _) (by omega) (by omega)).mono ?_
  rintro e w6 ⟨rfl, hb⟩
  have R6 := Lib.hid (R5.out.step hb)
  clear hb
  go_wp2_with fail
  obtain ⟨T7, h7⟩ : ∃ T, u8a (escL 2 3 8 3) = T := ⟨_, rfl⟩
  have H7 := Lib.hid h7
  clear h7
  refine (esc_any 2 3 8 3 _ H7.out _).mono ?_
  rintro e w7 ⟨rfl, hb⟩
  have R7 := Lib.hid (R6.out.step hb)
  clear hb
  go_wp2_with fail
  obtain ⟨T8, h8⟩ : ∃ T, u8a (escL 3 4 0 3) = T := ⟨_, rfl⟩
  have H8 := Lib.hid h8
  clear h8
  refine (esc_any 3 4 0 3 _ H8.out _).mono ?_
  rintro e w8 ⟨rfl, hb⟩
  have R8 := Lib.hid (R7.out.step hb)
  clear hb
  go_wp2_with fail
  obtain ⟨T9, h9⟩ : ∃ T, u8a (escL 4 4 0 0) = T := ⟨_, rfl⟩
  have H9 := Lib.hid h9
  clear h9
  refine (esc_any 4 4 0 0 _ H9.out _).mono ?_
  rintro e w9 ⟨rfl, hb⟩
  have R9 := Lib.hid (R8.out.step hb)
  clear hb
  go_wp2_with fail
  obtain ⟨T10, h10⟩ : ∃ T, u8a (numL 5) = T := ⟨_, rfl⟩
  have H10 := Lib.hid h10
  clear h10
  refine (num_any 5 _ H10.out _).mono ?_
  rintro e w10 ⟨rfl, hb⟩
  have R10 := Lib.hid (R9.out.step hb)
  clear hb
  go_wp2_with fail
  obtain ⟨T11, h11⟩ : ∃ T, u8a (layR (numL 5) 8 8 6 7) = T := ⟨_, rfl⟩
  have H11 := Lib.hid h11
  clear h11
  refine (lay_is (numL 5) _ _ 8 8 6 7 _ H10.out H11.out (by (try simp only [layR_len]); exact numL_len _) (by omega) (by omega)).mono ?_
  rintro e w11 ⟨rfl, hb⟩
  have R11 := Lib.hid (R10.out.step hb)
  clear hb
  go_wp2_with fail
  obtain ⟨T12, h12⟩ : ∃ T, u8a (numL 6) = T := ⟨_, rfl⟩
  have H12 := Lib.hid h12
  clear h12
  refine (num_any 6 _ H12.out _).mono ?_
  rintro e w12 ⟨rfl, hb⟩
  have R12 := Lib.hid (R11.out.step hb)
  clear hb
  go_wp2_with fail
  obtain ⟨T13, h13⟩ : ∃ T, u8a (csiL 7 8 8 4) = T := ⟨_, rfl⟩
  have H13 := Lib.hid h13
  clear h13
  refine (csi_any 7 8 8 4 _ H13.out _).mono ?_
  rintro e w13 ⟨rfl, hb⟩
  have R13 := Lib.hid (R12.out.step hb)
  clear hb
  go_wp2_with fail
  obtain ⟨T14, h14⟩ : ∃ T, u8a (csiL 8 9 0 4) = T := ⟨_, rfl⟩
  have H14 := Lib.hid h14
  clear h14
  refine (csi_any 8 9 0 4 _ H14.out _).mono ?_
  rintro e w14 ⟨rfl, hb⟩
  have R14 := Lib.hid (R13.out.step hb)
  clear hb
  go_wp2_with fail
  obtain ⟨T15, h15⟩ : ∃ T, u8a (csiL 9 9 0 0) = T := ⟨_, rfl⟩
  have H15 := Lib.hid h15
  clear h15
  refine (csi_any 9 9 0 0 _ H15.out _).mono ?_
  rintro e w15 ⟨rfl, hb⟩
  have R15 := Lib.hid (R14.out.step hb)
  clear hb
  go_wp2_with fail
  obtain ⟨T16, h16⟩ : ∃ T, u8a (textL 10 5) = T := ⟨_, rfl⟩
  have H16 := Lib.hid h16
  clear h16
  refine (text_any 10 5 _ H16.out _).mono ?_
  rintro e w16 ⟨rfl, hb⟩
  have R16 := Lib.hid (R15.out.step hb)
  clear hb
  go_wp2_with fail
  obtain ⟨T17, h17⟩ : ∃ T, u8a (layR (textL 10 5) 1 1 0 5) = T := ⟨_, rfl⟩
  have H17 := Lib.hid h17
  clear h17
  refine (lay_is (textL 10 5) _ _ 1 1 0 5 _ H16.out H17.out (by (try simp only [layR_len]); exact textL_len _ _) (by omega) (by omega)).mono ?_
  rintro e w17 ⟨rfl, hb⟩
  have R17 := Lib.hid (R16.out.step hb)
  clear hb
  go_wp2_with fail
  obtain ⟨T18, h18⟩ : ∃ T, u8a (textL 11 6) = T := ⟨_, rfl⟩
  have H18 := Lib.hid h18
  clear h18
  refine (text_any 11 6 _ H18.out _).mono ?_
  rintro e w18 ⟨rfl, hb⟩
  have R18 := Lib.hid (R17.out.step hb)
  clear hb
  have HBT : Hid (Tryz.prog.built 120 [(0, .agg T2), (1, .agg T6), (2, .agg T7), (3, .agg T8), (4, .agg T9), (5, .agg T11), (6, .agg T12), (7, .agg T13), (8, .agg T14), (9, .agg T15), (10, .agg T17), (11, .agg T18)] = some tabV) := by
    show _ = _
    rw [← H2.out, trow_0, ← H6.out, trow_1, ← H7.out, trow_2, ← H8.out, trow_3, ← H9.out, trow_4, ← H11.out, trow_5, ← H12.out, trow_6, ← H13.out, trow_7, ← H14.out, trow_8, ← H15.out, trow_9, ← H17.out, trow_10, ← H18.out, trow_11]
    kernel_rfl
  obtain ⟨V, hV⟩ : ∃ V, V = tabV := ⟨_, rfl⟩
  rw [← hV] at HBT
  have HV := Lib.hid hV
  have HI : Hid ((Tryz.prog.info? 120).map (·.size) = some V.size) := Lib.hid (by rw [hV, tabV_size]; exact table_info)
  have HI0 : Hid (Z.size = V.size) := Lib.hid (by rw [hV, tabV_size, HZ.out, zero360, u8a_size, List.length_replicate])
  have HO : Hid (V.all (·.oneCell') = true) := Lib.hid (by rw [hV]; exact u8a_one _)
  have HQ := R18.out.q
  clear hV
  go_wp2_with (first
    | (with_reducible refine wpList_built rfl 120 #[(0, .tmp 3), (1, .tmp 11), (2, .tmp 13), (3, .tmp 15), (4, .tmp 17), (5, .tmp 20), (6, .tmp 21), (7, .tmp 23), (8, .tmp 25), (9, .tmp 27), (10, .tmp 30), (11, .tmp 31)] rfl V ?hbt ?_)
    | (with_reducible refine wpList_store_row rfl 120 (.tmp 0) (.tmp 32) rfl g V rfl rfl 120 Z HQ HI.out HI0.out HO.out ?_))
  case hbt => first | exact HBT.out | (simp; exact HBT.out)
  refine bodyPost_ret (v := .agg V) ?_ rfl ⟨by rw [HV.out], ?_⟩
  · exact results_cell_row Tryz.results57 _ _ g 120 _ (0, 0) _ rfl (setRow_heap _ _ _ _ _ _ HQ) Tryz.underlying120 rfl HI.out
  · rw [← HG.out]
    exact ⟨R18.out.b.os, R18.out.b.tape, R18.out.b.output, by simpa using R18.out.b.size, fun k hk => (setRow_other _ _ _ _ (by omega)).trans (R18.out.b.block k hk)⟩

end Go.Proofs.YtnminmaklbhakaaGreatDoor
namespace Go.Proofs.YtnminmaklbhakaaGreatDoor
set_option linter.unusedVariables false
set_option linter.unusedSimpArgs false
open Go.RowKit Go.MuLone

theorem esc_storeVar_at {P : Program} (w : World) (b off : Nat) (ty : TypeId) (cells : Array Value) (hi : (P.info? ty).map (·.size) = some cells.size) (h1 : cells.all (·.oneCell') = true)
    (hc : ∀ j, j < cells.size → (w.cell? ⟨b, off + j, none⟩).isSome = true) (hf : ∀ j, j < cells.size → w.frozen? ⟨b, off + j, none⟩ = false) :
    (storeVar ty ⟨b, off, none⟩ (.agg cells)).run P w = .ok () (w.setCells b off cells.toList) := by
  have := run_storeCells_cells (P := P) b off cells.toList 0 w (by simpa using hc) (by simpa using hf) (fun v hv => (Array.all_eq_true_iff_forall_mem.1 h1) v (by simpa using hv))
  cases hq : P.info? ty with
  | none => simp [hq] at hi
  | some i =>
    have hs : cells.size = i.size := by simp [hq] at hi; omega
    simp [storeVar, sizeOf, typeInfo, hq, Value.cells, hs, this]

theorem esc_store_at {P : Program} {o : Oper} {a : Act} {w : World} {K : Act → World → Prop} {Q : Exit → Act → World → Prop} (ty : TypeId) (x y : Operand) (ho : o.op = .store ty x y)
    (b off : Nat) (cells : Array Value) (hx : a.eval x = .pointer (some ⟨b, off, none⟩)) (hy : a.eval y = .agg cells) (hi : (P.info? ty).map (·.size) = some cells.size) (h1 : cells.all (·.oneCell') = true)
    (hc : ∀ j, j < cells.size → (w.cell? ⟨b, off + j, none⟩).isSome = true) (hf : ∀ j, j < cells.size → w.frozen? ⟨b, off + j, none⟩ = false)
    (h : K (a.put o.dst undef) (w.setCells b off cells.toList)) : o.wp P a w K Q := by
  unfold Oper.wp execOp
  simp only [ho, hx, hy, Instr.storeAt, Instr.sureAddr, Sem.run_bind, Sem.run_pure, Result.andThen_ok, esc_storeVar_at w b off ty cells hi h1 hc hf]
  exact h

theorem tabV_one : tabV.all (·.oneCell') = true := u8a_one _
theorem tabV_info : (Tryz.prog.info? 120).map (·.size) = some tabV.size := by rw [tabV_size]; exact table_info

/-- Behind the table's making. -/
def OpenTo (W : World) (p : Nat) (T : Array Value) (w' : World) : Prop := ∃ w1, Below W.heap.size W w1 ∧ w' = w1.setCells p 3 T.toList

set_option maxRecDepth 100000 in
set_option maxHeartbeats 1600000 in
/-- What the Once calls. -/
theorem rows_body (g p : Nat) (W : World) (hg : W.cell? ⟨g, 0, none⟩ = some (.pointer (some ⟨p, 0, none⟩))) (hc : ∀ j, j < 360 → (W.cell? ⟨p, 3 + j, none⟩).isSome = true) (hf : ∀ j, j < 360 → W.frozen? ⟨p, 3 + j, none⟩ = false) (hp : p < W.heap.size) (hgp : g ≠ p) :
    Calls Tryz.prog 56 #[.pointer (some ⟨g, 0, none⟩)] W fun e w' => e = .returned (.tuple #[]) ∧ OpenTo W p tabV w' := by
  obtain ⟨T, hT⟩ : ∃ T, T = tabV := ⟨_, rfl⟩
  have hmk := make_any
  have hi := tabV_info
  have h1 := tabV_one
  have hz := tabV_size
  rw [← hT] at hmk hi h1 hz ⊢
  have MK := Lib.hid hmk
  have HI := Lib.hid hi
  have H1 := Lib.hid h1
  have HC := Lib.hid hc
  have HF := Lib.hid hf
  have HZ := Lib.hid hz
  have HG := Lib.hid (World.block_lt_of_cell? W _ hg)
  have HW := Lib.hid hg
  clear hmk hi h1 hc hf hz hT
  go_enter Tryz.func56, Tryz.ntmps56
  go_wp2_with fail
  refine wp_region_noPanic ?_
  have HP := Lib.hid hp
  have HGP := Lib.hid hgp
  clear hp hgp
  refine wp_region_held_drew (S := fun w' => w'.cell? ⟨g, 0, none⟩ = some (.pointer (some ⟨p, 0, none⟩))) (by kernel_rfl) hg (fun hHeld => ?_)
  refine wpAnyH_take (i := 0) (oi := _) (v := ?va0) rfl (by kernel_rfl) (by kernel_rfl) (by kernel_rfl) (fun _ _ _ h => h) (Or.inl ⟨by rfl, ?hya0⟩) (by assumption) ?resta0
  case hya0 => (intro w hSw; (try dsimp only at hSw); (try simp only [List.getElem_toArray, List.getElem_cons_zero, List.getElem_cons_succ]); go_simp; (try with_reducible rfl))
  (try simp only [Act.put, List.setIfInBounds_toArray, List.set_cons_zero, List.set_cons_succ, List.getElem_toArray, List.getElem_cons_zero, List.getElem_cons_succ])
  refine wpAnyH_ready (rs := [1]) (by kernel_rfl) (by simp) ?_
  refine AllReadyH.cons (o := _) rfl (fun K hK => ?_) AllReadyH.nil
  (try simp only [List.getElem_toArray, List.getElem_cons_zero, List.getElem_cons_succ])
  go_simp
  (refine (MK.out _).mono ?_; rintro e w3 ⟨rfl, hb⟩; replace hb := ((Below.refl W.heap.size W).drew).trans hb; have B3 := Lib.hid hb; clear hb)
  refine hK.out _ _ ?_ (fun hHeld => ?_)
  · exact (B3.out.cell (p := ⟨g, 0, none⟩) HG.out).trans HW.out
  clear hK K
  (try simp only [Act.put, List.setIfInBounds_toArray, List.set_cons_zero, List.set_cons_succ, List.getElem_toArray, List.getElem_cons_zero, List.getElem_cons_succ])
  refine wpAnyH_take (i := 2) (oi := _) (v := ?va2) rfl (by kernel_rfl) (by kernel_rfl) (by kernel_rfl) (fun _ _ _ h => h) (Or.inl ⟨by rfl, ?hya2⟩) (by assumption) ?resta2
  case hya2 => (intro w hSw; (try dsimp only at hSw); (try simp only [List.getElem_toArray, List.getElem_cons_zero, List.getElem_cons_succ]); go_simp; (try with_reducible rfl))
  (try simp only [Act.put, List.setIfInBounds_toArray, List.set_cons_zero, List.set_cons_succ, List.getElem_toArray, List.getElem_cons_zero, List.getElem_cons_succ])
  refine wpAnyH_take (i := 3) (oi := _) (v := ?va3) rfl (by kernel_rfl) (by kernel_rfl) (by kernel_rfl) (fun _ _ _ h => h) (Or.inl ⟨by rfl, ?hya3⟩) (by assumption) ?resta3
  case hya3 => (intro w hSw; (try dsimp only at hSw); (try simp only [List.getElem_toArray, List.getElem_cons_zero, List.getElem_cons_succ]); go_simp; (try with_reducible rfl))
  (try simp only [Act.put, List.setIfInBounds_toArray, List.set_cons_zero, List.set_cons_succ, List.getElem_toArray, List.getElem_cons_zero, List.getElem_cons_succ])
  refine wpAnyH_ready (rs := [4]) (by kernel_rfl) (by simp) ?_
  refine AllReadyH.cons (o := _) rfl (fun K hK => ?_) AllReadyH.nil
  (try simp only [List.getElem_toArray, List.getElem_cons_zero, List.getElem_cons_succ])
  (rw [if_pos (by rfl)]; refine esc_store_at 120 (.tmp 4) (.tmp 2) rfl p 3 T rfl rfl HI.out H1.out (fun j hj => by rw [B3.out.cell (p := ⟨p, 3 + j, none⟩) HP.out]; exact HC.out j (by have := HZ.out; omega)) (fun j hj => by rw [B3.out.frozen (p := ⟨p, 3 + j, none⟩) HP.out]; exact HF.out j (by have := HZ.out; omega)) ?_)
  refine hK.out _ _ ?_ (fun hHeld => ?_)
  · exact (World.cell?_setCells_out _ _ _ _ _ (fun x _ => absurd x HGP.out)).trans ((B3.out.cell (p := ⟨g, 0, none⟩) HG.out).trans HW.out)
  clear hK K
  (try simp only [Act.put, List.setIfInBounds_toArray, List.set_cons_zero, List.set_cons_succ, List.getElem_toArray, List.getElem_cons_zero, List.getElem_cons_succ])
  refine wpAnyH_done (by kernel_rfl) ?_ _
  refine NoPanic.normal ?_
  go_end0
  exact ⟨rfl, w3, B3.out, rfl⟩

/-- Cells beside the table, and of it. -/
theorem OpenTo.out {W w' : World} {p : Nat} (h : OpenTo W p tabV w') {o : Nat} {v : Value} (c : Cell W p o v) (ho : o < 3) : Cell w' p o v := by
  obtain ⟨w1, hb, rfl⟩ := h
  have c1 : Cell w1 p o v := c.keep (Keep.of_below (fun _ => False) hb) (fun x => x)
  exact ⟨(World.cell?_setCells_out _ _ _ _ _ (fun _ _ => by show o < 3 ∨ _; omega)).trans c1.1, (World.frozen?_setCells _ _ _ _ _).trans c1.2⟩
theorem tabV_list : tabV.toList.length = 360 := by rw [Array.length_toList, tabV_size]
theorem OpenTo.tab {W w' : World} {p : Nat} (h : OpenTo W p tabV w') (hc : ∀ i, i < 360 → ∃ v, Cell W p (3 + i) v) {i : Nat} (hi : i < 360) : Cell w' p (3 + i) (.int .u8 ((tabE.getD i 0 : Nat) : Int)) := by
  obtain ⟨w1, hb, rfl⟩ := h
  have hl := tabV_list
  refine ⟨?_, ?_⟩
  · rw [World.cell?_setCells_in p tabV.toList 3 w1 (fun j hj => ?_) i (by omega)]
    · have hx := u8a_at tabE i (by have := tabV_size; rw [tabV, u8a_size] at this; omega)
      have e : tabV.toList[i]'(by omega) = .int .u8 ((tabE.getD i 0 : Nat) : Int) := by
        have h2 : tabV.toList[i]? = some (.int .u8 ((tabE.getD i 0 : Nat) : Int)) := by rw [Array.getElem?_toList]; exact hx
        rw [List.getElem?_eq_getElem (by omega)] at h2
        injection h2
      rw [e]
    · obtain ⟨v, c⟩ := hc j (by omega)
      rw [hb.cell (p := ⟨p, 3 + j, none⟩) c.lt, c.1]
      rfl
  · obtain ⟨v, c⟩ := hc i hi
    rw [World.frozen?_setCells, hb.frozen (p := ⟨p, 3 + i, none⟩) c.lt]
    exact c.2
theorem OpenTo.keep {W w' : World} {p : Nat} (h : OpenTo W p tabV w') : Keep (· = p) W w' := by
  obtain ⟨w1, hb, rfl⟩ := h
  exact keep_setCells (S := fun x => x = p) p (fun _ => rfl) _ _ _ (Keep.of_below _ hb)

/-- esc.rules at p. -/
structure RulesAt (w : World) (p : Nat) (made : Bool) : Prop where
  o0 : Cell w p 0 (.int .u32 (if made = true then 1 else 0))
  o1 : Cell w p 1 (.int .i32 0)
  tab : ∀ i, i < 360 → ∃ v, Cell w p (3 + i) v ∧ (made = true → v = .int .u8 ((tabE.getD i 0 : Nat) : Int))
namespace RulesAt
variable {w w' : World} {p : Nat} {made : Bool}
theorem lt (h : RulesAt w p made) : p < w.heap.size := h.o0.lt
theorem keep {S : Nat → Prop} (h : RulesAt w p made) (k : Keep S w w') (hp : ¬ S p) : RulesAt w' p made :=
  ⟨h.o0.keep k hp, h.o1.keep k hp, fun i hi => by obtain ⟨v, a, b⟩ := h.tab i hi; exact ⟨v, a.keep k hp, b⟩⟩
theorem alloc (h : RulesAt w p made) (o : Obj) : RulesAt (w.alloc o) p made := h.keep (S := fun _ => False) ((Keep.refl _ w).alloc o) (fun x => x)
theorem at' (h : RulesAt w p true) {i : Nat} (hi : i < 360) : w.cell? ⟨p, 3 + i, none⟩ = some (.int .u8 ((tabE.getD i 0 : Nat) : Int)) := by
  obtain ⟨v, a, b⟩ := h.tab i hi
  rw [a.1, b rfl]
end RulesAt

theorem do_rows_first (p : Nat) (w : World) (h : RulesAt w p false) :
    Calls Tryz.prog 55 #[.pointer (some ⟨p, 0, none⟩), .func (.func 56) #[] #[.pointer (some ⟨w.heap.size, 0, none⟩)]] (w.alloc (.cells #[.pointer (some ⟨p, 0, none⟩)] 55)) fun e w' =>
      e = .returned (.tuple #[]) ∧ RulesAt w' p true ∧ Keep (· = p) w w' ∧ w'.cell? ⟨w.heap.size, 0, none⟩ = some (.pointer (some ⟨p, 0, none⟩)) := by
  have hp := h.lt
  obtain ⟨W0, hW0⟩ : ∃ W0, W0 = w.alloc (.cells #[.pointer (some ⟨p, 0, none⟩)] 55) := ⟨_, rfl⟩
  have k0 : Keep (· = p) w W0 := by rw [hW0]; exact (Keep.refl _ w).alloc _
  have h0 : RulesAt W0 p false := by rw [hW0]; exact h.alloc _
  have g0 : Cell W0 w.heap.size 0 (.pointer (some ⟨p, 0, none⟩)) := by rw [hW0]; exact Cell.box 0 rfl
  rw [← hW0]
  obtain ⟨Wh, hWh⟩ : ∃ Wh, Wh = W0.setCell ⟨p, 1, none⟩ (.int .i32 1) := ⟨_, rfl⟩
  have kh : Keep (· = p) W0 Wh := by rw [hWh]; exact keep_set W0 p 1 _
  have hhc : ∀ {o v}, o ≠ 1 → Cell W0 p o v → Cell Wh p o v := fun ho c => by rw [hWh]; exact c.far (by omega) _
  have hh1 : Cell Wh p 1 (.int .i32 1) := by rw [hWh]; exact h0.o1.set _
  have gh : Cell Wh w.heap.size 0 (.pointer (some ⟨p, 0, none⟩)) := g0.keep kh (by omega)
  have hbody := rows_body w.heap.size p Wh gh.1 (fun j hj => by obtain ⟨v, a, _⟩ := h0.tab j hj; rw [(hhc (by omega) a).1]; rfl) (fun j hj => by obtain ⟨v, a, _⟩ := h0.tab j hj; exact (hhc (by omega) a).2) (by exact (hhc (by omega) h0.o0).lt) (by omega)
  have hd := do_first p 0 56 #[.pointer (some ⟨w.heap.size, 0, none⟩)] (OpenTo Wh p tabV) W0 ⟨h0.o0.1, h0.o0.2, h0.o1.1, h0.o1.2⟩
    (fun W => MuLone.run_callFunc_enter Tryz.func56 (by kernel_rfl) rfl _ W) (by rw [← hWh]; exact hbody)
    (fun w' hw => ⟨(hw.out (hhc (by omega) h0.o0) (by omega)).1, (hw.out (hhc (by omega) h0.o0) (by omega)).2, (hw.out hh1 (by omega)).1, (hw.out hh1 (by omega)).2⟩)
  refine hd.mono ?_
  rintro e w' ⟨rfl, w2, h2, rfl⟩
  have fin : ∀ {o v}, o ≠ 0 → o ≠ 1 → Cell w2 p o v → Cell (onceDone p 0 w2) p o v := fun h1 h2 c => (c.drew.far (by omega) _).far (by omega) _
  have kk : Keep (· = p) w (onceDone p 0 w2) := ((k0.trans kh (fun _ _ x => x)).trans h2.keep (fun _ _ x => x)).trans (keep_done p 0 w2) (fun _ _ x => x)
  refine ⟨rfl, ⟨((h2.out (hhc (by omega) h0.o0) (by omega)).drew.set _).far (by omega) _, ((h2.out hh1 (by omega)).drew.far (by omega) _).set _, fun i hi => ⟨_, fin (by omega) (by omega) (h2.tab (fun j hj => by obtain ⟨v, a, _⟩ := h0.tab j hj; exact ⟨v, hhc (by omega) a⟩) hi), fun _ => rfl⟩⟩, kk, ?_⟩
  have kg : Keep (· = p) Wh (onceDone p 0 w2) := h2.keep.trans (keep_done p 0 w2) (fun _ _ x => x)
  exact (gh.keep kg (by omega)).1

/-- rows, the first time. -/
theorem rows_first (p : Nat) (w : World) (h : RulesAt w p false) :
    Calls Tryz.prog 40 #[.pointer (some ⟨p, 0, none⟩)] w fun e w' => e = .returned (.pointer (some ⟨p, 3, none⟩)) ∧ RulesAt w' p true ∧ Keep (· = p) w w' := by
  have HD := Lib.hid (do_rows_first p w h)
  clear h
  go_enter Tryz.func40, Tryz.ntmps40
  go_wp2_with fail
  refine HD.out.mono ?_
  rintro e w1 ⟨rfl, h1, k1, c1⟩
  have H1 := Lib.hid h1
  have K1 := Lib.hid k1
  clear h1 k1
  go_wp2_with fail
  go_ret
  exact ⟨rfl, H1.out, K1.out⟩

/-- rows, later. -/
theorem rows_again (p : Nat) (w : World) (h : RulesAt w p true) :
    Calls Tryz.prog 40 #[.pointer (some ⟨p, 0, none⟩)] w fun e w' => e = .returned (.pointer (some ⟨p, 3, none⟩)) ∧ Keep (fun _ => False) w w' := by
  have h0 := h.alloc (.cells #[.pointer (some ⟨p, 0, none⟩)] 55)
  have HD := Lib.hid (do_done p 0 (.func (.func 56) #[] #[.pointer (some ⟨w.heap.size, 0, none⟩)]) _ ⟨h0.o0.1, h0.o0.2, h0.o1.1, h0.o1.2⟩)
  clear h h0
  go_enter Tryz.func40, Tryz.ntmps40
  go_wp2_with fail
  refine HD.out.mono ?_
  rintro e w1 ⟨rfl, rfl⟩
  go_wp2_with fail
  go_ret
  exact ⟨rfl, (Keep.refl _ w).alloc _⟩

end Go.Proofs.YtnminmaklbhakaaGreatDoor
namespace Go.Proofs.YtnminmaklbhakaaGreatDoor
set_option linter.unusedVariables false
set_option linter.unusedSimpArgs false
open Go.RowKit

theorem wpList_store_at {P : Program} {ops : Array Oper} {rest : List Oper} {o : Oper} {a : Act} {w : World} {Q : Exit → Act → World → Prop} (hgd : o.guard = none) (ty : TypeId) (x y : Operand) (ho : o.op = .store ty x y)
    (b off : Nat) (cells : Array Value) (hx : a.eval x = .pointer (some ⟨b, off, none⟩)) (hy : a.eval y = .agg cells) (hi : (P.info? ty).map (·.size) = some cells.size) (h1 : cells.all (·.oneCell') = true)
    (hc : ∀ j, j < cells.size → (w.cell? ⟨b, off + j, none⟩).isSome = true) (hf : ∀ j, j < cells.size → w.frozen? ⟨b, off + j, none⟩ = false)
    (h : wpList P ops Q rest (a.put o.dst undef) (w.setCells b off cells.toList)) : wpList P ops Q (o :: rest) a w :=
  wpList_plain hgd fun _ hK => esc_store_at ty x y ho b off cells hx hy hi h1 hc hf (hK _ _ h)

def zbeg : Array Value := #[.int .i64 0, .string ⟨#[]⟩, .int .i64 0, .int .i64 0, .int .i64 0, .int .i64 0, .int .i64 0, .int .i64 0, .int .i64 0, .int .i64 0, .int .i64 0, .string ⟨#[]⟩]
theorem zbeg_info : (Tryz.prog.info? 65).map (·.size) = some zbeg.size := by kernel_rfl
theorem zbeg_one : zbeg.all (·.oneCell') = true := by simp [zbeg, Value.oneCell']
theorem BegC.at' {w : World} {p q : Nat} {b : BP} (h : BegC w p q b) (j : Nat) (hj : j < 12) : (w.cell? ⟨p, q + j, none⟩).isSome = true ∧ w.frozen? ⟨p, q + j, none⟩ = false := by
  have one : ∀ {i : Nat} {v : Value}, Cell w p i v → (w.cell? ⟨p, i, none⟩).isSome = true ∧ w.frozen? ⟨p, i, none⟩ = false := fun c => ⟨by rw [c.1]; rfl, c.2⟩
  by_cases h0 : j = 0
  · subst h0; exact one h.m
  by_cases h1 : j = 1
  · subst h1; exact one h.i
  by_cases h2 : j < 10
  · have := one (h.n.nn (j - 2) (by omega))
    rwa [show q + 2 + (j - 2) = q + j by omega] at this
  by_cases h3 : j = 10
  · subst h3; have := one h.n.cm; rwa [show q + 2 + 8 = q + 10 by omega] at this
  · have e : j = 11 := by omega
    subst e; exact one h.t
/-- What is begun goes. -/
theorem BegC.zero {w : World} {p q : Nat} {b : BP} (h : BegC w p q b) :
    (∀ j, j < zbeg.size → (w.cell? ⟨p, q + j, none⟩).isSome = true ∧ w.frozen? ⟨p, q + j, none⟩ = false) ∧ BegC (w.setCells p q zbeg.toList) p q .z ∧ SpanP p q (q + 12) w (w.setCells p q zbeg.toList) := by
  have hs : zbeg.toList.length = 12 := rfl
  have hz : zbeg.size = 12 := rfl
  have k : ∀ j v, zbeg.toList[j]? = some v → Cell (w.setCells p q zbeg.toList) p (q + j) v := fun j v hv => by
    have hj : j < 12 := by
      rcases Nat.lt_or_ge j 12 with e | e
      · exact e
      · rw [List.getElem?_eq_none (by omega)] at hv; cases hv
    refine ⟨?_, (World.frozen?_setCells _ _ _ _ _).trans (h.at' j hj).2⟩
    rw [World.cell?_setCells_in p zbeg.toList q w (fun i hi => (h.at' i (by omega)).1) j (by omega)]
    rw [List.getElem?_eq_getElem (by omega)] at hv
    exact hv
  refine ⟨fun j hj => h.at' j (by omega), ⟨k 0 _ rfl, k 1 _ rfl, ⟨fun i hi => ?_, ?_, rfl, by simp [BP.z]⟩, k 11 _ rfl⟩, keep_setCells (S := fun x => x = p) p (fun _ => rfl) _ _ _ (Keep.refl _ w), fun i hi => ⟨World.cell?_setCells_out _ _ _ _ _ (fun _ _ => by rw [hs]; simp; omega), World.frozen?_setCells _ _ _ _ _⟩⟩
  · have e : zbeg.toList[i + 2]? = some (.int .i64 0) := by
      rcases i with _ | _ | _ | _ | _ | _ | _ | _ | i <;> first | rfl | omega
    have := k (i + 2) _ e
    rwa [show q + (i + 2) = q + 2 + i by omega] at this
  · exact k 10 _ rfl

theorem flushE_ok {b : BP} (h : b.Ok) (d : Nat) : (flushE b d).1.Ok := by
  unfold flushE; split
  · exact h
  · exact ⟨h.s, h.few, h.nm, h.tx⟩
theorem badsU_le (s : St) : (badsU s).length ≤ 1 := by unfold badsU; split <;> simp

theorem EscC.alloc {w : World} {p o : Nat} {b : BP} (h : EscC w p o b) (x : Obj) : EscC (w.alloc x) p o b := h.below ((Below.refl _ w).alloc (Nat.le_refl _) x)

set_option maxRecDepth 100000 in
set_option maxHeartbeats 3200000 in
theorem take_print (p o B : Nat) (b : BP) (A : Option Addr) (n cc : Nat) (rs0 : List EAct) (nx c : Nat) (w : World) (h : EscC w p o b) (hA : ActsV w B A n cc rs0) (hpB : p < B) (hB : B ≤ w.heap.size) (hb : b.Ok) (hc : c < 256) (hn : b.came < 1000000000) (hnn : n ≤ 800000000) :
    Calls Tryz.prog 41 #[.pointer (some ⟨p, o, none⟩), .slice A n cc, .agg #[.int .u8 (nx : Int), .int .u8 1], .int .u8 (c : Int)] w (DoTo p o B A n rs0 (stepE b nx 1 c) w) := by
  have hd9 : 1 = 9 → 48 ≤ c ∧ c ≤ 57 := fun e => by omega
  have HL : Hid (n + (doE b 1 c).2.length = n + (stepE b nx 1 c).2.length) := Lib.hid (by simp [stepE, flushE])
  have HRS : Hid (rs0 ++ (doE b 1 c).2 = rs0 ++ (stepE b nx 1 c).2) := Lib.hid (by simp [stepE, flushE])
  have HST : Hid (toE (doE b 1 c).1 nx = (stepE b nx 1 c).1) := Lib.hid (by simp [stepE, flushE])
  have hpl := h.lt
  obtain ⟨g0, hg0⟩ : ∃ g0, g0 = w.heap.size := ⟨_, rfl⟩
  obtain ⟨w1, hw1⟩ : ∃ w1 : World, w1 = w.alloc (.cells #[.int .u8 (nx : Int), .int .u8 1] 117) := ⟨_, rfl⟩
  have H1 : Hid (EscC w1 p o b) := Lib.hid (by rw [hw1]; exact h.alloc _)
  have HA1 : Hid (ActsV w1 B A n cc rs0) := Lib.hid (by rw [hw1]; exact hA.alloc _)
  have P1 : Hid (PStep p o A w A w1) := Lib.hid (by rw [hw1]; exact PStep.of_below ((Below.refl _ w).alloc (Nat.le_refl _) _) hpl)
  have HB1 : Hid (B ≤ w1.heap.size) := Lib.hid (by rw [hw1]; simp; omega)
  have x0 : w1.cell? ⟨g0, 0, none⟩ = some (.int .u8 (nx : Int)) := by rw [hw1, hg0]; exact (Cell.box (t := 117) (cs := #[.int .u8 (nx : Int), .int .u8 1]) 0 rfl).1
  have x1 : w1.cell? ⟨g0, 1, none⟩ = some (.int .u8 1) := by rw [hw1, hg0]; exact (Cell.box (t := 117) (cs := #[.int .u8 (nx : Int), .int .u8 1]) 1 rfl).1
  have hg0l : g0 < w1.heap.size := by rw [hw1, hg0]; simp
  have hg0p : g0 ≠ p := by omega
  have HG1 : Hid (¬ blk A = some g0) := Lib.hid (fun e => by have := (hA.blk_ge e).2; omega)
  have HOK := Lib.hid hb
  have HCM := Lib.hid hn
  have HN1 : Hid (n ≤ 900000000) := Lib.hid (by omega)
  clear h hA hb hn hnn
  go_enter Tryz.func41, Tryz.ntmps41
  go_upto_region 1 with fail
  rw [← hw1, ← hg0]
  clear hw1 hg0
  go_wp2_with fail
  refine (esc_do p o B b A n cc rs0 1 c w1 H1.out HA1.out hpB HB1.out HOK.out hc HCM.out hd9 HN1.out).mono ?_
  rintro e w2 ⟨A2, c2, rfl, h2, g2, k2⟩
  have HA2 := Lib.hid h2
  have H2 := Lib.hid g2
  have K2 := Lib.hid k2
  have cs := g2.s.1
  have fs := g2.s.2
  have x2 : w2.cell? ⟨g0, 0, none⟩ = some (.int .u8 (nx : Int)) := (K2.out.keep.cell (p := ⟨g0, 0, none⟩) hg0l (fun e => e.elim (fun e => by simp at e; omega) (fun e => HG1.out e))).trans x0
  clear h2 g2 k2 x0
  obtain ⟨W3, hW3⟩ : ∃ W3 : World, W3 = w2.setCell ⟨p, o + 1, none⟩ (.int .u8 (nx : Int)) := ⟨_, rfl⟩
  have S3 : Hid (SpanP p (o + 1) (o + 2) w2 W3) := Lib.hid (by rw [hW3]; exact (SpanP.refl p (o + 1) (o + 2) w2).set (o + 1) (by omega) (by omega) _)
  have H3 : Hid (EscC W3 p o { (doE b 1 c).1 with s := nx }) := Lib.hid (by
    have k := S3.out
    refine ⟨?_, H2.out.u.span k (by omega), (H2.out.g.span k (by omega)).of_eq rfl rfl rfl rfl rfl⟩
    rw [hW3]; exact H2.out.s.set _)
  have HA3 : Hid (ActsV W3 B A2 (n + (doE b 1 c).2.length) c2 (rs0 ++ (doE b 1 c).2)) := Lib.hid (HA2.out.keep S3.out.keep (fun i hi e => by omega))
  have K3 : Hid (PStep p o A w A2 W3) := Lib.hid ((P1.out.trans K2.out).trans (PStep.of_span S3.out (by omega) (by omega)))
  have c1' : W3.cell? ⟨p, o + 1, none⟩ = some (.int .u8 (nx : Int)) := H3.out.s.1
  by_cases hx : nx = 0 ∨ nx = 1
  · have HTE : Hid (toE (doE b 1 c).1 nx = { (doE b 1 c).1 with s := nx }.clear) := Lib.hid (by unfold toE; rw [if_pos hx])
    have ht : ((nx : Int) == 0) = true ∨ (((nx : Int) == 0) = false ∧ ((nx : Int) == 1) = true) := by
      rcases hx with e | e
      · exact .inl (by simp; omega)
      · exact .inr ⟨by simp; omega, by simp; omega⟩
    have HZ := Lib.hid (H3.out.g.zero)
    clear hx
    rcases ht with t0 | ⟨t0, t1⟩
    all_goals
      go_upto_region 5 with fail
      rw [← hW3]
      clear hW3
      go_wp2_with (with_reducible refine wpList_store_at rfl 65 (.tmp 45) (.tmp 43) rfl p (o + 7) zbeg rfl rfl zbeg_info zbeg_one (fun j hj => (HZ.out.1 j hj).1) (fun j hj => (HZ.out.1 j hj).2) ?_)
      go_ret
      have hf := HZ.out.2
      refine ⟨A2, c2, by rw [← HL.out]; rfl, by rw [← HRS.out, ← HL.out]; exact HA3.out.keep hf.2.keep (fun i hi e => by omega), ?_, K3.out.trans (PStep.of_span hf.2 (by omega) (by omega))⟩
      rw [← HST.out, HTE.out]
      exact ⟨hf.2.cell H3.out.s (by omega), H3.out.u.span hf.2 (by omega), hf.1.of_eq rfl rfl rfl rfl rfl⟩
  · have HTE : Hid (toE (doE b 1 c).1 nx = { (doE b 1 c).1 with s := nx }) := Lib.hid (by unfold toE; rw [if_neg hx])
    have t0 : ((nx : Int) == 0) = false := by simp; omega
    have t1 : ((nx : Int) == 1) = false := by simp; omega
    clear hx
    go_upto_region 5 with fail
    rw [← hW3]
    clear hW3
    go_wp2_with fail
    go_ret
    refine ⟨A2, c2, by rw [← HL.out]; rfl, by rw [← HRS.out, ← HL.out]; exact HA3.out, ?_, K3.out⟩
    rw [← HST.out, HTE.out]
    exact H3.out

set_option maxRecDepth 100000 in
set_option maxHeartbeats 3200000 in
theorem take_other (p o B : Nat) (b : BP) (A : Option Addr) (n cc : Nat) (rs0 : List EAct) (nx d c : Nat) (w : World) (h : EscC w p o b) (hA : ActsV w B A n cc rs0) (hpB : p < B) (hB : B ≤ w.heap.size) (hb : b.Ok) (hc : c < 256) (hn : b.came < 1000000000) (hd9 : d = 9 → 48 ≤ c ∧ c ≤ 57) (hnn : n ≤ 800000000) (hd1 : d ≠ 1) :
    Calls Tryz.prog 41 #[.pointer (some ⟨p, o, none⟩), .slice A n cc, .agg #[.int .u8 (nx : Int), .int .u8 (d : Int)], .int .u8 (c : Int)] w (DoTo p o B A n rs0 (stepE b nx d c) w) := by
  have hfl : flushE b d = ({ b with u := .z }, (badsU b.u).map ePrint) := by unfold flushE; rw [if_neg hd1]
  have HL : Hid (n + (badsU b.u).length + (doE { b with u := .z } d c).2.length = n + (stepE b nx d c).2.length) := Lib.hid (by simp [stepE, hfl]; omega)
  have HRS : Hid (rs0 ++ (badsU b.u).map ePrint ++ (doE { b with u := .z } d c).2 = rs0 ++ (stepE b nx d c).2) := Lib.hid (by simp [stepE, hfl])
  have HST : Hid (toE (doE { b with u := .z } d c).1 nx = (stepE b nx d c).1) := Lib.hid (by simp [stepE, hfl])
  have hpl := h.lt
  obtain ⟨g0, hg0⟩ : ∃ g0, g0 = w.heap.size := ⟨_, rfl⟩
  obtain ⟨w0, hw0⟩ : ∃ w0 : World, w0 = w.alloc (.cells #[.int .u8 (nx : Int), .int .u8 (d : Int)] 117) := ⟨_, rfl⟩
  have H0 : Hid (EscC w0 p o b) := Lib.hid (by rw [hw0]; exact h.alloc _)
  have HA0 : Hid (ActsV w0 B A n cc rs0) := Lib.hid (by rw [hw0]; exact hA.alloc _)
  have P0 : Hid (PStep p o A w A w0) := Lib.hid (by rw [hw0]; exact PStep.of_below ((Below.refl _ w).alloc (Nat.le_refl _) _) hpl)
  have HB0 : Hid (B ≤ w0.heap.size) := Lib.hid (by rw [hw0]; simp; omega)
  have y0 : w0.cell? ⟨g0, 0, none⟩ = some (.int .u8 (nx : Int)) := by rw [hw0, hg0]; exact (Cell.box (t := 117) (cs := #[.int .u8 (nx : Int), .int .u8 (d : Int)]) 0 rfl).1
  have y1 : w0.cell? ⟨g0, 1, none⟩ = some (.int .u8 (d : Int)) := by rw [hw0, hg0]; exact (Cell.box (t := 117) (cs := #[.int .u8 (nx : Int), .int .u8 (d : Int)]) 1 rfl).1
  have hg00 : g0 < w0.heap.size := by rw [hw0, hg0]; simp
  have hg0p : g0 ≠ p := by omega
  have HG0 : Hid (¬ blk A = some g0) := Lib.hid (fun e => by have := (hA.blk_ge e).2; omega)
  have HOK : Hid (BP.Ok { b with u := .z }) := Lib.hid ⟨hb.s, hb.few, hb.nm, hb.tx⟩
  have HCM : Hid (({ b with u := St.z } : BP).came < 1000000000) := Lib.hid hn
  have hbl := badsU_le b.u
  have HN1 : Hid (n + (badsU b.u).length ≤ 900000000) := Lib.hid (by omega)
  have td : ((d : Int) != 1) = true := by simp; omega
  have td2 : ((d : Int) == 1) = false := by simp; omega
  clear h hA hb hn hfl hd1
  go_enter Tryz.func41, Tryz.ntmps41
  go_upto_region 1 with fail
  rw [← hw0, ← hg0]
  clear hw0 hg0
  go_wp2_with fail
  refine (utf_flush p (o + 2) b.u w0 H0.out.u).mono ?_
  rintro e wf ⟨v, rfl, ho, hu, hk⟩
  have KF1 := Lib.hid hk
  have UF := Lib.hid hu
  have OF := Lib.hid ho
  have z0 : wf.cell? ⟨g0, 0, none⟩ = some (.int .u8 (nx : Int)) := (hk.k.cell (p := ⟨g0, 0, none⟩) hg00 hg0p).trans y0
  have z1 : wf.cell? ⟨g0, 1, none⟩ = some (.int .u8 (d : Int)) := (hk.k.cell (p := ⟨g0, 1, none⟩) hg00 hg0p).trans y1
  have hsf := hk.size
  clear ho hu hk y0 y1
  go_wp2_with fail
  refine (esc_prints B A n cc rs0 v _ (badsU b.u) wf (HA0.out.keep KF1.out.k (fun i hi e => by omega)) (Nat.le_trans HB0.out hsf) _ OF.out (by have := HN1.out; first | omega | (simp only; omega))).mono ?_
  rintro e w1 ⟨A1, c1, rfl, h1, k1, a1⟩
  have HAF := Lib.hid (HA0.out.keep KF1.out.k (fun i hi e => by omega))
  have HA1 : Hid (ActsV w1 B A1 (n + (badsU b.u).length) c1 (rs0 ++ (badsU b.u).map ePrint)) := Lib.hid h1
  have H1 : Hid (EscC w1 p o { b with u := .z }) := Lib.hid ((H0.out.kf KF1.out UF.out).keep k1 (fun e => by have := (HA0.out.blk_ge e).1; omega))
  have P1 : Hid (PStep p o A w A1 w1) := Lib.hid ((P0.out.trans (PStep.of_kf KF1.out H0.out.lt)).trans (PStep.of_acts k1 a1 (Nat.lt_of_lt_of_le H0.out.lt hsf) (fun e => by have := (HA0.out.blk_ge e).1; omega)))
  have HB1 : Hid (B ≤ w1.heap.size) := Lib.hid (Nat.le_trans (Nat.le_trans HB0.out hsf) k1.size)
  have x0 : w1.cell? ⟨g0, 0, none⟩ = some (.int .u8 (nx : Int)) := (k1.cell (p := ⟨g0, 0, none⟩) (Nat.lt_of_lt_of_le hg00 hsf) HG0.out).trans z0
  have x1 : w1.cell? ⟨g0, 1, none⟩ = some (.int .u8 (d : Int)) := (k1.cell (p := ⟨g0, 1, none⟩) (Nat.lt_of_lt_of_le hg00 hsf) HG0.out).trans z1
  have hg0l : g0 < w1.heap.size := Nat.lt_of_lt_of_le (Nat.lt_of_lt_of_le hg00 hsf) k1.size
  have HG1 : Hid (¬ blk A1 = some g0) := Lib.hid (fun e => (a1 g0 e).elim HG0.out (fun x => by omega))
  clear h1 k1 a1 z0 z1
  go_wp2_with fail
  refine (esc_do p o B { b with u := .z } A1 (n + (badsU b.u).length) c1 (rs0 ++ (badsU b.u).map ePrint) d c w1 H1.out HA1.out hpB HB1.out HOK.out hc HCM.out hd9 HN1.out).mono ?_
  rintro e w2 ⟨A2, c2, rfl, h2, g2, k2⟩
  have HA2 := Lib.hid h2
  have H2 := Lib.hid g2
  have K2 := Lib.hid k2
  have cs := g2.s.1
  have fs := g2.s.2
  have x2 : w2.cell? ⟨g0, 0, none⟩ = some (.int .u8 (nx : Int)) := (K2.out.keep.cell (p := ⟨g0, 0, none⟩) hg0l (fun e => e.elim (fun e => by simp at e; omega) (fun e => HG1.out e))).trans x0
  clear h2 g2 k2 x0
  obtain ⟨W3, hW3⟩ : ∃ W3 : World, W3 = w2.setCell ⟨p, o + 1, none⟩ (.int .u8 (nx : Int)) := ⟨_, rfl⟩
  have S3 : Hid (SpanP p (o + 1) (o + 2) w2 W3) := Lib.hid (by rw [hW3]; exact (SpanP.refl p (o + 1) (o + 2) w2).set (o + 1) (by omega) (by omega) _)
  have H3 : Hid (EscC W3 p o { (doE { b with u := .z } d c).1 with s := nx }) := Lib.hid (by
    have k := S3.out
    refine ⟨?_, H2.out.u.span k (by omega), (H2.out.g.span k (by omega)).of_eq rfl rfl rfl rfl rfl⟩
    rw [hW3]; exact H2.out.s.set _)
  have HA3 : Hid (ActsV W3 B A2 ((n + (badsU b.u).length) + (doE { b with u := .z } d c).2.length) c2 ((rs0 ++ (badsU b.u).map ePrint) ++ (doE { b with u := .z } d c).2)) := Lib.hid (HA2.out.keep S3.out.keep (fun i hi e => by omega))
  have K3 : Hid (PStep p o A w A2 W3) := Lib.hid ((P1.out.trans K2.out).trans (PStep.of_span S3.out (by omega) (by omega)))
  have c1' : W3.cell? ⟨p, o + 1, none⟩ = some (.int .u8 (nx : Int)) := H3.out.s.1
  by_cases hx : nx = 0 ∨ nx = 1
  · have HTE : Hid (toE (doE { b with u := .z } d c).1 nx = { (doE { b with u := .z } d c).1 with s := nx }.clear) := Lib.hid (by unfold toE; rw [if_pos hx])
    have ht : ((nx : Int) == 0) = true ∨ (((nx : Int) == 0) = false ∧ ((nx : Int) == 1) = true) := by
      rcases hx with e | e
      · exact .inl (by simp; omega)
      · exact .inr ⟨by simp; omega, by simp; omega⟩
    have HZ := Lib.hid (H3.out.g.zero)
    clear hx
    rcases ht with t0 | ⟨t0, t1⟩
    all_goals
      go_upto_region 5 with fail
      rw [← hW3]
      clear hW3
      go_wp2_with (with_reducible refine wpList_store_at rfl 65 (.tmp 45) (.tmp 43) rfl p (o + 7) zbeg rfl rfl zbeg_info zbeg_one (fun j hj => (HZ.out.1 j hj).1) (fun j hj => (HZ.out.1 j hj).2) ?_)
      go_ret
      have hf := HZ.out.2
      refine ⟨A2, c2, by rw [← HL.out]; rfl, by rw [← HRS.out, ← HL.out]; exact HA3.out.keep hf.2.keep (fun i hi e => by omega), ?_, K3.out.trans (PStep.of_span hf.2 (by omega) (by omega))⟩
      rw [← HST.out, HTE.out]
      exact ⟨hf.2.cell H3.out.s (by omega), H3.out.u.span hf.2 (by omega), hf.1.of_eq rfl rfl rfl rfl rfl⟩
  · have HTE : Hid (toE (doE { b with u := .z } d c).1 nx = { (doE { b with u := .z } d c).1 with s := nx }) := Lib.hid (by unfold toE; rw [if_neg hx])
    have t0 : ((nx : Int) == 0) = false := by simp; omega
    have t1 : ((nx : Int) == 1) = false := by simp; omega
    clear hx
    go_upto_region 5 with fail
    rw [← hW3]
    clear hW3
    go_wp2_with fail
    go_ret
    refine ⟨A2, c2, by rw [← HL.out]; rfl, by rw [← HRS.out, ← HL.out]; exact HA3.out, ?_, K3.out⟩
    rw [← HST.out, HTE.out]
    exact H3.out

/-- take. -/
theorem esc_take (p o B : Nat) (b : BP) (A : Option Addr) (n cc : Nat) (rs0 : List EAct) (nx d c : Nat) (w : World) (h : EscC w p o b) (hA : ActsV w B A n cc rs0) (hpB : p < B) (hB : B ≤ w.heap.size) (hb : b.Ok) (hc : c < 256) (hn : b.came < 1000000000) (hd9 : d = 9 → 48 ≤ c ∧ c ≤ 57) (hnn : n ≤ 800000000) :
    Calls Tryz.prog 41 #[.pointer (some ⟨p, o, none⟩), .slice A n cc, .agg #[.int .u8 (nx : Int), .int .u8 (d : Int)], .int .u8 (c : Int)] w (DoTo p o B A n rs0 (stepE b nx d c) w) := by
  by_cases hd1 : d = 1
  · subst hd1; exact take_print p o B b A n cc rs0 nx c w h hA hpB hB hb hc hn hnn
  · exact take_other p o B b A n cc rs0 nx d c w h hA hpB hB hb hc hn hd9 hnn hd1

end Go.Proofs.YtnminmaklbhakaaGreatDoor
namespace Go.Proofs.YtnminmaklbhakaaGreatDoor
set_option linter.unusedVariables false
set_option linter.unusedSimpArgs false
open Go.RowKit

/-- A Parser at p, o. -/
structure EscAt (w : World) (p o : Nat) (b : BP) : Prop where
  c : EscC w p o b
  r : Cell w p o (.pointer none) ∨ ∃ R, Cell w p o (.pointer (some ⟨R, 0, none⟩)) ∧ RulesAt w R true ∧ R ≠ p
  al : ∃ q, AlikeE b q
/-- What a call turns of block p: the cells of the Parser alone. -/
structure KE (p o : Nat) (w w' : World) : Prop where
  keep : Keep (· = p) w w'
  out : ∀ i, i < o ∨ o + 19 ≤ i → w'.cell? ⟨p, i, none⟩ = w.cell? ⟨p, i, none⟩ ∧ w'.frozen? ⟨p, i, none⟩ = w.frozen? ⟨p, i, none⟩
namespace EscAt
variable {w w' : World} {p o : Nat} {b : BP}
theorem lt (h : EscAt w p o b) : p < w.heap.size := h.c.lt
theorem keep {S : Nat → Prop} (h : EscAt w p o b) (k : Keep S w w') (hp : ¬ S p) (hS : ∀ i, S i → ∀ R, w.cell? ⟨p, o, none⟩ = some (.pointer (some ⟨R, 0, none⟩)) → i ≠ R) : EscAt w' p o b :=
  ⟨h.c.keep k hp, h.r.imp (fun c => c.keep k hp) (fun ⟨R, c, r, n⟩ => ⟨R, c.keep k hp, r.keep k (fun e => hS R e R c.1 rfl), n⟩), h.al⟩
theorem below (h : EscAt w p o b) (k : Below w.heap.size w w') : EscAt w' p o b := h.keep (Keep.of_below (fun _ => False) k) (fun x => x) (fun _ x => x.elim)
theorem alloc (h : EscAt w p o b) (x : Obj) : EscAt (w.alloc x) p o b := h.below ((Below.refl _ w).alloc (Nat.le_refl _) x)
end EscAt

def feedsE (b : BP) (ts : List ByteArray) : BP × List EAct := feedE b ((joinL ts).map (·.toNat))

theorem len_doE (b : BP) (hu : b.u.Ok) (d c : Nat) : (doE b d c).2.length ≤ 2 ∧ (doE b d c).1.came ≤ b.came + 2 := by
  have hl := byteU_len hu c
  have hs := b.u.some_le
  unfold doE
  repeat' split
  all_goals try (refine ⟨?_, ?_⟩ <;> (simp; done))
  · exact ⟨by simp only [List.length_map]; omega, by simp⟩
  · refine ⟨by simp, ?_⟩
    unfold keepE
    repeat' split
    all_goals try (simp only; omega)
    · have := beginN_le b.nums b.came
      simp only [digitN]; omega
    · have := beginN_le b.nums b.came
      simp only [nextN, addN]; omega
theorem len_byteE (b : BP) (hu : b.u.Ok) (c : Nat) : (byteE b c).2.length ≤ 3 ∧ (byteE b c).1.came ≤ b.came + 2 ∧ (byteE b c).1.u.Ok := by
  have hf : (flushE b (deedE b.s (kindL c))).2.length ≤ 1 ∧ (flushE b (deedE b.s (kindL c))).1.came = b.came ∧ (flushE b (deedE b.s (kindL c))).1.u.Ok := by
    unfold flushE
    split
    · exact ⟨by simp, rfl, hu⟩
    · exact ⟨by simp only [List.length_map]; exact badsU_le _, rfl, .z⟩
  obtain ⟨h1, h2, h3⟩ := hf
  have h4 := len_doE _ h3 (deedE b.s (kindL c)) c
  have h5 : (doE (flushE b (deedE b.s (kindL c))).1 (deedE b.s (kindL c)) c).1.u.Ok := by
    unfold doE
    repeat' split
    all_goals try exact h3
    · exact h3.byte c
    · unfold keepE
      repeat' split
      all_goals exact h3
  unfold byteE stepE
  refine ⟨by simp only [List.length_append]; omega, ?_, ?_⟩
  · unfold toE BP.clear
    split
    · simp only; omega
    · simp only; omega
  · unfold toE BP.clear
    split
    · exact h5
    · exact h5
theorem len_feedE (l : List Nat) : ∀ (b : BP), b.u.Ok → (feedE b l).2.length ≤ 3 * l.length ∧ (feedE b l).1.came ≤ b.came + 2 * l.length ∧ (feedE b l).1.u.Ok := by
  induction l with
  | nil => intro b h; exact ⟨by simp [feedE], by simp [feedE], h⟩
  | cons c r ih =>
    intro b h
    obtain ⟨h1, h2, h3⟩ := len_byteE b h c
    obtain ⟨h4, h5, h6⟩ := ih _ h3
    simp only [feedE, List.length_append, List.length_cons]
    exact ⟨by omega, by omega, h6⟩
theorem kindL_le (c : Nat) : kindL c ≤ 14 := by
  unfold kindL
  repeat' split
  all_goals omega
theorem deed9_tab : ∀ s, s < 12 → ∀ k, k < 15 → deedE s k = 9 → k = 5 := by decide +kernel
theorem deed9 (s c : Nat) (hs : s ≤ 11) (h : deedE s (kindL c) = 9) : 48 ≤ c ∧ c ≤ 57 := by
  have hk := deed9_tab s (by omega) (kindL c) (by have := kindL_le c; omega) h
  unfold kindL at hk
  repeat' split at hk
  all_goals omega

/-- Feed has read these bytes; w1 behind the table's making. -/
def FedE (p o B R : Nat) (b : BP) (w1 : World) (v : Value) (l : List Nat) (w' : World) : Prop :=
  ∃ A n c, v = .slice A n c ∧ n = (feedE b l).2.length ∧ ActsV w' B A n c (feedE b l).2 ∧ EscC w' p o (feedE b l).1 ∧ PStep p o none w1 A w'

set_option maxRecDepth 100000 in
set_option maxHeartbeats 3200000 in
/-- Feed, where the rules are made. -/
theorem esc_feed_made (p o R : Nat) (b : BP) (q : PL) (hal : AlikeE b q) (A : Option Addr) (n c : Nat) (ts : List ByteArray) (w : World) (h : EscC w p o b) (hr : Cell w p o (.pointer (some ⟨R, 0, none⟩))) (hR : RulesAt w R true) (hRp : R ≠ p)
    (hs : Src w A n (ts.map Value.string)) (hA : 0 < n → blk A ≠ some p) (hn : n ≤ 100000000) (hsum : sum ts ≤ 100000000) (hcm : b.came ≤ 100000000) :
    Calls Tryz.prog 27 #[.pointer (some ⟨p, o, none⟩), .slice A n c] w fun e w' => ∃ B v w1, w.heap.size ≤ B ∧ e = .returned v ∧ Keep (fun _ => False) w w1 ∧ FedE p o B R b w1 v (preU ts n 0) w' := by
  have hl := Lib.hid (show ts.length = n from by have := hs.1; rwa [List.length_map] at this)
  have cr := hr.1
  have H := Lib.hid h
  have HRR := Lib.hid hR
  have HS := Lib.hid hs
  have HA := Lib.hid hA
  have HSUM := Lib.hid hsum
  have HAL := Lib.hid hal
  have HCM := Lib.hid hcm
  have hpl := h.lt
  have hRl := hR.lt
  have HCR := Lib.hid hr
  have HU := Lib.hid h.u.ok
  clear h hr hR hs hA hsum hal hcm
  go_enter Tryz.func27, Tryz.ntmps27
  go_wp2_with fail
  refine (rows_again R w HRR.out).mono ?_
  rintro e w1 ⟨rfl, k1⟩
  have K1 := Lib.hid k1
  obtain ⟨B, hB⟩ : ∃ B, B = w1.heap.size := ⟨_, rfl⟩
  have HBW : Hid (B = w1.heap.size) := hB
  have hwB : w.heap.size ≤ B := by rw [hB]; exact k1.size
  have H1 := Lib.hid (H.out.keep k1 (fun x => x))
  have R1 := Lib.hid (HRR.out.keep k1 (fun x => x))
  have S1 := Lib.hid (HS.out.keep k1)
  have F0 : Hid (FedE p o B R b w1 (.slice none 0 0) (preU ts 0 0) w1) := by
    show FedE _ _ _ _ _ _ _ _ _
    rw [preU_zero]
    exact ⟨none, 0, 0, rfl, rfl, ActsV.nil _ _, H1.out, PStep.refl _ _ _ _⟩
  have HLEN : Hid (∀ l : List Nat, l.length ≤ 100000000 → (feedE b l).2.length ≤ 300000000 ∧ (feedE b l).1.came < 1000000000 ∧ (feedE b l).1.Ok) := Lib.hid (fun l hl => by
    have h1 := len_feedE l b HU.out
    have h2 := HCM.out
    exact ⟨by omega, by omega, (feed_alikeE l HAL.out).1.ok⟩)
  clear k1 hB cr
  go_wp2_with fail
  go_loopw [6, 29] (fun v i wr => ∃ k : Nat, i = .int .i64 k ∧ k ≤ n ∧ Hid (FedE p o B R b w1 v (preU ts k 0) wr)) (fun _ i _ => n - (intOf i).toNat)
  case atStart => exact ⟨0, rfl, by omega, F0⟩
  case round =>
    obtain ⟨k, rfl, hk, HF⟩ := hrel
    obtain ⟨wo, rfl⟩ : ∃ wo : World, wo = wr := ⟨_, rfl⟩
    by_cases hlt : k < n
    · obtain ⟨x, hx⟩ : ∃ x, ts[k]? = some x := ⟨ts[k]'(by rw [hl.out]; exact hlt), List.getElem?_eq_getElem _⟩
      have hsrc : Src wo A n (ts.map Value.string) := by
        obtain ⟨_, _, _, _, _, _, _, hps⟩ := HF.out
        exact S1.out.of_keep hps.keep (fun i hi e => e.elim (fun e => HA.out (by omega) (by rw [hi, e])) (fun e => by simp [blk] at e))
      obtain ⟨bb, off, rfl, hbl, hcs⟩ := hsrc.2 (by omega)
      have hcx : wo.cell? ⟨bb, off + k, none⟩ = some (.string x) := hcs k _ (by rw [List.getElem?_map, hx]; rfl)
      have hxs : x.size ≤ 100000000 := by
        have h1 := sum_mem (List.mem_of_getElem? hx)
        have := HSUM.out
        omega
      have hki : ((k : Int) < (n : Int)) := by omega
      have hk0 : (0 : Int) ≤ (k : Int) := by omega
      have HX := Lib.hid hx
      clear hcs hx hsrc
      go_wp2_with fail
      go_loopw [6, 35] (fun v i wr => ∃ j : Nat, i = .int .i64 j ∧ j ≤ x.size ∧ Hid (FedE p o B R b w1 v (preU ts k j) wr)) (fun _ i _ => x.size - (intOf i).toNat)
      case atStart => exact ⟨0, rfl, by omega, HF⟩
      case round =>
        obtain ⟨j, rfl, hj, HF2⟩ := hrel
        by_cases hlj : j < x.size
        · have hpre : (preU ts k j).length ≤ 100000000 := by
            have h2 := preU_len ts k j (by rw [List.getD_eq_getElem?_getD, HX.out, Option.getD_some]; omega)
            have h3 := HSUM.out
            omega
          have hcc := HLEN.out _ hpre
          have hb256 : x[j].toNat < 256 := x[j].toNat_lt
          have HN := Lib.hid (preU_next HX.out hlj)
          obtain ⟨ch, hch⟩ : ∃ ch : Nat, x[j].toNat = ch := ⟨_, rfl⟩
          rw [hch] at hb256 HN
          have hix : ∀ W : World, (Instr.index 9 (.string x) (.int .i64 (j : Int))).run Tryz.prog W = .ok (.int .u8 (ch : Int)) W := fun W => by
            rw [run_index_string W 9 x .i64 (j : Int) Tryz.underlying9]
            simp [hlj, hch]
          obtain ⟨A1, n1, c1, rfl, hn1, ha1, he1, hp1⟩ := HF2.out
          generalize hst : feedE b (preU ts k j) = st at hcc hn1 ha1 he1
          obtain ⟨b1, rs1⟩ := st
          have HST := Lib.hid hst
          have HA1 := Lib.hid ha1
          have HE1 := Lib.hid he1
          have HP1 := Lib.hid hp1
          have HC1 := Lib.hid hcc
          have hs12 : b1.s ≤ 11 := hcc.2.2.s
          have hn1' : n1 ≤ 300000000 := by rw [hn1]; exact hcc.1
          have HN1 := Lib.hid hn1
          have hkl := kindL_le ch
          obtain ⟨kd, hkd⟩ : ∃ kd, kindL ch = kd := ⟨_, rfl⟩
          rw [hkd] at hkl
          have HKD := Lib.hid (fun W => hkd ▸ esc_kindOf ch W)
          have HD9 : Hid (deedE b1.s kd = 9 → 48 ≤ ch ∧ ch ≤ 57) := Lib.hid (fun e => deed9 b1.s ch hs12 (by rw [hkd]; exact e))
          have HBE : Hid (byteE b1 ch = stepE b1 (nextE b1.s kd) (deedE b1.s kd) ch) := Lib.hid (by unfold byteE; rw [hkd])
          have hRr : RulesAt wr R true := R1.out.keep hp1.keep (fun e => e.elim (fun e => hRp e) (fun e => by simp [blk] at e))
          obtain ⟨ss, hss⟩ : ∃ ss, b1.s = ss := ⟨_, rfl⟩
          obtain ⟨nx, hnx⟩ : ∃ nx, nextE ss kd = nx := ⟨_, rfl⟩
          obtain ⟨dd, hdd⟩ : ∃ dd, deedE ss kd = dd := ⟨_, rfl⟩
          rw [hss] at hs12 HD9 HBE
          rw [hdd] at HD9
          rw [hnx, hdd] at HBE
          have r0 : wr.cell? ⟨R, 3 + ss * 30 + kd * 2, none⟩ = some (.int .u8 (nx : Int)) := by
            rw [← hnx, Nat.add_assoc]; exact hRr.at' (by omega)
          have r1 : wr.cell? ⟨R, 3 + ss * 30 + kd * 2 + 1, none⟩ = some (.int .u8 (dd : Int)) := by
            rw [← hdd, show 3 + ss * 30 + kd * 2 + 1 = 3 + (ss * 30 + kd * 2 + 1) by omega]; exact hRr.at' (by omega)
          have HR0 : Hid (∀ W : World, RulesAt W R true → W.cell? ⟨R, 3 + ss * 30 + kd * 2, none⟩ = some (.int .u8 (nx : Int))) := Lib.hid (fun W h => by rw [← hnx, Nat.add_assoc]; exact h.at' (by omega))
          have HR1 : Hid (∀ W : World, RulesAt W R true → W.cell? ⟨R, 3 + ss * 30 + kd * 2 + 1, none⟩ = some (.int .u8 (dd : Int))) := Lib.hid (fun W h => by rw [← hdd, show 3 + ss * 30 + kd * 2 + 1 = 3 + (ss * 30 + kd * 2 + 1) by omega]; exact h.at' (by omega))
          have e1 : wr.cell? ⟨p, o + 1, none⟩ = some (.int .u8 (ss : Int)) := by rw [← hss]; exact he1.s.1
          have hs0 : (0 : Int) ≤ (ss : Int) := by omega
          have hs1 : (ss : Int) < 12 := by omega
          have hk00 : (0 : Int) ≤ (kd : Int) := by omega
          have hk15 : (kd : Int) < 15 := by omega
          have hj0 : (0 : Int) ≤ (j : Int) := by omega
          have hjx : (j : Int) < (x.size : Int) := by omega
          have hpB : p < B := by omega
          have hBr : B ≤ wr.heap.size := by rw [HBW.out]; exact hp1.keep.size
          clear hst hkd hss hnx hdd hn1 ha1 he1 hp1 hcc hRr hpre hch HF2
          go_wp2_with fail
          refine wp_region_noPanic ?_
          refine wp_region_held_drew (S := fun w' => w'.cell? ⟨R, 3 + ss * 30 + kd * 2, none⟩ = some (.int .u8 (nx : Int)) ∧ w'.cell? ⟨R, 3 + ss * 30 + kd * 2 + 1, none⟩ = some (.int .u8 (dd : Int))) (by kernel_rfl) ⟨r0, r1⟩ (fun hHeld => ?_)
          refine wpAnyH_take (i := 0) (oi := _) (v := ?vz0_1) rfl (by kernel_rfl) (by kernel_rfl) (by kernel_rfl) (fun _ _ _ h => h) (Or.inl ⟨by rfl, ?hyz0_1⟩) (by assumption) ?restz0_1
          case hyz0_1 => (intro w hSw; (try dsimp only at hSw); (try simp only [List.getElem_toArray, List.getElem_cons_zero, List.getElem_cons_succ]); go_simp; (try with_reducible rfl))
          (try simp only [Act.put, List.setIfInBounds_toArray, List.set_cons_zero, List.set_cons_succ, List.getElem_toArray, List.getElem_cons_zero, List.getElem_cons_succ])
          refine wpAnyH_take (i := 1) (oi := _) (v := ?vz1_2) rfl (by kernel_rfl) (by kernel_rfl) (by kernel_rfl) (fun _ _ _ h => h) (Or.inl ⟨by rfl, ?hyz1_2⟩) (by assumption) ?restz1_2
          case hyz1_2 => (intro w hSw; (try dsimp only at hSw); (try simp only [List.getElem_toArray, List.getElem_cons_zero, List.getElem_cons_succ]); go_simp; (try with_reducible rfl))
          (try simp only [Act.put, List.setIfInBounds_toArray, List.set_cons_zero, List.set_cons_succ, List.getElem_toArray, List.getElem_cons_zero, List.getElem_cons_succ])
          refine wpAnyH_take (i := 2) (oi := _) (v := ?vz2_3) rfl (by kernel_rfl) (by kernel_rfl) (by kernel_rfl) (fun _ _ _ h => h) (Or.inl ⟨by rfl, ?hyz2_3⟩) (by assumption) ?restz2_3
          case hyz2_3 => (intro w hSw; (try dsimp only at hSw); (try simp only [List.getElem_toArray, List.getElem_cons_zero, List.getElem_cons_succ]); go_simp; (try with_reducible rfl))
          (try simp only [Act.put, List.setIfInBounds_toArray, List.set_cons_zero, List.set_cons_succ, List.getElem_toArray, List.getElem_cons_zero, List.getElem_cons_succ])
          refine wpAnyH_take (i := 3) (oi := _) (v := ?vz3_4) rfl (by kernel_rfl) (by kernel_rfl) (by kernel_rfl) (fun _ _ _ h => h) (Or.inl ⟨by rfl, ?hyz3_4⟩) (by assumption) ?restz3_4
          case hyz3_4 => (intro w hSw; (try dsimp only at hSw); (try simp only [List.getElem_toArray, List.getElem_cons_zero, List.getElem_cons_succ]); go_simp; (try with_reducible rfl))
          (try simp only [Act.put, List.setIfInBounds_toArray, List.set_cons_zero, List.set_cons_succ, List.getElem_toArray, List.getElem_cons_zero, List.getElem_cons_succ])
          refine wpAnyH_take (i := 7) (oi := _) (v := ?vz7_5) rfl (by kernel_rfl) (by kernel_rfl) (by kernel_rfl) (fun _ _ _ h => h) (Or.inl ⟨by rfl, ?hyz7_5⟩) (by assumption) ?restz7_5
          case hyz7_5 => (intro w hSw; (try dsimp only at hSw); (try simp only [List.getElem_toArray, List.getElem_cons_zero, List.getElem_cons_succ]); go_simp; (try with_reducible rfl))
          (try simp only [Act.put, List.setIfInBounds_toArray, List.set_cons_zero, List.set_cons_succ, List.getElem_toArray, List.getElem_cons_zero, List.getElem_cons_succ])
          refine wpAnyH_take (i := 8) (oi := _) (v := ?vz8_6) rfl (by kernel_rfl) (by kernel_rfl) (by kernel_rfl) (fun _ _ _ h => h) (Or.inl ⟨by rfl, ?hyz8_6⟩) (by assumption) ?restz8_6
          case hyz8_6 => (intro w hSw; (try dsimp only at hSw); (try simp only [List.getElem_toArray, List.getElem_cons_zero, List.getElem_cons_succ]); go_simp; (try with_reducible rfl))
          (try simp only [Act.put, List.setIfInBounds_toArray, List.set_cons_zero, List.set_cons_succ, List.getElem_toArray, List.getElem_cons_zero, List.getElem_cons_succ])
          refine wpAnyH_take (i := 15) (oi := _) (v := ?vz15_7) rfl (by kernel_rfl) (by kernel_rfl) (by kernel_rfl) (fun _ _ _ h => h) (Or.inl ⟨by rfl, ?hyz15_7⟩) (by assumption) ?restz15_7
          case hyz15_7 => (intro w hSw; (try dsimp only at hSw); (try simp only [List.getElem_toArray, List.getElem_cons_zero, List.getElem_cons_succ]); go_simp; (try with_reducible rfl))
          (try simp only [Act.put, List.setIfInBounds_toArray, List.set_cons_zero, List.set_cons_succ, List.getElem_toArray, List.getElem_cons_zero, List.getElem_cons_succ])
          refine wpAnyH_take (i := 16) (oi := _) (v := ?vz16_8) rfl (by kernel_rfl) (by kernel_rfl) (by kernel_rfl) (fun _ _ _ h => h) (Or.inl ⟨by rfl, ?hyz16_8⟩) (by assumption) ?restz16_8
          case hyz16_8 => (intro w hSw; (try dsimp only at hSw); (try simp only [List.getElem_toArray, List.getElem_cons_zero, List.getElem_cons_succ]); go_simp; (try with_reducible rfl))
          (try simp only [Act.put, List.setIfInBounds_toArray, List.set_cons_zero, List.set_cons_succ, List.getElem_toArray, List.getElem_cons_zero, List.getElem_cons_succ])
          refine wpAnyH_take (i := 4) (oi := _) (v := ?vz4_9) rfl (by kernel_rfl) (by kernel_rfl) (by kernel_rfl) (fun _ _ _ h => h) (Or.inl ⟨by rfl, ?hyz4_9⟩) (by assumption) ?restz4_9
          case hyz4_9 => (intro w hSw; (try dsimp only at hSw); (try simp only [List.getElem_toArray, List.getElem_cons_zero, List.getElem_cons_succ]); go_simp; (try with_reducible rfl))
          (try simp only [Act.put, List.setIfInBounds_toArray, List.set_cons_zero, List.set_cons_succ, List.getElem_toArray, List.getElem_cons_zero, List.getElem_cons_succ])
          refine wpAnyH_take (i := 9) (oi := _) (v := ?vz9_10) rfl (by kernel_rfl) (by kernel_rfl) (by kernel_rfl) (fun _ _ _ h => h) (Or.inl ⟨by rfl, ?hyz9_10⟩) (by assumption) ?restz9_10
          case hyz9_10 => (intro w hSw; (try dsimp only at hSw); (try simp only [List.getElem_toArray, List.getElem_cons_zero, List.getElem_cons_succ]); go_simp; (try with_reducible rfl))
          (try simp only [Act.put, List.setIfInBounds_toArray, List.set_cons_zero, List.set_cons_succ, List.getElem_toArray, List.getElem_cons_zero, List.getElem_cons_succ])
          refine wpAnyH_take (i := 11) (oi := _) (v := ?vz11_11) rfl (by kernel_rfl) (by kernel_rfl) (by kernel_rfl) (fun _ _ _ h => h) (Or.inl ⟨by rfl, ?hyz11_11⟩) (by assumption) ?restz11_11
          case hyz11_11 => (intro w hSw; (try dsimp only at hSw); (try simp only [List.getElem_toArray, List.getElem_cons_zero, List.getElem_cons_succ]); go_simp; (try with_reducible rfl))
          (try simp only [Act.put, List.setIfInBounds_toArray, List.set_cons_zero, List.set_cons_succ, List.getElem_toArray, List.getElem_cons_zero, List.getElem_cons_succ])
          refine wpAnyH_take (i := 17) (oi := _) (v := ?vz17_12) rfl (by kernel_rfl) (by kernel_rfl) (by kernel_rfl) (fun _ _ _ h => h) (Or.inl ⟨by rfl, ?hyz17_12⟩) (by assumption) ?restz17_12
          case hyz17_12 => (intro w hSw; (try dsimp only at hSw); (try simp only [List.getElem_toArray, List.getElem_cons_zero, List.getElem_cons_succ]); go_simp; (try with_reducible rfl))
          (try simp only [Act.put, List.setIfInBounds_toArray, List.set_cons_zero, List.set_cons_succ, List.getElem_toArray, List.getElem_cons_zero, List.getElem_cons_succ])
          refine wpAnyH_take (i := 5) (oi := _) (v := ?vz5_13) rfl (by kernel_rfl) (by kernel_rfl) (by kernel_rfl) (fun _ _ _ h => h) (Or.inl ⟨by rfl, ?hyz5_13⟩) (by assumption) ?restz5_13
          case hyz5_13 => (intro w hSw; (try dsimp only at hSw); (try simp only [List.getElem_toArray, List.getElem_cons_zero, List.getElem_cons_succ]); go_simp; (try with_reducible rfl))
          (try simp only [Act.put, List.setIfInBounds_toArray, List.set_cons_zero, List.set_cons_succ, List.getElem_toArray, List.getElem_cons_zero, List.getElem_cons_succ])
          refine wpAnyH_ready (rs := [6, 10]) (by kernel_rfl) (by simp) ?_
          refine AllReadyH.cons (o := _) rfl (fun K hK => ?_) (AllReadyH.cons (o := _) rfl (fun K hK => ?_) AllReadyH.nil)
          · (try simp only [List.getElem_toArray, List.getElem_cons_zero, List.getElem_cons_succ])
            go_simp
            refine hK.out _ _ ?_ (fun hHeld => ?_)
            · exact ⟨r0, r1⟩
            clear hK K
            (try simp only [Act.put, List.setIfInBounds_toArray, List.set_cons_zero, List.set_cons_succ, List.getElem_toArray, List.getElem_cons_zero, List.getElem_cons_succ])
            refine wpAnyH_take (i := 12) (oi := _) (v := ?vz12_14) rfl (by kernel_rfl) (by kernel_rfl) (by kernel_rfl) (fun _ _ _ h => h) (Or.inl ⟨by rfl, ?hyz12_14⟩) (by assumption) ?restz12_14
            case hyz12_14 => (intro w hSw; (try dsimp only at hSw); (try simp only [List.getElem_toArray, List.getElem_cons_zero, List.getElem_cons_succ]); go_simp; (try with_reducible rfl))
            (try simp only [Act.put, List.setIfInBounds_toArray, List.set_cons_zero, List.set_cons_succ, List.getElem_toArray, List.getElem_cons_zero, List.getElem_cons_succ])
            refine wpAnyH_ready (rs := [10]) (by kernel_rfl) (by simp) ?_
            refine AllReadyH.cons (o := _) rfl (fun K hK => ?_) AllReadyH.nil
            · (try simp only [List.getElem_toArray, List.getElem_cons_zero, List.getElem_cons_succ])
              go_simp
              refine (HKD.out _).mono ?_; rintro e w2 ⟨rfl, rfl⟩
              refine hK.out _ _ ?_ (fun hHeld => ?_)
              · exact ⟨r0, r1⟩
              clear hK K
              (try simp only [Act.put, List.setIfInBounds_toArray, List.set_cons_zero, List.set_cons_succ, List.getElem_toArray, List.getElem_cons_zero, List.getElem_cons_succ])
              refine wpAnyH_take (i := 13) (oi := _) (v := ?vz13_15) rfl (by kernel_rfl) (by kernel_rfl) (by kernel_rfl) (fun _ _ _ h => h) (Or.inl ⟨by rfl, ?hyz13_15⟩) (by assumption) ?restz13_15
              case hyz13_15 => (intro w hSw; (try dsimp only at hSw); (try simp only [List.getElem_toArray, List.getElem_cons_zero, List.getElem_cons_succ]); go_simp; (try with_reducible rfl))
              (try simp only [Act.put, List.setIfInBounds_toArray, List.set_cons_zero, List.set_cons_succ, List.getElem_toArray, List.getElem_cons_zero, List.getElem_cons_succ])
              refine wpAnyH_take (i := 14) (oi := _) (v := ?vz14_16) rfl (by kernel_rfl) (by kernel_rfl) (by kernel_rfl) (fun _ _ _ h => h) (Or.inl ⟨by rfl, ?hyz14_16⟩) (by assumption) ?restz14_16
              case hyz14_16 => (intro w hSw; (try dsimp only at hSw); (try simp only [List.getElem_toArray, List.getElem_cons_zero, List.getElem_cons_succ]); go_simp; (try with_reducible rfl))
              (try simp only [Act.put, List.setIfInBounds_toArray, List.set_cons_zero, List.set_cons_succ, List.getElem_toArray, List.getElem_cons_zero, List.getElem_cons_succ])
              refine wpAnyH_ready (rs := [18]) (by kernel_rfl) (by simp) ?_
              refine AllReadyH.cons (o := _) rfl (fun K hK => ?_) AllReadyH.nil
              · (try simp only [List.getElem_toArray, List.getElem_cons_zero, List.getElem_cons_succ])
                go_simp
                refine (esc_take p o B b1 A1 n1 c1 rs1 nx dd ch _ (HE1.out.keep ((Keep.refl (fun _ => False) wr).drew) (fun x => x)) (HA1.out.keep ((Keep.refl (fun _ => False) wr).drew) (fun _ _ x => x)) hpB hBr HC1.out.2.2 hb256 HC1.out.2.1 HD9.out (by omega)).mono ?_
                rintro e w3 ⟨A2, c2, rfl, h2, g2, k2⟩
                have HA2 := Lib.hid h2
                have HE2 := Lib.hid g2
                have K2 : Hid (PStep p o A1 wr A2 w3) := Lib.hid ⟨⟨k2.keep.os, k2.keep.tape, k2.keep.output, k2.keep.size, k2.keep.block⟩, k2.at', k2.out⟩
                have HRF : Hid (RulesAt w3 R true) := Lib.hid (R1.out.keep (HP1.out.trans K2.out).keep (fun e => e.elim (fun e => hRp e) (fun e => by simp [blk] at e)))
                clear h2 g2 k2
                refine hK.out _ _ ?_ (fun hHeld => ?_)
                · exact ⟨HR0.out w3 HRF.out, HR1.out w3 HRF.out⟩
                clear hK K
                (try simp only [Act.put, List.setIfInBounds_toArray, List.set_cons_zero, List.set_cons_succ, List.getElem_toArray, List.getElem_cons_zero, List.getElem_cons_succ])
                refine wpAnyH_take (i := 19) (oi := _) (v := ?vz19_17) rfl (by kernel_rfl) (by kernel_rfl) (by kernel_rfl) (fun _ _ _ h => h) (Or.inl ⟨by rfl, ?hyz19_17⟩) (by assumption) ?restz19_17
                case hyz19_17 => (intro w hSw; (try dsimp only at hSw); (try simp only [List.getElem_toArray, List.getElem_cons_zero, List.getElem_cons_succ]); go_simp; (try with_reducible rfl))
                (try simp only [Act.put, List.setIfInBounds_toArray, List.set_cons_zero, List.set_cons_succ, List.getElem_toArray, List.getElem_cons_zero, List.getElem_cons_succ])
                refine wpAnyH_done (by kernel_rfl) ?_ _
                refine NoPanic.normal ?_
                have HF4 : Hid (FedE p o B R b w1 (.slice A2 (n1 + (stepE b1 nx dd ch).2.length : Nat) c2) (preU ts k (j + 1)) w3) := by
                  show FedE _ _ _ _ _ _ _ _ _
                  rw [HN.out]
                  unfold FedE
                  rw [feedE_snoc, HST.out]
                  simp only
                  rw [HBE.out]
                  refine ⟨A2, _, c2, rfl, ?_, HA2.out, HE2.out, HP1.out.trans K2.out⟩
                  rw [List.length_append, HN1.out]
                clear hHeld
                go_wp2_with fail
                go_roundw
                case rel => exact ⟨j + 1, by go_num, by omega, HF4⟩
                case measure => simp [intOf]; omega
          · (try simp only [List.getElem_toArray, List.getElem_cons_zero, List.getElem_cons_succ])
            go_simp
            refine (HKD.out _).mono ?_; rintro e w2 ⟨rfl, rfl⟩
            refine hK.out _ _ ?_ (fun hHeld => ?_)
            · exact ⟨r0, r1⟩
            clear hK K
            (try simp only [Act.put, List.setIfInBounds_toArray, List.set_cons_zero, List.set_cons_succ, List.getElem_toArray, List.getElem_cons_zero, List.getElem_cons_succ])
            refine wpAnyH_ready (rs := [6]) (by kernel_rfl) (by simp) ?_
            refine AllReadyH.cons (o := _) rfl (fun K hK => ?_) AllReadyH.nil
            · (try simp only [List.getElem_toArray, List.getElem_cons_zero, List.getElem_cons_succ])
              go_simp
              refine hK.out _ _ ?_ (fun hHeld => ?_)
              · exact ⟨r0, r1⟩
              clear hK K
              (try simp only [Act.put, List.setIfInBounds_toArray, List.set_cons_zero, List.set_cons_succ, List.getElem_toArray, List.getElem_cons_zero, List.getElem_cons_succ])
              refine wpAnyH_take (i := 12) (oi := _) (v := ?vz12_18) rfl (by kernel_rfl) (by kernel_rfl) (by kernel_rfl) (fun _ _ _ h => h) (Or.inl ⟨by rfl, ?hyz12_18⟩) (by assumption) ?restz12_18
              case hyz12_18 => (intro w hSw; (try dsimp only at hSw); (try simp only [List.getElem_toArray, List.getElem_cons_zero, List.getElem_cons_succ]); go_simp; (try with_reducible rfl))
              (try simp only [Act.put, List.setIfInBounds_toArray, List.set_cons_zero, List.set_cons_succ, List.getElem_toArray, List.getElem_cons_zero, List.getElem_cons_succ])
              refine wpAnyH_take (i := 13) (oi := _) (v := ?vz13_19) rfl (by kernel_rfl) (by kernel_rfl) (by kernel_rfl) (fun _ _ _ h => h) (Or.inl ⟨by rfl, ?hyz13_19⟩) (by assumption) ?restz13_19
              case hyz13_19 => (intro w hSw; (try dsimp only at hSw); (try simp only [List.getElem_toArray, List.getElem_cons_zero, List.getElem_cons_succ]); go_simp; (try with_reducible rfl))
              (try simp only [Act.put, List.setIfInBounds_toArray, List.set_cons_zero, List.set_cons_succ, List.getElem_toArray, List.getElem_cons_zero, List.getElem_cons_succ])
              refine wpAnyH_take (i := 14) (oi := _) (v := ?vz14_20) rfl (by kernel_rfl) (by kernel_rfl) (by kernel_rfl) (fun _ _ _ h => h) (Or.inl ⟨by rfl, ?hyz14_20⟩) (by assumption) ?restz14_20
              case hyz14_20 => (intro w hSw; (try dsimp only at hSw); (try simp only [List.getElem_toArray, List.getElem_cons_zero, List.getElem_cons_succ]); go_simp; (try with_reducible rfl))
              (try simp only [Act.put, List.setIfInBounds_toArray, List.set_cons_zero, List.set_cons_succ, List.getElem_toArray, List.getElem_cons_zero, List.getElem_cons_succ])
              refine wpAnyH_ready (rs := [18]) (by kernel_rfl) (by simp) ?_
              refine AllReadyH.cons (o := _) rfl (fun K hK => ?_) AllReadyH.nil
              · (try simp only [List.getElem_toArray, List.getElem_cons_zero, List.getElem_cons_succ])
                go_simp
                refine (esc_take p o B b1 A1 n1 c1 rs1 nx dd ch _ (HE1.out.keep ((Keep.refl (fun _ => False) wr).drew) (fun x => x)) (HA1.out.keep ((Keep.refl (fun _ => False) wr).drew) (fun _ _ x => x)) hpB hBr HC1.out.2.2 hb256 HC1.out.2.1 HD9.out (by omega)).mono ?_
                rintro e w3 ⟨A2, c2, rfl, h2, g2, k2⟩
                have HA2 := Lib.hid h2
                have HE2 := Lib.hid g2
                have K2 : Hid (PStep p o A1 wr A2 w3) := Lib.hid ⟨⟨k2.keep.os, k2.keep.tape, k2.keep.output, k2.keep.size, k2.keep.block⟩, k2.at', k2.out⟩
                have HRF : Hid (RulesAt w3 R true) := Lib.hid (R1.out.keep (HP1.out.trans K2.out).keep (fun e => e.elim (fun e => hRp e) (fun e => by simp [blk] at e)))
                clear h2 g2 k2
                refine hK.out _ _ ?_ (fun hHeld => ?_)
                · exact ⟨HR0.out w3 HRF.out, HR1.out w3 HRF.out⟩
                clear hK K
                (try simp only [Act.put, List.setIfInBounds_toArray, List.set_cons_zero, List.set_cons_succ, List.getElem_toArray, List.getElem_cons_zero, List.getElem_cons_succ])
                refine wpAnyH_take (i := 19) (oi := _) (v := ?vz19_21) rfl (by kernel_rfl) (by kernel_rfl) (by kernel_rfl) (fun _ _ _ h => h) (Or.inl ⟨by rfl, ?hyz19_21⟩) (by assumption) ?restz19_21
                case hyz19_21 => (intro w hSw; (try dsimp only at hSw); (try simp only [List.getElem_toArray, List.getElem_cons_zero, List.getElem_cons_succ]); go_simp; (try with_reducible rfl))
                (try simp only [Act.put, List.setIfInBounds_toArray, List.set_cons_zero, List.set_cons_succ, List.getElem_toArray, List.getElem_cons_zero, List.getElem_cons_succ])
                refine wpAnyH_done (by kernel_rfl) ?_ _
                refine NoPanic.normal ?_
                have HF4 : Hid (FedE p o B R b w1 (.slice A2 (n1 + (stepE b1 nx dd ch).2.length : Nat) c2) (preU ts k (j + 1)) w3) := by
                  show FedE _ _ _ _ _ _ _ _ _
                  rw [HN.out]
                  unfold FedE
                  rw [feedE_snoc, HST.out]
                  simp only
                  rw [HBE.out]
                  refine ⟨A2, _, c2, rfl, ?_, HA2.out, HE2.out, HP1.out.trans K2.out⟩
                  rw [List.length_append, HN1.out]
                clear hHeld
                go_wp2_with fail
                go_roundw
                case rel => exact ⟨j + 1, by go_num, by omega, HF4⟩
                case measure => simp [intOf]; omega
        · have ej : j = x.size := by omega
          have HF3 : Hid (FedE p o B R b w1 u6 (preU ts (k + 1) 0) wr) := by
            show FedE _ _ _ _ _ _ _ _ _
            rw [← preU_row HX.out, ← ej]; exact HF2.out
          clear ej
          go_wp2_with fail
          go_roundw
          case rel => exact ⟨k + 1, by go_num, by omega, HF3⟩
          case measure => simp [intOf]; omega
    · have ek : k = n := by omega
      have HF3 : Hid (FedE p o B R b w1 u6 (preU ts n 0) wo) := by
        show FedE _ _ _ _ _ _ _ _ _
        rw [← ek]; exact HF.out
      clear ek
      go_wp2_with fail
      go_ret
      exact ⟨B, _, w1, hwB, rfl, K1.out, HF3.out⟩


def rulesCs : Array Value := #[.int .u32 0, .int .i32 0, .int .u32 0] ++ u8a (List.replicate 360 0)
theorem rules_built : Tryz.prog.built 122 [] = some rulesCs := by kernel_rfl
theorem pre3_0 (a b c : Value) (x : Array Value) : (#[a, b, c] ++ x)[0]? = some a ∧ (#[a, b, c] ++ x)[1]? = some b := by
  constructor <;> simp [Array.getElem?_append]
theorem pre3_at (a b c : Value) (x : Array Value) (i : Nat) : (#[a, b, c] ++ x)[3 + i]? = x[i]? := by
  rw [Array.getElem?_append_right (by simp)]
  congr 1
  simp
theorem rep_getD (n i : Nat) : (List.replicate n 0).getD i 0 = 0 := by
  rw [List.getD_eq_getElem?_getD, List.getElem?_replicate]
  split <;> rfl
theorem rulesCs_at (i : Nat) (h : i < 360) : rulesCs[3 + i]? = some (.int .u8 0) := by
  unfold rulesCs
  rw [pre3_at, u8a_at _ _ (by rw [List.length_replicate]; exact h), rep_getD]
  rfl
theorem rules_new (w : World) : RulesAt (w.alloc (.cells rulesCs 122)) w.heap.size false :=
  ⟨Cell.box 0 (pre3_0 _ _ _ _).1, Cell.box 1 (pre3_0 _ _ _ _).2, fun i hi => ⟨_, Cell.box (3 + i) (rulesCs_at i hi), fun e => by cases e⟩⟩
theorem EscC.span1 {w w' : World} {p o : Nat} {b : BP} (h : EscC w p o b) (k : SpanP p o (o + 1) w w') : EscC w' p o b :=
  ⟨k.cell h.s (by omega), h.u.span k (by omega), h.g.span k (by omega)⟩

set_option maxRecDepth 100000 in
set_option maxHeartbeats 3200000 in
/-- Feed, the first time. -/
theorem esc_feed_first (p o : Nat) (b : BP) (q : PL) (hal : AlikeE b q) (A : Option Addr) (n c : Nat) (ts : List ByteArray) (w : World) (h : EscC w p o b) (hr : Cell w p o (.pointer none))
    (hs : Src w A n (ts.map Value.string)) (hA : 0 < n → blk A ≠ some p) (hn : n ≤ 100000000) (hsum : sum ts ≤ 100000000) (hcm : b.came ≤ 100000000) :
    Calls Tryz.prog 27 #[.pointer (some ⟨p, o, none⟩), .slice A n c] w fun e w' => ∃ R B v w1, w.heap.size ≤ B ∧ w.heap.size ≤ R ∧ e = .returned v ∧ (Cell w1 p o (.pointer (some ⟨R, 0, none⟩)) ∧ RulesAt w1 R true ∧ SpanP p o (o + 1) w w1) ∧ FedE p o B R b w1 v (preU ts n 0) w' := by
  have hl := Lib.hid (show ts.length = n from by have := hs.1; rwa [List.length_map] at this)
  have cr := hr.1
  have fr := hr.2
  have H := Lib.hid h
  have HS := Lib.hid hs
  have HA := Lib.hid hA
  have HSUM := Lib.hid hsum
  have HAL := Lib.hid hal
  have HCM := Lib.hid hcm
  have hpl := h.lt
  have HCR := Lib.hid hr
  have HU := Lib.hid h.u.ok
  obtain ⟨CS, hCS⟩ : ∃ CS, CS = rulesCs := ⟨_, rfl⟩
  have HBT : Hid (Tryz.prog.built 122 [] = some CS) := Lib.hid (by rw [hCS]; exact rules_built)
  obtain ⟨R, hR⟩ : ∃ R, R = w.heap.size := ⟨_, rfl⟩
  have hRp : R ≠ p := by omega
  have hwR : w.heap.size ≤ R := by omega
  obtain ⟨W1, hW1⟩ : ∃ W1 : World, W1 = (w.setCell ⟨p, o, none⟩ (.pointer (some ⟨R, 0, none⟩))).alloc (.cells CS 122) := ⟨_, rfl⟩
  have SW : Hid (SpanP p o (o + 1) w W1) := Lib.hid (by rw [hW1]; exact ((SpanP.refl p o (o + 1) w).set o (by omega) (by omega) _).below (by simpa [World.setCell] using hpl) ((Below.refl _ _).alloc (Nat.le_refl _) _))
  have HRW : Hid (RulesAt W1 R false) := Lib.hid (by
    have := rules_new (w.setCell ⟨p, o, none⟩ (.pointer (some ⟨R, 0, none⟩)))
    rw [show (w.setCell ⟨p, o, none⟩ (.pointer (some ⟨R, 0, none⟩))).heap.size = R from by simp [World.setCell, hR]] at this
    rw [hW1, hCS]; exact this)
  have HCW : Hid (Cell W1 p o (.pointer (some ⟨R, 0, none⟩))) := Lib.hid (by rw [hW1]; exact (hr.set _).alloc _)
  have cW := HCW.out.1
  clear h hr hs hA hsum hal hcm hCS
  go_enter Tryz.func27, Tryz.ntmps27
  go_upto_region 5 with (with_reducible refine wpList_built rfl 122 #[] rfl CS (by simp only [List.map_toArray, List.map_nil]; exact HBT.out) ?_)
  rw [← hR, ← hW1]
  clear hW1 hR cr fr
  go_wp2_with fail
  refine (rows_first R W1 HRW.out).mono ?_
  rintro e w1 ⟨rfl, hr1, k1⟩
  have R1 := Lib.hid hr1
  have SW1 : Hid (SpanP p o (o + 1) w w1) := Lib.hid ⟨SW.out.keep.trans k1 (fun i hi e => by omega), fun i hi => ⟨(k1.cell (p := ⟨p, i, none⟩) (Nat.lt_of_lt_of_le hpl SW.out.keep.size) (fun e => hRp e.symm)).trans (SW.out.out i hi).1, (k1.frozen (p := ⟨p, i, none⟩) (Nat.lt_of_lt_of_le hpl SW.out.keep.size) (fun e => hRp e.symm)).trans (SW.out.out i hi).2⟩⟩
  obtain ⟨B, hB⟩ : ∃ B, B = w1.heap.size := ⟨_, rfl⟩
  have HBW : Hid (B = w1.heap.size) := hB
  have hwB : w.heap.size ≤ B := by rw [hB]; exact SW1.out.keep.size
  have HC1' := Lib.hid (HCW.out.keep k1 (by omega))
  have H1 := Lib.hid ((H.out.span1 SW1.out))
  have S1 := Lib.hid (HS.out.far SW1.out.keep (fun h0 i hi e => HA.out h0 (by rw [hi, e])))
  have F0 : Hid (FedE p o B R b w1 (.slice none 0 0) (preU ts 0 0) w1) := by
    show FedE _ _ _ _ _ _ _ _ _
    rw [preU_zero]
    exact ⟨none, 0, 0, rfl, rfl, ActsV.nil _ _, H1.out, PStep.refl _ _ _ _⟩
  have HLEN : Hid (∀ l : List Nat, l.length ≤ 100000000 → (feedE b l).2.length ≤ 300000000 ∧ (feedE b l).1.came < 1000000000 ∧ (feedE b l).1.Ok) := Lib.hid (fun l hl => by
    have h1 := len_feedE l b HU.out
    have h2 := HCM.out
    exact ⟨by omega, by omega, (feed_alikeE l HAL.out).1.ok⟩)
  clear k1 hB hr1
  go_wp2_with fail
  go_loopw [6, 29] (fun v i wr => ∃ k : Nat, i = .int .i64 k ∧ k ≤ n ∧ Hid (FedE p o B R b w1 v (preU ts k 0) wr)) (fun _ i _ => n - (intOf i).toNat)
  case atStart => exact ⟨0, rfl, by omega, F0⟩
  case round =>
    obtain ⟨k, rfl, hk, HF⟩ := hrel
    obtain ⟨wo, rfl⟩ : ∃ wo : World, wo = wr := ⟨_, rfl⟩
    by_cases hlt : k < n
    · obtain ⟨x, hx⟩ : ∃ x, ts[k]? = some x := ⟨ts[k]'(by rw [hl.out]; exact hlt), List.getElem?_eq_getElem _⟩
      have hsrc : Src wo A n (ts.map Value.string) := by
        obtain ⟨_, _, _, _, _, _, _, hps⟩ := HF.out
        exact S1.out.of_keep hps.keep (fun i hi e => e.elim (fun e => HA.out (by omega) (by rw [hi, e])) (fun e => by simp [blk] at e))
      obtain ⟨bb, off, rfl, hbl, hcs⟩ := hsrc.2 (by omega)
      have hcx : wo.cell? ⟨bb, off + k, none⟩ = some (.string x) := hcs k _ (by rw [List.getElem?_map, hx]; rfl)
      have hxs : x.size ≤ 100000000 := by
        have h1 := sum_mem (List.mem_of_getElem? hx)
        have := HSUM.out
        omega
      have hki : ((k : Int) < (n : Int)) := by omega
      have hk0 : (0 : Int) ≤ (k : Int) := by omega
      have HX := Lib.hid hx
      clear hcs hx hsrc
      go_wp2_with fail
      go_loopw [6, 35] (fun v i wr => ∃ j : Nat, i = .int .i64 j ∧ j ≤ x.size ∧ Hid (FedE p o B R b w1 v (preU ts k j) wr)) (fun _ i _ => x.size - (intOf i).toNat)
      case atStart => exact ⟨0, rfl, by omega, HF⟩
      case round =>
        obtain ⟨j, rfl, hj, HF2⟩ := hrel
        by_cases hlj : j < x.size
        · have hpre : (preU ts k j).length ≤ 100000000 := by
            have h2 := preU_len ts k j (by rw [List.getD_eq_getElem?_getD, HX.out, Option.getD_some]; omega)
            have h3 := HSUM.out
            omega
          have hcc := HLEN.out _ hpre
          have hb256 : x[j].toNat < 256 := x[j].toNat_lt
          have HN := Lib.hid (preU_next HX.out hlj)
          obtain ⟨ch, hch⟩ : ∃ ch : Nat, x[j].toNat = ch := ⟨_, rfl⟩
          rw [hch] at hb256 HN
          have hix : ∀ W : World, (Instr.index 9 (.string x) (.int .i64 (j : Int))).run Tryz.prog W = .ok (.int .u8 (ch : Int)) W := fun W => by
            rw [run_index_string W 9 x .i64 (j : Int) Tryz.underlying9]
            simp [hlj, hch]
          obtain ⟨A1, n1, c1, rfl, hn1, ha1, he1, hp1⟩ := HF2.out
          generalize hst : feedE b (preU ts k j) = st at hcc hn1 ha1 he1
          obtain ⟨b1, rs1⟩ := st
          have HST := Lib.hid hst
          have HA1 := Lib.hid ha1
          have HE1 := Lib.hid he1
          have HP1 := Lib.hid hp1
          have HC1 := Lib.hid hcc
          have hs12 : b1.s ≤ 11 := hcc.2.2.s
          have hn1' : n1 ≤ 300000000 := by rw [hn1]; exact hcc.1
          have HN1 := Lib.hid hn1
          have hkl := kindL_le ch
          obtain ⟨kd, hkd⟩ : ∃ kd, kindL ch = kd := ⟨_, rfl⟩
          rw [hkd] at hkl
          have HKD := Lib.hid (fun W => hkd ▸ esc_kindOf ch W)
          have HD9 : Hid (deedE b1.s kd = 9 → 48 ≤ ch ∧ ch ≤ 57) := Lib.hid (fun e => deed9 b1.s ch hs12 (by rw [hkd]; exact e))
          have HBE : Hid (byteE b1 ch = stepE b1 (nextE b1.s kd) (deedE b1.s kd) ch) := Lib.hid (by unfold byteE; rw [hkd])
          have hRr : RulesAt wr R true := R1.out.keep hp1.keep (fun e => e.elim (fun e => hRp e) (fun e => by simp [blk] at e))
          obtain ⟨ss, hss⟩ : ∃ ss, b1.s = ss := ⟨_, rfl⟩
          obtain ⟨nx, hnx⟩ : ∃ nx, nextE ss kd = nx := ⟨_, rfl⟩
          obtain ⟨dd, hdd⟩ : ∃ dd, deedE ss kd = dd := ⟨_, rfl⟩
          rw [hss] at hs12 HD9 HBE
          rw [hdd] at HD9
          rw [hnx, hdd] at HBE
          have r0 : wr.cell? ⟨R, 3 + ss * 30 + kd * 2, none⟩ = some (.int .u8 (nx : Int)) := by
            rw [← hnx, Nat.add_assoc]; exact hRr.at' (by omega)
          have r1 : wr.cell? ⟨R, 3 + ss * 30 + kd * 2 + 1, none⟩ = some (.int .u8 (dd : Int)) := by
            rw [← hdd, show 3 + ss * 30 + kd * 2 + 1 = 3 + (ss * 30 + kd * 2 + 1) by omega]; exact hRr.at' (by omega)
          have HR0 : Hid (∀ W : World, RulesAt W R true → W.cell? ⟨R, 3 + ss * 30 + kd * 2, none⟩ = some (.int .u8 (nx : Int))) := Lib.hid (fun W h => by rw [← hnx, Nat.add_assoc]; exact h.at' (by omega))
          have HR1 : Hid (∀ W : World, RulesAt W R true → W.cell? ⟨R, 3 + ss * 30 + kd * 2 + 1, none⟩ = some (.int .u8 (dd : Int))) := Lib.hid (fun W h => by rw [← hdd, show 3 + ss * 30 + kd * 2 + 1 = 3 + (ss * 30 + kd * 2 + 1) by omega]; exact h.at' (by omega))
          have e1 : wr.cell? ⟨p, o + 1, none⟩ = some (.int .u8 (ss : Int)) := by rw [← hss]; exact he1.s.1
          have hs0 : (0 : Int) ≤ (ss : Int) := by omega
          have hs1 : (ss : Int) < 12 := by omega
          have hk00 : (0 : Int) ≤ (kd : Int) := by omega
          have hk15 : (kd : Int) < 15 := by omega
          have hj0 : (0 : Int) ≤ (j : Int) := by omega
          have hjx : (j : Int) < (x.size : Int) := by omega
          have hpB : p < B := by omega
          have hBr : B ≤ wr.heap.size := by rw [HBW.out]; exact hp1.keep.size
          clear hst hkd hss hnx hdd hn1 ha1 he1 hp1 hcc hRr hpre hch HF2
          go_wp2_with fail
          refine wp_region_noPanic ?_
          refine wp_region_held_drew (S := fun w' => w'.cell? ⟨R, 3 + ss * 30 + kd * 2, none⟩ = some (.int .u8 (nx : Int)) ∧ w'.cell? ⟨R, 3 + ss * 30 + kd * 2 + 1, none⟩ = some (.int .u8 (dd : Int))) (by kernel_rfl) ⟨r0, r1⟩ (fun hHeld => ?_)
          refine wpAnyH_take (i := 0) (oi := _) (v := ?vz0_1) rfl (by kernel_rfl) (by kernel_rfl) (by kernel_rfl) (fun _ _ _ h => h) (Or.inl ⟨by rfl, ?hyz0_1⟩) (by assumption) ?restz0_1
          case hyz0_1 => (intro w hSw; (try dsimp only at hSw); (try simp only [List.getElem_toArray, List.getElem_cons_zero, List.getElem_cons_succ]); go_simp; (try with_reducible rfl))
          (try simp only [Act.put, List.setIfInBounds_toArray, List.set_cons_zero, List.set_cons_succ, List.getElem_toArray, List.getElem_cons_zero, List.getElem_cons_succ])
          refine wpAnyH_take (i := 1) (oi := _) (v := ?vz1_2) rfl (by kernel_rfl) (by kernel_rfl) (by kernel_rfl) (fun _ _ _ h => h) (Or.inl ⟨by rfl, ?hyz1_2⟩) (by assumption) ?restz1_2
          case hyz1_2 => (intro w hSw; (try dsimp only at hSw); (try simp only [List.getElem_toArray, List.getElem_cons_zero, List.getElem_cons_succ]); go_simp; (try with_reducible rfl))
          (try simp only [Act.put, List.setIfInBounds_toArray, List.set_cons_zero, List.set_cons_succ, List.getElem_toArray, List.getElem_cons_zero, List.getElem_cons_succ])
          refine wpAnyH_take (i := 2) (oi := _) (v := ?vz2_3) rfl (by kernel_rfl) (by kernel_rfl) (by kernel_rfl) (fun _ _ _ h => h) (Or.inl ⟨by rfl, ?hyz2_3⟩) (by assumption) ?restz2_3
          case hyz2_3 => (intro w hSw; (try dsimp only at hSw); (try simp only [List.getElem_toArray, List.getElem_cons_zero, List.getElem_cons_succ]); go_simp; (try with_reducible rfl))
          (try simp only [Act.put, List.setIfInBounds_toArray, List.set_cons_zero, List.set_cons_succ, List.getElem_toArray, List.getElem_cons_zero, List.getElem_cons_succ])
          refine wpAnyH_take (i := 3) (oi := _) (v := ?vz3_4) rfl (by kernel_rfl) (by kernel_rfl) (by kernel_rfl) (fun _ _ _ h => h) (Or.inl ⟨by rfl, ?hyz3_4⟩) (by assumption) ?restz3_4
          case hyz3_4 => (intro w hSw; (try dsimp only at hSw); (try simp only [List.getElem_toArray, List.getElem_cons_zero, List.getElem_cons_succ]); go_simp; (try with_reducible rfl))
          (try simp only [Act.put, List.setIfInBounds_toArray, List.set_cons_zero, List.set_cons_succ, List.getElem_toArray, List.getElem_cons_zero, List.getElem_cons_succ])
          refine wpAnyH_take (i := 7) (oi := _) (v := ?vz7_5) rfl (by kernel_rfl) (by kernel_rfl) (by kernel_rfl) (fun _ _ _ h => h) (Or.inl ⟨by rfl, ?hyz7_5⟩) (by assumption) ?restz7_5
          case hyz7_5 => (intro w hSw; (try dsimp only at hSw); (try simp only [List.getElem_toArray, List.getElem_cons_zero, List.getElem_cons_succ]); go_simp; (try with_reducible rfl))
          (try simp only [Act.put, List.setIfInBounds_toArray, List.set_cons_zero, List.set_cons_succ, List.getElem_toArray, List.getElem_cons_zero, List.getElem_cons_succ])
          refine wpAnyH_take (i := 8) (oi := _) (v := ?vz8_6) rfl (by kernel_rfl) (by kernel_rfl) (by kernel_rfl) (fun _ _ _ h => h) (Or.inl ⟨by rfl, ?hyz8_6⟩) (by assumption) ?restz8_6
          case hyz8_6 => (intro w hSw; (try dsimp only at hSw); (try simp only [List.getElem_toArray, List.getElem_cons_zero, List.getElem_cons_succ]); go_simp; (try with_reducible rfl))
          (try simp only [Act.put, List.setIfInBounds_toArray, List.set_cons_zero, List.set_cons_succ, List.getElem_toArray, List.getElem_cons_zero, List.getElem_cons_succ])
          refine wpAnyH_take (i := 15) (oi := _) (v := ?vz15_7) rfl (by kernel_rfl) (by kernel_rfl) (by kernel_rfl) (fun _ _ _ h => h) (Or.inl ⟨by rfl, ?hyz15_7⟩) (by assumption) ?restz15_7
          case hyz15_7 => (intro w hSw; (try dsimp only at hSw); (try simp only [List.getElem_toArray, List.getElem_cons_zero, List.getElem_cons_succ]); go_simp; (try with_reducible rfl))
          (try simp only [Act.put, List.setIfInBounds_toArray, List.set_cons_zero, List.set_cons_succ, List.getElem_toArray, List.getElem_cons_zero, List.getElem_cons_succ])
          refine wpAnyH_take (i := 16) (oi := _) (v := ?vz16_8) rfl (by kernel_rfl) (by kernel_rfl) (by kernel_rfl) (fun _ _ _ h => h) (Or.inl ⟨by rfl, ?hyz16_8⟩) (by assumption) ?restz16_8
          case hyz16_8 => (intro w hSw; (try dsimp only at hSw); (try simp only [List.getElem_toArray, List.getElem_cons_zero, List.getElem_cons_succ]); go_simp; (try with_reducible rfl))
          (try simp only [Act.put, List.setIfInBounds_toArray, List.set_cons_zero, List.set_cons_succ, List.getElem_toArray, List.getElem_cons_zero, List.getElem_cons_succ])
          refine wpAnyH_take (i := 4) (oi := _) (v := ?vz4_9) rfl (by kernel_rfl) (by kernel_rfl) (by kernel_rfl) (fun _ _ _ h => h) (Or.inl ⟨by rfl, ?hyz4_9⟩) (by assumption) ?restz4_9
          case hyz4_9 => (intro w hSw; (try dsimp only at hSw); (try simp only [List.getElem_toArray, List.getElem_cons_zero, List.getElem_cons_succ]); go_simp; (try with_reducible rfl))
          (try simp only [Act.put, List.setIfInBounds_toArray, List.set_cons_zero, List.set_cons_succ, List.getElem_toArray, List.getElem_cons_zero, List.getElem_cons_succ])
          refine wpAnyH_take (i := 9) (oi := _) (v := ?vz9_10) rfl (by kernel_rfl) (by kernel_rfl) (by kernel_rfl) (fun _ _ _ h => h) (Or.inl ⟨by rfl, ?hyz9_10⟩) (by assumption) ?restz9_10
          case hyz9_10 => (intro w hSw; (try dsimp only at hSw); (try simp only [List.getElem_toArray, List.getElem_cons_zero, List.getElem_cons_succ]); go_simp; (try with_reducible rfl))
          (try simp only [Act.put, List.setIfInBounds_toArray, List.set_cons_zero, List.set_cons_succ, List.getElem_toArray, List.getElem_cons_zero, List.getElem_cons_succ])
          refine wpAnyH_take (i := 11) (oi := _) (v := ?vz11_11) rfl (by kernel_rfl) (by kernel_rfl) (by kernel_rfl) (fun _ _ _ h => h) (Or.inl ⟨by rfl, ?hyz11_11⟩) (by assumption) ?restz11_11
          case hyz11_11 => (intro w hSw; (try dsimp only at hSw); (try simp only [List.getElem_toArray, List.getElem_cons_zero, List.getElem_cons_succ]); go_simp; (try with_reducible rfl))
          (try simp only [Act.put, List.setIfInBounds_toArray, List.set_cons_zero, List.set_cons_succ, List.getElem_toArray, List.getElem_cons_zero, List.getElem_cons_succ])
          refine wpAnyH_take (i := 17) (oi := _) (v := ?vz17_12) rfl (by kernel_rfl) (by kernel_rfl) (by kernel_rfl) (fun _ _ _ h => h) (Or.inl ⟨by rfl, ?hyz17_12⟩) (by assumption) ?restz17_12
          case hyz17_12 => (intro w hSw; (try dsimp only at hSw); (try simp only [List.getElem_toArray, List.getElem_cons_zero, List.getElem_cons_succ]); go_simp; (try with_reducible rfl))
          (try simp only [Act.put, List.setIfInBounds_toArray, List.set_cons_zero, List.set_cons_succ, List.getElem_toArray, List.getElem_cons_zero, List.getElem_cons_succ])
          refine wpAnyH_take (i := 5) (oi := _) (v := ?vz5_13) rfl (by kernel_rfl) (by kernel_rfl) (by kernel_rfl) (fun _ _ _ h => h) (Or.inl ⟨by rfl, ?hyz5_13⟩) (by assumption) ?restz5_13
          case hyz5_13 => (intro w hSw; (try dsimp only at hSw); (try simp only [List.getElem_toArray, List.getElem_cons_zero, List.getElem_cons_succ]); go_simp; (try with_reducible rfl))
          (try simp only [Act.put, List.setIfInBounds_toArray, List.set_cons_zero, List.set_cons_succ, List.getElem_toArray, List.getElem_cons_zero, List.getElem_cons_succ])
          refine wpAnyH_ready (rs := [6, 10]) (by kernel_rfl) (by simp) ?_
          refine AllReadyH.cons (o := _) rfl (fun K hK => ?_) (AllReadyH.cons (o := _) rfl (fun K hK => ?_) AllReadyH.nil)
          · (try simp only [List.getElem_toArray, List.getElem_cons_zero, List.getElem_cons_succ])
            go_simp
            refine hK.out _ _ ?_ (fun hHeld => ?_)
            · exact ⟨r0, r1⟩
            clear hK K
            (try simp only [Act.put, List.setIfInBounds_toArray, List.set_cons_zero, List.set_cons_succ, List.getElem_toArray, List.getElem_cons_zero, List.getElem_cons_succ])
            refine wpAnyH_take (i := 12) (oi := _) (v := ?vz12_14) rfl (by kernel_rfl) (by kernel_rfl) (by kernel_rfl) (fun _ _ _ h => h) (Or.inl ⟨by rfl, ?hyz12_14⟩) (by assumption) ?restz12_14
            case hyz12_14 => (intro w hSw; (try dsimp only at hSw); (try simp only [List.getElem_toArray, List.getElem_cons_zero, List.getElem_cons_succ]); go_simp; (try with_reducible rfl))
            (try simp only [Act.put, List.setIfInBounds_toArray, List.set_cons_zero, List.set_cons_succ, List.getElem_toArray, List.getElem_cons_zero, List.getElem_cons_succ])
            refine wpAnyH_ready (rs := [10]) (by kernel_rfl) (by simp) ?_
            refine AllReadyH.cons (o := _) rfl (fun K hK => ?_) AllReadyH.nil
            · (try simp only [List.getElem_toArray, List.getElem_cons_zero, List.getElem_cons_succ])
              go_simp
              refine (HKD.out _).mono ?_; rintro e w2 ⟨rfl, rfl⟩
              refine hK.out _ _ ?_ (fun hHeld => ?_)
              · exact ⟨r0, r1⟩
              clear hK K
              (try simp only [Act.put, List.setIfInBounds_toArray, List.set_cons_zero, List.set_cons_succ, List.getElem_toArray, List.getElem_cons_zero, List.getElem_cons_succ])
              refine wpAnyH_take (i := 13) (oi := _) (v := ?vz13_15) rfl (by kernel_rfl) (by kernel_rfl) (by kernel_rfl) (fun _ _ _ h => h) (Or.inl ⟨by rfl, ?hyz13_15⟩) (by assumption) ?restz13_15
              case hyz13_15 => (intro w hSw; (try dsimp only at hSw); (try simp only [List.getElem_toArray, List.getElem_cons_zero, List.getElem_cons_succ]); go_simp; (try with_reducible rfl))
              (try simp only [Act.put, List.setIfInBounds_toArray, List.set_cons_zero, List.set_cons_succ, List.getElem_toArray, List.getElem_cons_zero, List.getElem_cons_succ])
              refine wpAnyH_take (i := 14) (oi := _) (v := ?vz14_16) rfl (by kernel_rfl) (by kernel_rfl) (by kernel_rfl) (fun _ _ _ h => h) (Or.inl ⟨by rfl, ?hyz14_16⟩) (by assumption) ?restz14_16
              case hyz14_16 => (intro w hSw; (try dsimp only at hSw); (try simp only [List.getElem_toArray, List.getElem_cons_zero, List.getElem_cons_succ]); go_simp; (try with_reducible rfl))
              (try simp only [Act.put, List.setIfInBounds_toArray, List.set_cons_zero, List.set_cons_succ, List.getElem_toArray, List.getElem_cons_zero, List.getElem_cons_succ])
              refine wpAnyH_ready (rs := [18]) (by kernel_rfl) (by simp) ?_
              refine AllReadyH.cons (o := _) rfl (fun K hK => ?_) AllReadyH.nil
              · (try simp only [List.getElem_toArray, List.getElem_cons_zero, List.getElem_cons_succ])
                go_simp
                refine (esc_take p o B b1 A1 n1 c1 rs1 nx dd ch _ (HE1.out.keep ((Keep.refl (fun _ => False) wr).drew) (fun x => x)) (HA1.out.keep ((Keep.refl (fun _ => False) wr).drew) (fun _ _ x => x)) hpB hBr HC1.out.2.2 hb256 HC1.out.2.1 HD9.out (by omega)).mono ?_
                rintro e w3 ⟨A2, c2, rfl, h2, g2, k2⟩
                have HA2 := Lib.hid h2
                have HE2 := Lib.hid g2
                have K2 : Hid (PStep p o A1 wr A2 w3) := Lib.hid ⟨⟨k2.keep.os, k2.keep.tape, k2.keep.output, k2.keep.size, k2.keep.block⟩, k2.at', k2.out⟩
                have HRF : Hid (RulesAt w3 R true) := Lib.hid (R1.out.keep (HP1.out.trans K2.out).keep (fun e => e.elim (fun e => hRp e) (fun e => by simp [blk] at e)))
                clear h2 g2 k2
                refine hK.out _ _ ?_ (fun hHeld => ?_)
                · exact ⟨HR0.out w3 HRF.out, HR1.out w3 HRF.out⟩
                clear hK K
                (try simp only [Act.put, List.setIfInBounds_toArray, List.set_cons_zero, List.set_cons_succ, List.getElem_toArray, List.getElem_cons_zero, List.getElem_cons_succ])
                refine wpAnyH_take (i := 19) (oi := _) (v := ?vz19_17) rfl (by kernel_rfl) (by kernel_rfl) (by kernel_rfl) (fun _ _ _ h => h) (Or.inl ⟨by rfl, ?hyz19_17⟩) (by assumption) ?restz19_17
                case hyz19_17 => (intro w hSw; (try dsimp only at hSw); (try simp only [List.getElem_toArray, List.getElem_cons_zero, List.getElem_cons_succ]); go_simp; (try with_reducible rfl))
                (try simp only [Act.put, List.setIfInBounds_toArray, List.set_cons_zero, List.set_cons_succ, List.getElem_toArray, List.getElem_cons_zero, List.getElem_cons_succ])
                refine wpAnyH_done (by kernel_rfl) ?_ _
                refine NoPanic.normal ?_
                have HF4 : Hid (FedE p o B R b w1 (.slice A2 (n1 + (stepE b1 nx dd ch).2.length : Nat) c2) (preU ts k (j + 1)) w3) := by
                  show FedE _ _ _ _ _ _ _ _ _
                  rw [HN.out]
                  unfold FedE
                  rw [feedE_snoc, HST.out]
                  simp only
                  rw [HBE.out]
                  refine ⟨A2, _, c2, rfl, ?_, HA2.out, HE2.out, HP1.out.trans K2.out⟩
                  rw [List.length_append, HN1.out]
                clear hHeld
                go_wp2_with fail
                go_roundw
                case rel => exact ⟨j + 1, by go_num, by omega, HF4⟩
                case measure => simp [intOf]; omega
          · (try simp only [List.getElem_toArray, List.getElem_cons_zero, List.getElem_cons_succ])
            go_simp
            refine (HKD.out _).mono ?_; rintro e w2 ⟨rfl, rfl⟩
            refine hK.out _ _ ?_ (fun hHeld => ?_)
            · exact ⟨r0, r1⟩
            clear hK K
            (try simp only [Act.put, List.setIfInBounds_toArray, List.set_cons_zero, List.set_cons_succ, List.getElem_toArray, List.getElem_cons_zero, List.getElem_cons_succ])
            refine wpAnyH_ready (rs := [6]) (by kernel_rfl) (by simp) ?_
            refine AllReadyH.cons (o := _) rfl (fun K hK => ?_) AllReadyH.nil
            · (try simp only [List.getElem_toArray, List.getElem_cons_zero, List.getElem_cons_succ])
              go_simp
              refine hK.out _ _ ?_ (fun hHeld => ?_)
              · exact ⟨r0, r1⟩
              clear hK K
              (try simp only [Act.put, List.setIfInBounds_toArray, List.set_cons_zero, List.set_cons_succ, List.getElem_toArray, List.getElem_cons_zero, List.getElem_cons_succ])
              refine wpAnyH_take (i := 12) (oi := _) (v := ?vz12_18) rfl (by kernel_rfl) (by kernel_rfl) (by kernel_rfl) (fun _ _ _ h => h) (Or.inl ⟨by rfl, ?hyz12_18⟩) (by assumption) ?restz12_18
              case hyz12_18 => (intro w hSw; (try dsimp only at hSw); (try simp only [List.getElem_toArray, List.getElem_cons_zero, List.getElem_cons_succ]); go_simp; (try with_reducible rfl))
              (try simp only [Act.put, List.setIfInBounds_toArray, List.set_cons_zero, List.set_cons_succ, List.getElem_toArray, List.getElem_cons_zero, List.getElem_cons_succ])
              refine wpAnyH_take (i := 13) (oi := _) (v := ?vz13_19) rfl (by kernel_rfl) (by kernel_rfl) (by kernel_rfl) (fun _ _ _ h => h) (Or.inl ⟨by rfl, ?hyz13_19⟩) (by assumption) ?restz13_19
              case hyz13_19 => (intro w hSw; (try dsimp only at hSw); (try simp only [List.getElem_toArray, List.getElem_cons_zero, List.getElem_cons_succ]); go_simp; (try with_reducible rfl))
              (try simp only [Act.put, List.setIfInBounds_toArray, List.set_cons_zero, List.set_cons_succ, List.getElem_toArray, List.getElem_cons_zero, List.getElem_cons_succ])
              refine wpAnyH_take (i := 14) (oi := _) (v := ?vz14_20) rfl (by kernel_rfl) (by kernel_rfl) (by kernel_rfl) (fun _ _ _ h => h) (Or.inl ⟨by rfl, ?hyz14_20⟩) (by assumption) ?restz14_20
              case hyz14_20 => (intro w hSw; (try dsimp only at hSw); (try simp only [List.getElem_toArray, List.getElem_cons_zero, List.getElem_cons_succ]); go_simp; (try with_reducible rfl))
              (try simp only [Act.put, List.setIfInBounds_toArray, List.set_cons_zero, List.set_cons_succ, List.getElem_toArray, List.getElem_cons_zero, List.getElem_cons_succ])
              refine wpAnyH_ready (rs := [18]) (by kernel_rfl) (by simp) ?_
              refine AllReadyH.cons (o := _) rfl (fun K hK => ?_) AllReadyH.nil
              · (try simp only [List.getElem_toArray, List.getElem_cons_zero, List.getElem_cons_succ])
                go_simp
                refine (esc_take p o B b1 A1 n1 c1 rs1 nx dd ch _ (HE1.out.keep ((Keep.refl (fun _ => False) wr).drew) (fun x => x)) (HA1.out.keep ((Keep.refl (fun _ => False) wr).drew) (fun _ _ x => x)) hpB hBr HC1.out.2.2 hb256 HC1.out.2.1 HD9.out (by omega)).mono ?_
                rintro e w3 ⟨A2, c2, rfl, h2, g2, k2⟩
                have HA2 := Lib.hid h2
                have HE2 := Lib.hid g2
                have K2 : Hid (PStep p o A1 wr A2 w3) := Lib.hid ⟨⟨k2.keep.os, k2.keep.tape, k2.keep.output, k2.keep.size, k2.keep.block⟩, k2.at', k2.out⟩
                have HRF : Hid (RulesAt w3 R true) := Lib.hid (R1.out.keep (HP1.out.trans K2.out).keep (fun e => e.elim (fun e => hRp e) (fun e => by simp [blk] at e)))
                clear h2 g2 k2
                refine hK.out _ _ ?_ (fun hHeld => ?_)
                · exact ⟨HR0.out w3 HRF.out, HR1.out w3 HRF.out⟩
                clear hK K
                (try simp only [Act.put, List.setIfInBounds_toArray, List.set_cons_zero, List.set_cons_succ, List.getElem_toArray, List.getElem_cons_zero, List.getElem_cons_succ])
                refine wpAnyH_take (i := 19) (oi := _) (v := ?vz19_21) rfl (by kernel_rfl) (by kernel_rfl) (by kernel_rfl) (fun _ _ _ h => h) (Or.inl ⟨by rfl, ?hyz19_21⟩) (by assumption) ?restz19_21
                case hyz19_21 => (intro w hSw; (try dsimp only at hSw); (try simp only [List.getElem_toArray, List.getElem_cons_zero, List.getElem_cons_succ]); go_simp; (try with_reducible rfl))
                (try simp only [Act.put, List.setIfInBounds_toArray, List.set_cons_zero, List.set_cons_succ, List.getElem_toArray, List.getElem_cons_zero, List.getElem_cons_succ])
                refine wpAnyH_done (by kernel_rfl) ?_ _
                refine NoPanic.normal ?_
                have HF4 : Hid (FedE p o B R b w1 (.slice A2 (n1 + (stepE b1 nx dd ch).2.length : Nat) c2) (preU ts k (j + 1)) w3) := by
                  show FedE _ _ _ _ _ _ _ _ _
                  rw [HN.out]
                  unfold FedE
                  rw [feedE_snoc, HST.out]
                  simp only
                  rw [HBE.out]
                  refine ⟨A2, _, c2, rfl, ?_, HA2.out, HE2.out, HP1.out.trans K2.out⟩
                  rw [List.length_append, HN1.out]
                clear hHeld
                go_wp2_with fail
                go_roundw
                case rel => exact ⟨j + 1, by go_num, by omega, HF4⟩
                case measure => simp [intOf]; omega
        · have ej : j = x.size := by omega
          have HF3 : Hid (FedE p o B R b w1 u6 (preU ts (k + 1) 0) wr) := by
            show FedE _ _ _ _ _ _ _ _ _
            rw [← preU_row HX.out, ← ej]; exact HF2.out
          clear ej
          go_wp2_with fail
          go_roundw
          case rel => exact ⟨k + 1, by go_num, by omega, HF3⟩
          case measure => simp [intOf]; omega
    · have ek : k = n := by omega
      have HF3 : Hid (FedE p o B R b w1 u6 (preU ts n 0) wo) := by
        show FedE _ _ _ _ _ _ _ _ _
        rw [← ek]; exact HF.out
      clear ek
      go_wp2_with fail
      go_ret
      exact ⟨R, B, _, w1, hwB, hwR, rfl, ⟨HC1'.out, R1.out, SW1.out⟩, HF3.out⟩

end Go.Proofs.YtnminmaklbhakaaGreatDoor
namespace Go.Proofs.YtnminmaklbhakaaGreatDoor
set_option linter.unusedVariables false
set_option linter.unusedSimpArgs false
open Go.RowKit

theorem ActsV.base {w : World} {B B2 : Nat} {A : Option Addr} {n c : Nat} {rs : List EAct} (h : ActsV w B A n c rs) (hb : B2 ≤ B) : ActsV w B2 A n c rs := by
  obtain ⟨ss, h⟩ := h
  exact ⟨ss, h.l, h.cnt, own_base h.row hb, fun x hx => own_base (h.nums x hx) hb, h.nd⟩

/-- What Feed answers. -/
def FeedTo (p o : Nat) (w : World) (x : BP × List EAct) (e : Ending) (w' : World) : Prop :=
  ∃ A' n' c', e = .returned (.slice A' n' c') ∧ n' = x.2.length ∧ ActsV w' w.heap.size A' n' c' x.2 ∧ EscAt w' p o x.1 ∧ KE p o w w'

theorem fed_at {p o B R : Nat} {b : BP} {q : PL} {w w1 w' : World} {v : Value} {l : List Nat} (hal : AlikeE b q) (hf : FedE p o B R b w1 v l w') (hB : w.heap.size ≤ B) (hRp : R ≠ p) (hr : Cell w1 p o (.pointer (some ⟨R, 0, none⟩))) (hR : RulesAt w1 R true)
    (hk : SpanP p o (o + 1) w w1) : FeedTo p o w (feedE b l) (.returned v) w' := by
  obtain ⟨A, n, c, rfl, hn, ha, he, hp⟩ := hf
  have kp : Keep (· = p) w1 w' := hp.keep.mono (fun _ _ e => e.elim id (fun e => by simp [blk] at e))
  refine ⟨A, n, c, rfl, hn, ha.base hB, ⟨he, .inr ⟨R, ⟨(hp.out o (by omega)).1.trans hr.1, (hp.out o (by omega)).2.trans hr.2⟩, hR.keep kp hRp, hRp⟩, ⟨_, (feed_alikeE l hal).1⟩⟩, ⟨hk.keep.trans kp (fun _ _ x => x), fun i hi => ?_⟩⟩
  exact ⟨(hp.out i (by omega)).1.trans (hk.out i (by omega)).1, (hp.out i (by omega)).2.trans (hk.out i (by omega)).2⟩

theorem esc_feed (p o : Nat) (b : BP) (A : Option Addr) (n c : Nat) (ts : List ByteArray) (w : World) (h : EscAt w p o b) (hs : Src w A n (ts.map Value.string)) (hA : 0 < n → blk A ≠ some p) (hn : n ≤ 100000000) (hsum : sum ts ≤ 100000000) (hcm : b.came ≤ 100000000) :
    Calls Tryz.prog 27 #[.pointer (some ⟨p, o, none⟩), .slice A n c] w (FeedTo p o w (feedsE b ts)) := by
  obtain ⟨q, hal⟩ := h.al
  have hl : ts.length = n := by have := hs.1; rwa [List.length_map] at this
  have hpre : feedE b (preU ts n 0) = feedsE b ts := by rw [← hl, preU_end]; rfl
  rw [← hpre]
  rcases h.r with hr | ⟨R, hr, hR, hRp⟩
  · refine (esc_feed_first p o b q hal A n c ts w h.c hr hs hA hn hsum hcm).mono ?_
    rintro e w' ⟨R, B, v, w1, hB, hRw, rfl, ⟨hr1, hR1, hk⟩, hf⟩
    exact fed_at hal hf hB (by have := h.lt; omega) hr1 hR1 hk
  · refine (esc_feed_made p o R b q hal A n c ts w h.c hr hR hRp hs hA hn hsum hcm).mono ?_
    rintro e w' ⟨B, v, w1, hB, rfl, hk, hf⟩
    exact fed_at hal hf hB hRp (hr.keep hk (fun x => x)) (hR.keep hk (fun x => x)) ⟨hk.mono (fun _ _ x => x.elim), fun i _ => ⟨hk.cell (p := ⟨p, i, none⟩) h.lt (fun x => x), hk.frozen (p := ⟨p, i, none⟩) h.lt (fun x => x)⟩⟩

/-- A new Parser. -/
def parserCs : Array Value := #[.pointer none, .int .u8 0, .int .i32 0, .int .i64 0, .int .i64 0, .int .u8 0, .int .u8 0, .int .i64 0, .string ⟨#[]⟩, .int .i64 0, .int .i64 0, .int .i64 0, .int .i64 0, .int .i64 0, .int .i64 0, .int .i64 0, .int .i64 0, .int .i64 0, .string ⟨#[]⟩]
theorem esc_new (w : World) : EscAt (w.alloc (.cells parserCs 67)) w.heap.size 0 .z := by
  have k : ∀ i v, parserCs[i]? = some v → Cell (w.alloc (.cells parserCs 67)) w.heap.size i v := fun i v hv => Cell.box i hv
  refine ⟨⟨k 1 _ rfl, ⟨k 2 _ rfl, k 3 _ rfl, k 4 _ rfl, k 5 _ rfl, k 6 _ rfl, .z⟩, ⟨k 7 _ rfl, k 8 _ rfl, ⟨fun i hi => ?_, k 17 _ rfl, rfl, by simp [BP.z]⟩, k 18 _ rfl⟩⟩, .inl (k 0 _ rfl), ⟨_, AlikeE.z⟩⟩
  rcases i with _ | _ | _ | _ | _ | _ | _ | _ | i
  · exact k 9 _ rfl
  · exact k 10 _ rfl
  · exact k 11 _ rfl
  · exact k 12 _ rfl
  · exact k 13 _ rfl
  · exact k 14 _ rfl
  · exact k 15 _ rfl
  · exact k 16 _ rfl
  · omega

/-- Feed of texts that were just laid. -/
theorem esc_feed_new (p o : Nat) (b : BP) (ts : List ByteArray) (us : Array Value) (w : World) (h : EscAt w p o b) (hu : us = (ts.map Value.string).toArray) (hn : ts.length ≤ 100000000) (hsum : sum ts ≤ 100000000) (hcm : b.came ≤ 100000000) (n : Nat) (hnn : ts.length = n) :
    Calls Tryz.prog 27 #[.pointer (some ⟨p, o, none⟩), .slice (some ⟨w.heap.size, 0, none⟩) n n] (w.alloc (.cells us 9)) (FeedTo p o (w.alloc (.cells us 9)) (feedsE b ts)) := by
  subst hnn hu
  exact esc_feed p o b _ ts.length ts.length ts _ (h.alloc _) (src_new w (ts.map Value.string) 9 _ rfl _ (by simp)) (fun _ e => by have := h.lt; simp [blk] at e; omega) hn hsum hcm

end Go.Proofs.YtnminmaklbhakaaGreatDoor
namespace Go.Proofs.YtnminmaklbhakaaGreatDoor
set_option linter.unusedVariables false
set_option linter.unusedSimpArgs false
open Go.RowKit

theorem byteP_0_27 : byteP (pAt 0) 27 = (pAt 1, []) := by kernel_rfl
theorem byteP_1_91 : byteP (pAt 1) 91 = (pAt 2, []) := by kernel_rfl
theorem byteP_1_93 : byteP (pAt 1) 93 = (pAt 3, []) := by kernel_rfl
theorem byteP_1_80 : byteP (pAt 1) 80 = (pAt 4, []) := by kernel_rfl
theorem open_csi (l : List Nat) : feedP (pAt 0) (27 :: 91 :: l) = feedP (pAt 2) l := by
  rw [feedP_cons, byteP_0_27, feedP_cons, byteP_1_91]; simp
theorem open_esc (l : List Nat) : feedP (pAt 0) (27 :: l) = feedP (pAt 1) l := by
  rw [feedP_cons, byteP_0_27]; simp

/-- Digits leave a csi one. -/
theorem csi_digits (l : List Nat) (h : ∀ c ∈ l, 48 ≤ c ∧ c ≤ 57) : ∀ p : PL, p.st = 2 → (feedP p l).1.st = 2 ∧ (feedP p l).2 = [] := by
  induction l with
  | nil => intro p hp; exact ⟨hp, rfl⟩
  | cons c r ih =>
    intro p hp
    obtain ⟨h1, h2⟩ := h c (by simp)
    have hb : (byteP p c).1.st = 2 ∧ (byteP p c).2 = [] := by
      rw [byteP_csi p hp c (by omega) (by omega)]
      unfold csiP
      rw [if_neg (by omega), if_neg (by omega)]
      split
      · exact ⟨hp, rfl⟩
      · exact ⟨hp, rfl⟩
    have hr := ih (fun x hx => h x (by simp [hx])) _ hb.1
    rw [feedP_cons, hb.2]
    exact ⟨hr.1, by simp [hr.2]⟩

/-- The end of a csi that is not wrong. -/
theorem csi_end (p : PL) (hs : p.st = 2) (hw : p.wrong = false) (c : Nat) (h1 : 64 ≤ c) (h2 : c ≤ 126) : byteP p c = (pAt 0, [eCsi p.mark (p.nums.take 8) p.inter c]) := by
  rw [byteP_csi p hs c (by omega) (by omega)]
  unfold csiP
  rw [if_neg (by omega), if_neg (by omega), if_neg (by omega), if_neg (by omega), if_neg (by omega), hw]
  rfl
theorem csi_end_wrong (p : PL) (hs : p.st = 2) (hw : p.wrong = true) (c : Nat) (h1 : 64 ≤ c) (h2 : c ≤ 126) : byteP p c = (pAt 0, []) := by
  rw [byteP_csi p hs c (by omega) (by omega)]
  unfold csiP
  rw [if_neg (by omega), if_neg (by omega), if_neg (by omega), if_neg (by omega), if_neg (by omega), hw]
  rfl
theorem esc_end (p : PL) (hs : p.st = 1) (hw : p.wrong = false) (c : Nat) (h1 : 64 ≤ c) (h2 : c ≤ 126) (hn : p.inter = [] → c ≠ 91 ∧ c ≠ 93 ∧ c ≠ 80) : byteP p c = (pAt 0, [eEscape p.inter c]) := by
  rw [byteP_esc p hs c (by omega) (by omega)]
  unfold escP
  rw [if_neg (by omega), if_neg (fun e => (hn e.2).1 e.1), if_neg (fun e => (hn e.2).2.1 e.1), if_neg (fun e => (hn e.2).2.2 e.1), hw]
  rfl
theorem esc_end_wrong (p : PL) (hs : p.st = 1) (hw : p.wrong = true) (c : Nat) (h1 : 64 ≤ c) (h2 : c ≤ 126) (hn : p.inter ≠ []) : byteP p c = (pAt 0, []) := by
  rw [byteP_esc p hs c (by omega) (by omega)]
  unfold escP
  rw [if_neg (by omega), if_neg (fun e => hn e.2), if_neg (fun e => hn e.2), if_neg (fun e => hn e.2), hw]
  rfl

theorem csi_tells (n : Nat) (hn : n ≤ 9999) : feedP (pAt 2) (decN n ++ [65]) = (pAt 0, [eCsi 0 [(n : Int)] [] 65]) := by
  rw [feedP_add, csi_number (pAt 2) rfl rfl [] rfl n, feedP_one]
  have h := csi_end { pAt 2 with first := false, any := true, nums := [] ++ [min (n : Int) 9999] } rfl rfl 65 (by omega) (by omega)
  simp only [h]
  have e : min (n : Int) 9999 = n := by omega
  simp [e, pAt]

def ctlL (n : Nat) : List Nat := 27 :: 91 :: (decN n ++ [65])
theorem ctl_whole (n : Nat) (hn : n ≤ 9999) : feedP (pAt 0) (ctlL n) = (pAt 0, [eCsi 0 [(n : Int)] [] 65]) := by
  unfold ctlL; rw [open_csi, csi_tells n hn]

theorem ctl_state (n k : Nat) (h1 : 1 ≤ k) (h2 : k < (ctlL n).length) : ((feedP (pAt 0) ((ctlL n).take k)).1.st = 1 ∨ (feedP (pAt 0) ((ctlL n).take k)).1.st = 2) ∧ (feedP (pAt 0) ((ctlL n).take k)).2 = [] := by
  unfold ctlL at *
  obtain ⟨j, rfl⟩ : ∃ j, k = j + 1 := ⟨k - 1, by omega⟩
  rcases j with _ | j
  · simp only [List.take_succ_cons, List.take_zero]
    rw [feedP_one, byteP_0_27]
    exact ⟨.inl rfl, rfl⟩
  · simp only [List.take_succ_cons]
    simp at h2
    rw [open_csi, List.take_append_of_le_length (by omega)]
    have := csi_digits ((decN n).take j) (fun c hc => decN_mem n c (List.mem_of_mem_take hc)) (pAt 2) rfl
    exact ⟨.inr this.1, this.2⟩

theorem control_fed (n c k : Nat) (hn : n ≤ 9999) (hc : c < 32) (h24 : c ≠ 24) (h26 : c ≠ 26) (h27 : c ≠ 27) (h1 : 1 ≤ k) (h2 : k < (ctlL n).length) :
    feedP (pAt 0) ((ctlL n).take k ++ ([c, 127] ++ (ctlL n).drop k)) = (pAt 0, [eControl c, eCsi 0 [(n : Int)] [] 65]) := by
  obtain ⟨hs, ha⟩ := ctl_state n k h1 h2
  have hw := ctl_whole n hn
  rw [← List.take_append_drop k (ctlL n), feedP_add, ha] at hw
  rw [feedP_add, ha]
  generalize (feedP (pAt 0) ((ctlL n).take k)).1 = q at *
  have e1 : (feedP q ((ctlL n).drop k)) = (pAt 0, [eCsi 0 [(n : Int)] [] 65]) := by
    have a := congrArg Prod.fst hw
    have b := congrArg Prod.snd hw
    simp at a b
    exact Prod.ext a b
  rw [List.cons_append, List.cons_append, List.nil_append, feedP_cons, byteP_control q hs c hc h24 h26 h27, feedP_cons, byteP_127 q hs, e1]
  rfl

/-- Bytes between. -/
theorem inters_fed (s : Nat) (hs : s = 1 ∨ s = 2) (b : Nat) (h1 : 32 ≤ b) (h2 : b ≤ 47) (n : Nat) :
    feedP (pAt s) (List.replicate n b) = ({ pAt s with first := decide (s = 2 ∧ n = 0), inter := List.replicate (min n 2) b, wrong := decide (2 < n) }, []) := by
  induction n with
  | zero => rcases hs with rfl | rfl <;> rfl
  | succ n ih =>
    rw [List.replicate_succ', feedP_add, ih, feedP_one]
    have hb : ∀ p : PL, p.st = s → byteP p b = (({ p with first := if s = 2 then false else p.first } : PL).more b, []) := fun p hp => by
      rcases hs with rfl | rfl
      · rw [byteP_esc p hp b (by omega) (by omega)]
        unfold escP
        rw [if_pos (by omega)]
        rfl
      · rw [byteP_csi p hp b (by omega) (by omega)]
        unfold csiP
        rw [if_pos (by omega)]
        rfl
    simp only
    rw [hb _ rfl]
    unfold PL.more
    by_cases hn : 2 ≤ n
    · have e1 : min n 2 = 2 := by omega
      have e2 : min (n + 1) 2 = 2 := by omega
      have e3 : (decide (2 < n + 1)) = true := by simp; omega
      rw [if_pos (by simp [e1])]
      rcases hs with rfl | rfl <;> simp [pAt, e1, e2, e3]
      all_goals omega
    · have e1 : min n 2 = n := by omega
      have e2 : min (n + 1) 2 = n + 1 := by omega
      have e3 : (decide (2 < n + 1)) = false := by simp; omega
      have e4 : (decide (2 < n)) = false := by simp; omega
      rw [if_neg (by simp [e1]; omega)]
      rcases hs with rfl | rfl <;> simp [pAt, e1, e2, e3, e4, ← List.replicate_succ']
      all_goals omega

theorem plain_107 : byteP (pAt 0) 107 = (pAt 0, [ePrint 107]) := byteP_plain 107 (by omega) (by omega)

/-- What an escape says, and a csi without numbers. -/
def interAct (csi : Bool) (i : List Nat) (f : Nat) : EAct := if csi = true then eCsi 0 [] i f else eEscape i f
theorem inter_fed (csi : Bool) (b f n : Nat) (h1 : 32 ≤ b) (h2 : b ≤ 47) (h3 : 64 ≤ f) (h4 : f ≤ 126) (hf : csi = false → n = 0 → f ≠ 91 ∧ f ≠ 93 ∧ f ≠ 80) :
    feedP (pAt 0) ((if csi = true then [27, 91] else [27]) ++ (List.replicate n b ++ ([f] ++ [107]))) = (pAt 0, (if 2 < n then [] else [interAct csi (List.replicate n b) f]) ++ [ePrint 107]) := by
  have key : ∀ s, s = 1 ∨ s = 2 → (s = 1 → n = 0 → f ≠ 91 ∧ f ≠ 93 ∧ f ≠ 80) → feedP (pAt s) (List.replicate n b ++ ([f] ++ [107])) = (pAt 0, (if 2 < n then [] else [interAct (decide (s = 2)) (List.replicate n b) f]) ++ [ePrint 107]) := by
    intro s hs hf
    obtain ⟨q, hq, q1, q2, q3, q4, q5⟩ : ∃ q, feedP (pAt s) (List.replicate n b) = (q, []) ∧ q.st = s ∧ q.inter = List.replicate (min n 2) b ∧ q.wrong = decide (2 < n) ∧ q.mark = 0 ∧ q.nums = [] := ⟨_, inters_fed s hs b h1 h2 n, rfl, rfl, rfl, rfl, rfl⟩
    rw [feedP_add, hq, feedP_add, feedP_one, feedP_one]
    by_cases hn : 2 < n
    · have e1 : min n 2 = 2 := by omega
      have hw : q.wrong = true := by rw [q3]; exact decide_eq_true hn
      have hi : q.inter ≠ [] := by rw [q2, e1]; simp
      rcases hs with rfl | rfl
      · rw [esc_end_wrong q q1 hw f h3 h4 hi, if_pos hn]
        show ((byteP (pAt 0) 107).1, [] ++ ([] ++ (byteP (pAt 0) 107).2)) = _
        rw [plain_107]; rfl
      · rw [csi_end_wrong q q1 hw f h3 h4, if_pos hn]
        show ((byteP (pAt 0) 107).1, [] ++ ([] ++ (byteP (pAt 0) 107).2)) = _
        rw [plain_107]; rfl
    · have e1 : min n 2 = n := by omega
      have hw : q.wrong = false := by rw [q3]; exact decide_eq_false hn
      rw [e1] at q2
      rcases hs with rfl | rfl
      · rw [esc_end q q1 hw f h3 h4 (fun e => hf rfl (by rw [q2] at e; simpa using e)), if_neg hn, q2]
        show ((byteP (pAt 0) 107).1, [] ++ ([eEscape (List.replicate n b) f] ++ (byteP (pAt 0) 107).2)) = _
        rw [plain_107]; rfl
      · rw [csi_end q q1 hw f h3 h4, if_neg hn, q2, q4, q5]
        show ((byteP (pAt 0) 107).1, [] ++ ([eCsi 0 (List.take 8 []) (List.replicate n b) f] ++ (byteP (pAt 0) 107).2)) = _
        rw [plain_107]; rfl
  cases csi with
  | true =>
    rw [if_pos rfl, List.cons_append, List.cons_append, List.nil_append, open_csi]
    exact key 2 (.inr rfl) (fun e => by omega)
  | false =>
    rw [if_neg (by simp), List.cons_append, List.nil_append, open_esc]
    exact key 1 (.inl rfl) (fun _ => hf rfl)

end Go.Proofs.YtnminmaklbhakaaGreatDoor
