/- emu: reset, New. By program (rgn/XEmuN.py). Own work. -/
import Derived.Test.YtnminmaklbhakaaGreatDoorEmuS
namespace Go.Proofs.YtnminmaklbhakaaGreatDoor
set_option linter.unusedVariables false
set_option linter.unusedSimpArgs false
open Go.RowKit

/-- All cells of block e were set. -/
theorem EmR.made {V : World} {e : Nat} (pv : Nat → Value) (L : Loc) (m : EmM) (hc : ∀ j, j < 50 → (V.cell? ⟨e, j, none⟩).isSome = true ∧ V.frozen? ⟨e, j, none⟩ = false) (gm : GridAt V L.p L.g L.c m.W m.H (m.W * m.H) m.F) (sp : StopsAt V L.sp L.sg m.W L.sc m.stops) (hO : m.O = none) (ho : L.oth = none)
    (nd : (L.bl e).Nodup) (ok : m.Ok) (us : List Value) (hus : us = (List.range 19).map pv ++ (.pointer (some ⟨L.p, 0, none⟩) :: .pointer none :: .pointer (some ⟨L.sp, 0, none⟩) :: m.cs)) :
    EmR (V.setCells e 0 us) e L m ∧ (∀ i, i < 19 → (V.setCells e 0 us).cell? ⟨e, i, none⟩ = some (pv i) ∧ (V.setCells e 0 us).frozen? ⟨e, i, none⟩ = false) ∧ Keep (· = e) V (V.setCells e 0 us) := by
  have hl : us.length = 50 := by rw [hus]; simp [m.cs_len]
  have k : Keep (· = e) V (V.setCells e 0 us) := keep_setCells (S := fun x => x = e) e (fun _ => rfl) _ _ _ (Keep.refl _ V)
  have hat : ∀ i, i < 50 → ∀ v, us[i]? = some v → Cell (V.setCells e 0 us) e i v := fun i hi v hv => by
    refine ⟨?_, (World.frozen?_setCells _ _ _ _ _).trans (hc i hi).2⟩
    have := World.cell?_setCells_in e us 0 V (fun j hj => by rw [Nat.zero_add]; exact (hc j (by omega)).1) i (by omega)
    rw [Nat.zero_add] at this
    rw [this]
    rw [List.getElem?_eq_getElem (by omega)] at hv
    exact hv
  have nd' := nd
  simp only [Loc.bl, List.nodup_cons, List.mem_cons, not_or] at nd
  obtain ⟨⟨n1, n2, n3, n4, n5⟩, -⟩ := nd
  have low : ∀ i, i < 19 → us[i]? = some (pv i) := fun i hi => by rw [hus, List.getElem?_append_left (by simp; omega)]; simp [hi]
  have hi' : ∀ i, us[19 + i]? = (.pointer (some ⟨L.p, 0, none⟩) :: .pointer none :: .pointer (some ⟨L.sp, 0, none⟩) :: m.cs)[i]? := fun i => by rw [hus, List.getElem?_append_right (by simp)]; congr 1; simp
  refine ⟨⟨⟨hat 19 (by omega) _ (hi' 0), gm.keep k (fun x => n1 x.symm) (fun x => n2 x.symm), .inl ⟨ho, hO, hat 20 (by omega) _ (hi' 1)⟩, hat 21 (by omega) _ (hi' 2), sp.keep k (fun x => n3 x.symm) (fun x => n4 x.symm), nd'⟩, fun i v hv => ?_, ok⟩, fun i hi => hat i (by omega) _ (low i hi), k⟩
  have hlt : i < 28 := by
    rcases Nat.lt_or_ge i 28 with x | x
    · exact x
    · rw [List.getElem?_eq_none (by rw [m.cs_len]; exact x)] at hv; cases hv
  refine hat (22 + i) (by omega) v ?_
  have := hi' (3 + i)
  rw [← Nat.add_assoc] at this
  rw [this, show 3 + i = i + 1 + 1 + 1 by omega]
  exact hv

/-- What a new Emu, or one that was reset, is. -/
def ResetTo (w : World) (e W H : Nat) (pv : Nat → Value) (w' : World) : Prop :=
  ∃ L, EmR w' e L (EmM.new W H) ∧ (∀ i, i < 19 → w'.cell? ⟨e, i, none⟩ = some (pv i) ∧ w'.frozen? ⟨e, i, none⟩ = false) ∧ Keep (· = e) w w' ∧ ∀ i, L.T e i → i = e ∨ w.heap.size ≤ i
theorem reset_list (pv : Nat → Value) (p sp W H : Nat) : ([pv 0, pv 1, pv 2, pv 3, pv 4, pv 5, pv 6, pv 7, pv 8, pv 9, pv 10, pv 11, pv 12, pv 13, pv 14, pv 15, pv 16, pv 17, pv 18, .pointer (some ⟨p, 0, none⟩), .pointer none, .pointer (some ⟨sp, 0, none⟩), .int .i64 0, .int .i64 (H : Int), .int .i64 0, .int .i64 0, .int .i64 0, .int .i64 0, .bool false, .bool false, .bool false, .bool false, .int .u8 66, .int .u8 66, .int .i64 0, .int .i64 0, .int .i64 0, .int .i64 0, .int .i64 0, .bool false, .bool false, .bool false, .bool false, .int .u8 66, .int .u8 66, .int .i64 0, .bool false, .bool false, .bool true, .bool false] : List Value) = (List.range 19).map pv ++ (.pointer (some ⟨p, 0, none⟩) :: .pointer none :: .pointer (some ⟨sp, 0, none⟩) :: (EmM.new W H).cs) := rfl
theorem reset_fin {w V : World} {e W H p g sp sg : Nat} {pv : Nat → Value} (K : Keep (fun _ => False) w V) (he : e < w.heap.size) (hc : ∀ j, j < 50 → (w.cell? ⟨e, j, none⟩).isSome = true ∧ w.frozen? ⟨e, j, none⟩ = false) (hg : GridAt V p g (W * H) W H (W * H) (fun _ => blankC)) (hs : StopsAt V sp sg W W (newL W))
    (h1 : w.heap.size ≤ g ∧ g < p ∧ p < sg ∧ sg < sp) (hw : 2 ≤ W ∧ W ≤ 40) (hh : 1 ≤ H ∧ H ≤ 20) : ResetTo w e W H pv (V.setCells e 0 [pv 0, pv 1, pv 2, pv 3, pv 4, pv 5, pv 6, pv 7, pv 8, pv 9, pv 10, pv 11, pv 12, pv 13, pv 14, pv 15, pv 16, pv 17, pv 18, .pointer (some ⟨p, 0, none⟩), .pointer none, .pointer (some ⟨sp, 0, none⟩), .int .i64 0, .int .i64 (H : Int), .int .i64 0, .int .i64 0, .int .i64 0, .int .i64 0, .bool false, .bool false, .bool false, .bool false, .int .u8 66, .int .u8 66, .int .i64 0, .int .i64 0, .int .i64 0, .int .i64 0, .int .i64 0, .bool false, .bool false, .bool false, .bool false, .int .u8 66, .int .u8 66, .int .i64 0, .bool false, .bool false, .bool true, .bool false]) := by
  have h := EmR.made (V := V) (e := e) pv ⟨p, g, W * H, sp, sg, W, none⟩ (EmM.new W H) (fun j hj => ⟨by rw [K.cell (p := ⟨e, j, none⟩) he (fun x => x)]; exact (hc j hj).1, (K.frozen (p := ⟨e, j, none⟩) he (fun x => x)).trans (hc j hj).2⟩) hg hs rfl rfl (by simp [Loc.bl, Loc.ob]; omega) (EmM.Ok.new hw.1 hw.2 hh.1 hh.2) _ (reset_list pv p sp W H)
  refine ⟨_, h.1, h.2.1, (K.mono (fun _ _ x => x.elim)).trans h.2.2 (fun i hi x => x), ?_⟩
  intro i hi
  simp [Loc.T, Loc.bl, Loc.ob] at hi
  omega
theorem reset_info : (Tryz.prog.info? 74).map (·.size) = some 50 := by kernel_rfl
theorem load_parser (V : World) (e : Nat) (cs : List Value) (hl : cs.length = 19) (h : ∀ j v, cs[j]? = some v → V.cell? ⟨e, j, none⟩ = some v) : (Instr.loadAt 67 (.pointer (some ⟨e, 0, none⟩))).run Tryz.prog V = .ok (.agg cs.toArray) V := by
  have hr := run_loadCells_list (P := Tryz.prog) (w := V) ⟨e, 0, none⟩ cs (fun j v hv => by rw [show (⟨e, 0, none⟩ : Addr).add j = ⟨e, j, none⟩ from by simp [Addr.add]; omega]; exact h j v hv)
  rw [hl] at hr
  simp [Instr.loadAt, Instr.sureAddr, loadVar, Tryz.isAgg67, Tryz.sizeOf67, hr]
theorem load_stance (V : World) (q : Nat) (cs : List Value) (hl : cs.length = 11) (h : ∀ j v, cs[j]? = some v → V.cell? ⟨q, j, none⟩ = some v) : (Instr.loadAt 72 (.pointer (some ⟨q, 0, none⟩))).run Tryz.prog V = .ok (.agg cs.toArray) V := by
  have hr := run_loadCells_list (P := Tryz.prog) (w := V) ⟨q, 0, none⟩ cs (fun j v hv => by rw [show (⟨q, 0, none⟩ : Addr).add j = ⟨q, j, none⟩ from by simp [Addr.add]; omega]; exact h j v hv)
  rw [hl] at hr
  simp [Instr.loadAt, Instr.sureAddr, loadVar, Tryz.isAgg72, Tryz.sizeOf72, hr]
def freshCs : List Value := [.int .i64 0, .int .i64 0, .int .i64 0, .int .i64 0, .bool false, .bool false, .bool false, .bool false, .int .u8 66, .int .u8 66, .int .i64 0]
theorem reset_built (p0 p1 p2 p3 p4 p5 p6 p7 p8 p9 p10 p11 p12 p13 p14 p15 p16 p17 p18 : Value) (p sp H : Nat) : Tryz.prog.built 74 [(0, .agg #[p0, p1, p2, p3, p4, p5, p6, p7, p8, p9, p10, p11, p12, p13, p14, p15, p16, p17, p18]), (1, .pointer (some ⟨p, 0, none⟩)), (3, .pointer (some ⟨sp, 0, none⟩)), (5, .int .i64 (H : Int)), (6, .agg freshCs.toArray), (7, .agg freshCs.toArray), (10, .bool true)] = some ([p0, p1, p2, p3, p4, p5, p6, p7, p8, p9, p10, p11, p12, p13, p14, p15, p16, p17, p18, .pointer (some ⟨p, 0, none⟩), .pointer none, .pointer (some ⟨sp, 0, none⟩), .int .i64 0, .int .i64 (H : Int)] ++ freshCs ++ freshCs ++ [Value.bool false, .bool false, .bool true, .bool false] : List Value).toArray := by kernel_rfl
def bigL (pv : Nat → Value) (p sp H : Nat) : List Value := [pv 0, pv 1, pv 2, pv 3, pv 4, pv 5, pv 6, pv 7, pv 8, pv 9, pv 10, pv 11, pv 12, pv 13, pv 14, pv 15, pv 16, pv 17, pv 18, .pointer (some ⟨p, 0, none⟩), .pointer none, .pointer (some ⟨sp, 0, none⟩), .int .i64 0, .int .i64 (H : Int)] ++ freshCs ++ freshCs ++ [Value.bool false, .bool false, .bool true, .bool false]
def parL (pv : Nat → Value) : List Value := [pv 0, pv 1, pv 2, pv 3, pv 4, pv 5, pv 6, pv 7, pv 8, pv 9, pv 10, pv 11, pv 12, pv 13, pv 14, pv 15, pv 16, pv 17, pv 18]
theorem big_built (pv : Nat → Value) (p sp H : Nat) : Tryz.prog.built 74 [(0, .agg (parL pv).toArray), (1, .pointer (some ⟨p, 0, none⟩)), (3, .pointer (some ⟨sp, 0, none⟩)), (5, .int .i64 (H : Int)), (6, .agg freshCs.toArray), (7, .agg freshCs.toArray), (10, .bool true)] = some (bigL pv p sp H).toArray := reset_built _ _ _ _ _ _ _ _ _ _ _ _ _ _ _ _ _ _ _ p sp H
theorem par_at (pv : Nat → Value) : ∀ j v, (parL pv)[j]? = some v → j < 19 ∧ v = pv j := by
  intro j v h
  have e : parL pv = (List.range 19).map pv := rfl
  rw [e] at h
  have hj : j < 19 := by
    rcases Nat.lt_or_ge j 19 with x | x
    · exact x
    · rw [List.getElem?_eq_none (by simp; omega)] at h; cases h
  simp [hj] at h
  exact ⟨hj, h.symm⟩
theorem big_one (pv : Nat → Value) (p sp H : Nat) (h : ∀ i, i < 19 → (pv i).oneCell' = true) : (bigL pv p sp H).toArray.all (·.oneCell') = true := by
  have hb : ∀ b, (Value.bool b).oneCell' = true := fun _ => rfl
  have hi : ∀ k n, (Value.int k n).oneCell' = true := fun _ _ => rfl
  have hp : ∀ a, (Value.pointer a).oneCell' = true := fun _ => rfl
  simp [bigL, freshCs, hb, hi, hp, h]

set_option maxRecDepth 100000 in
set_option maxHeartbeats 3200000 in
theorem emu_reset (w : World) (e : Nat) (x y : Int) (W H : Nat) (pv : Nat → Value) (hW : min (max x 2) 40 = (W : Int)) (hH : min (max y 1) 20 = (H : Int)) (hc : ∀ j, j < 50 → (w.cell? ⟨e, j, none⟩).isSome = true ∧ w.frozen? ⟨e, j, none⟩ = false) (hp : ∀ i, i < 19 → w.cell? ⟨e, i, none⟩ = some (pv i)) (hpo : ∀ i, i < 19 → (pv i).oneCell' = true) (he : e < w.heap.size) :
    Calls Tryz.prog 19 #[.pointer (some ⟨e, 0, none⟩), .int .i64 x, .int .i64 y] w fun v w' => v = .returned (.tuple #[]) ∧ ResetTo w e W H pv w' := by
  have HN := Lib.hid (grid_new w x y W H (W * H) hW hH rfl)
  have HC := Lib.hid hc
  have HP := Lib.hid hp
  have HPO := Lib.hid hpo
  have hw2 : 2 ≤ W ∧ W ≤ 40 := by omega
  have hh2 : 1 ≤ H ∧ H ≤ 20 := by omega
  clear hc hp hpo hW hH
  go_enter Tryz.func19, Tryz.ntmps19
  go_wp2_with fail
  refine HN.out.mono ?_
  rintro v w1 ⟨rfl, hg1, hb1⟩
  have HG1 := Lib.hid hg1
  have HB1 := Lib.hid hb1
  clear hg1 hb1 HN
  go_upto_region 2 with fail
  obtain ⟨w2, hw2'⟩ : ∃ w2, w2 = w1.alloc (.cells #[.int .i64 0, .int .i64 0, .int .i64 0, .int .i64 0, .bool false, .bool false, .bool false, .bool false, .int .u8 66, .int .u8 66, .int .i64 0] 72) := ⟨_, rfl⟩
  have hq2 : w2.heap[w1.heap.size]? = some (.cells #[.int .i64 0, .int .i64 0, .int .i64 0, .int .i64 0, .bool false, .bool false, .bool false, .bool false, .int .u8 66, .int .u8 66, .int .i64 0] 72 (0, 0)) := by rw [hw2']; exact heap_alloc_new _ _
  have K1 : Hid (Keep (fun _ => False) w w1) := Lib.hid (Keep.of_below _ HB1.out)
  have K12 : Hid (Keep (fun _ => False) w1 w2) := Lib.hid (by rw [hw2']; exact (Keep.refl _ w1).alloc _)
  have K2 : Hid (Keep (fun _ => False) w w2) := Lib.hid (K1.out.trans K12.out (fun _ _ x => x))
  rw [← hw2']
  clear hw2'
  have hqs : w.heap.size + 1 < w1.heap.size := HG1.out.lt
  obtain ⟨p, hpq⟩ : ∃ p, p = w.heap.size + 1 := ⟨_, rfl⟩
  obtain ⟨g, hgq⟩ : ∃ g, g = w.heap.size := ⟨_, rfl⟩
  obtain ⟨q, hqq⟩ : ∃ q, q = w1.heap.size := ⟨_, rfl⟩
  rw [← hpq, ← hgq] at HG1
  rw [← hqq] at hq2
  rw [← hpq, ← hqq]
  have HPG : Hid (p = w.heap.size + 1 ∧ g = w.heap.size ∧ p < q ∧ q < w2.heap.size ∧ w.heap.size ≤ w2.heap.size) := Lib.hid ⟨hpq, hgq, by omega, lt_heap hq2, K2.out.size⟩
  have HQ2 := Lib.hid hq2
  clear hpq hgq hqq hq2 hqs
  have heq : e ≠ q := by have := HPG.out; omega
  have LP : Hid (∀ V, (Keep (fun i => i = e) w2 V ∧ ∀ j, j < 19 → V.cell? ⟨e, j, none⟩ = some (pv j)) → (Instr.loadAt 67 (.pointer (some ⟨e, 0, none⟩))).run Tryz.prog V = .ok (.agg (parL pv).toArray) V) := Lib.hid (fun V k => load_parser V e (parL pv) rfl (fun j v hv => by
    obtain ⟨h1, rfl⟩ := par_at pv j v hv
    exact k.2 j h1))
  have LS : Hid (∀ V, (Keep (fun i => i = e) w2 V ∧ ∀ j, j < 19 → V.cell? ⟨e, j, none⟩ = some (pv j)) → (Instr.loadAt 72 (.pointer (some ⟨q, 0, none⟩))).run Tryz.prog V = .ok (.agg freshCs.toArray) V) := Lib.hid (fun V k => load_stance V q freshCs rfl (fun j v hv => (cell_at (k.1.heap HQ2.out (fun x => heq x.symm)) j).trans (by simpa [freshCs] using hv)))
  have H1 := Lib.hid (big_one pv p (w2.heap.size + 1) H HPO.out)
  have HBB := Lib.hid (big_built pv p (w2.heap.size + 1) H)
  have HSZ : Hid ((bigL pv p (w2.heap.size + 1) H).toArray.size = 50) := Lib.hid rfl
  have HCS : Hid (∀ j, j < 19 → (bigL pv p (w2.heap.size + 1) H).toArray.toList[j]? = some (pv j)) := Lib.hid (fun j hj => by
    have e1 : (bigL pv p (w2.heap.size + 1) H).toArray.toList = (List.range 19).map pv ++ (.pointer (some ⟨p, 0, none⟩) :: .pointer none :: .pointer (some ⟨(w2.heap.size + 1), 0, none⟩) :: (EmM.new W H).cs) := reset_list pv p (w2.heap.size + 1) W H
    rw [e1, List.getElem?_append_left (by simp; omega)]
    simp [hj])
  have HFI : Hid (∀ (V : World) sg, Keep (fun _ => False) w2 V → StopsAt V (w2.heap.size + 1) sg W W (newL W) → w2.heap.size ≤ sg ∧ sg < (w2.heap.size + 1) → ResetTo w e W H pv (V.setCells e 0 (bigL pv p (w2.heap.size + 1) H).toArray.toList)) := Lib.hid (fun V sg k hs hh => by
    have hpg := HPG.out
    have := reset_fin (pv := pv) (K2.out.trans k (fun _ _ x => x)) he HC.out (HG1.out.keep0 (K12.out.trans k (fun _ _ x => x))) hs (by omega) hw2 hh2
    exact this)
  have HSW : Hid (∀ V, Keep (fun _ => False) w2 V → (Keep (fun i => i = e) w2 V ∧ ∀ j, j < 19 → V.cell? ⟨e, j, none⟩ = some (pv j))) := Lib.hid (fun V k => ⟨k.mono (fun _ _ x => x.elim), fun j hj => ((K2.out.trans k (fun _ _ x => x)).cell (p := ⟨e, j, none⟩) he (fun x => x)).trans (HP.out j hj)⟩)
  generalize (parL pv).toArray = PC at *
  generalize freshCs.toArray = SC at *
  generalize (bigL pv p (w2.heap.size + 1) H).toArray = BIG at *
  have HW : Hid (∀ V, Keep (fun _ => False) w2 V → Calls Tryz.prog 24 #[.pointer (some ⟨p, 0, none⟩)] V fun v w' => v = .returned (.int .i64 (W : Int)) ∧ w' = V) := Lib.hid (fun V k => grid_W V _ _ _ _ _ _ _ (HG1.out.keep0 (K12.out.trans k (fun _ _ x => x))))
  have HH : Hid (∀ V, Keep (fun _ => False) w2 V → Calls Tryz.prog 22 #[.pointer (some ⟨p, 0, none⟩)] V fun v w' => v = .returned (.int .i64 (H : Int)) ∧ w' = V) := Lib.hid (fun V k => grid_H V _ _ _ _ _ _ _ (HG1.out.keep0 (K12.out.trans k (fun _ _ x => x))))
  have HCN := Lib.hid (fun V => chart_new V (W : Int) W (by omega))
  refine wp_region_noPanic ?_
  refine wp_region_held_drew (S := fun w' => (Keep (fun i => i = e) w2 w' ∧ ∀ j, j < 19 → w'.cell? ⟨e, j, none⟩ = some (pv j))) (by kernel_rfl) (HSW.out _ (Keep.refl _ w2).drew) (fun hHeld => ?_)
  refine wpAnyH_take (i := 0) (oi := _) (v := ?va0) rfl (by kernel_rfl) (by kernel_rfl) (by kernel_rfl) (fun _ _ _ h => h) (Or.inl ⟨by rfl, ?hya0⟩) (by assumption) ?resta0
  case hya0 => (intro w hSw; (try dsimp only at hSw); (try simp only [List.getElem_toArray, List.getElem_cons_zero, List.getElem_cons_succ]); go_simp; (try with_reducible rfl))
  (try simp only [Act.put, List.setIfInBounds_toArray, List.set_cons_zero, List.set_cons_succ, List.getElem_toArray, List.getElem_cons_zero, List.getElem_cons_succ])
  refine wpAnyH_take (i := 1) (oi := _) (v := ?va1) rfl (by kernel_rfl) (by kernel_rfl) (by kernel_rfl) (fun _ _ _ h => h) (Or.inl ⟨by rfl, ?hya1⟩) (by assumption) ?resta1
  case hya1 => (intro w hSw; (try dsimp only at hSw); (try simp only [List.getElem_toArray, List.getElem_cons_zero, List.getElem_cons_succ]); go_simp; (try with_reducible rfl))
  (try simp only [Act.put, List.setIfInBounds_toArray, List.set_cons_zero, List.set_cons_succ, List.getElem_toArray, List.getElem_cons_zero, List.getElem_cons_succ])
  refine wpAnyH_take (i := 2) (oi := _) (v := ?va2) rfl (by kernel_rfl) (by kernel_rfl) (by kernel_rfl) (fun _ _ _ h => h) (Or.inl ⟨by rfl, ?hya2⟩) (by assumption) ?resta2
  case hya2 => (intro w hSw; (try dsimp only at hSw); (try simp only [List.getElem_toArray, List.getElem_cons_zero, List.getElem_cons_succ]); go_simp; (try with_reducible rfl))
  (try simp only [Act.put, List.setIfInBounds_toArray, List.set_cons_zero, List.set_cons_succ, List.getElem_toArray, List.getElem_cons_zero, List.getElem_cons_succ])
  refine wpAnyH_take (i := 3) (oi := _) (v := ?va3) rfl (by kernel_rfl) (by kernel_rfl) (by kernel_rfl) (fun _ _ _ h => h) (Or.inl ⟨by rfl, ?hya3⟩) (by assumption) ?resta3
  case hya3 => (intro w hSw; (try dsimp only at hSw); (try simp only [List.getElem_toArray, List.getElem_cons_zero, List.getElem_cons_succ]); go_simp; (try with_reducible rfl))
  (try simp only [Act.put, List.setIfInBounds_toArray, List.set_cons_zero, List.set_cons_succ, List.getElem_toArray, List.getElem_cons_zero, List.getElem_cons_succ])
  refine wpAnyH_take (i := 4) (oi := _) (v := .agg PC) rfl (by kernel_rfl) (by kernel_rfl) (by kernel_rfl) (fun _ _ _ h => h) (Or.inl ⟨by rfl, ?hya4⟩) (by assumption) ?resta4
  case hya4 => (intro w hSw; (try simp only [List.getElem_toArray, List.getElem_cons_zero, List.getElem_cons_succ]); unfold execOp; simp only [Sem.run_bind, Sem.run_pure, Result.andThen_ok]; exact congrArg (fun r : Result Value => r.andThen fun a w' => Result.ok (Next.value a) w') (LP.out w hSw))
  (try simp only [Act.put, List.setIfInBounds_toArray, List.set_cons_zero, List.set_cons_succ, List.getElem_toArray, List.getElem_cons_zero, List.getElem_cons_succ])
  refine wpAnyH_take (i := 5) (oi := _) (v := ?va5) rfl (by kernel_rfl) (by kernel_rfl) (by kernel_rfl) (fun _ _ _ h => h) (Or.inl ⟨by rfl, ?hya5⟩) (by assumption) ?resta5
  case hya5 => (intro w hSw; (try dsimp only at hSw); (try simp only [List.getElem_toArray, List.getElem_cons_zero, List.getElem_cons_succ]); go_simp; (try with_reducible rfl))
  (try simp only [Act.put, List.setIfInBounds_toArray, List.set_cons_zero, List.set_cons_succ, List.getElem_toArray, List.getElem_cons_zero, List.getElem_cons_succ])
  refine wpAnyH_take (i := 6) (oi := _) (v := ?va6) rfl (by kernel_rfl) (by kernel_rfl) (by kernel_rfl) (fun _ _ _ h => h) (Or.inl ⟨by rfl, ?hya6⟩) (by assumption) ?resta6
  case hya6 => (intro w hSw; (try dsimp only at hSw); (try simp only [List.getElem_toArray, List.getElem_cons_zero, List.getElem_cons_succ]); go_simp; (try with_reducible rfl))
  (try simp only [Act.put, List.setIfInBounds_toArray, List.set_cons_zero, List.set_cons_succ, List.getElem_toArray, List.getElem_cons_zero, List.getElem_cons_succ])
  refine wpAnyH_take (i := 9) (oi := _) (v := ?va9) rfl (by kernel_rfl) (by kernel_rfl) (by kernel_rfl) (fun _ _ _ h => h) (Or.inl ⟨by rfl, ?hya9⟩) (by assumption) ?resta9
  case hya9 => (intro w hSw; (try dsimp only at hSw); (try simp only [List.getElem_toArray, List.getElem_cons_zero, List.getElem_cons_succ]); go_simp; (try with_reducible rfl))
  (try simp only [Act.put, List.setIfInBounds_toArray, List.set_cons_zero, List.set_cons_succ, List.getElem_toArray, List.getElem_cons_zero, List.getElem_cons_succ])
  refine wpAnyH_take (i := 11) (oi := _) (v := .agg SC) rfl (by kernel_rfl) (by kernel_rfl) (by kernel_rfl) (fun _ _ _ h => h) (Or.inl ⟨by rfl, ?hya11⟩) (by assumption) ?resta11
  case hya11 => (intro w hSw; (try simp only [List.getElem_toArray, List.getElem_cons_zero, List.getElem_cons_succ]); unfold execOp; simp only [Sem.run_bind, Sem.run_pure, Result.andThen_ok]; exact congrArg (fun r : Result Value => r.andThen fun a w' => Result.ok (Next.value a) w') (LS.out w hSw))
  (try simp only [Act.put, List.setIfInBounds_toArray, List.set_cons_zero, List.set_cons_succ, List.getElem_toArray, List.getElem_cons_zero, List.getElem_cons_succ])
  refine wpAnyH_take (i := 12) (oi := _) (v := .agg SC) rfl (by kernel_rfl) (by kernel_rfl) (by kernel_rfl) (fun _ _ _ h => h) (Or.inl ⟨by rfl, ?hya12⟩) (by assumption) ?resta12
  case hya12 => (intro w hSw; (try simp only [List.getElem_toArray, List.getElem_cons_zero, List.getElem_cons_succ]); unfold execOp; simp only [Sem.run_bind, Sem.run_pure, Result.andThen_ok]; exact congrArg (fun r : Result Value => r.andThen fun a w' => Result.ok (Next.value a) w') (LS.out w hSw))
  (try simp only [Act.put, List.setIfInBounds_toArray, List.set_cons_zero, List.set_cons_succ, List.getElem_toArray, List.getElem_cons_zero, List.getElem_cons_succ])
  refine wpAnyH_ready (rs := [7]) (by kernel_rfl) (by simp) ?_
  refine AllReadyH.cons (o := _) rfl (fun K hK => ?_) AllReadyH.nil
  (try simp only [List.getElem_toArray, List.getElem_cons_zero, List.getElem_cons_succ])
  go_simp
  refine (HW.out _ ((Keep.refl _ w2).drew)).mono ?_; rintro v w3 ⟨rfl, hw3⟩; rw [hw3]; clear hw3
  refine hK.out _ _ ?_ (fun hHeld => ?_)
  · exact HSW.out _ ((Keep.refl _ w2).drew)
  clear hK K
  (try simp only [Act.put, List.setIfInBounds_toArray, List.set_cons_zero, List.set_cons_succ, List.getElem_toArray, List.getElem_cons_zero, List.getElem_cons_succ])
  refine wpAnyH_ready (rs := [8]) (by kernel_rfl) (by simp) ?_
  refine AllReadyH.cons (o := _) rfl (fun K hK => ?_) AllReadyH.nil
  (try simp only [List.getElem_toArray, List.getElem_cons_zero, List.getElem_cons_succ])
  go_simp
  refine (HCN.out _).mono ?_; rintro v w4 ⟨rfl, hs4, hb4⟩; have HS4 : Hid (StopsAt w4 (w2.heap.size + 1) w2.heap.size W W (newL W)) := Lib.hid hs4; have HK4 : Hid (Keep (fun _ => False) w2 w4) := Lib.hid (((Keep.refl _ w2).drew).trans (Keep.of_below (fun _ => False) hb4) (fun _ _ x => x)); clear hs4 hb4
  refine hK.out _ _ ?_ (fun hHeld => ?_)
  · exact HSW.out _ HK4.out
  clear hK K
  (try simp only [Act.put, List.setIfInBounds_toArray, List.set_cons_zero, List.set_cons_succ, List.getElem_toArray, List.getElem_cons_zero, List.getElem_cons_succ])
  refine wpAnyH_ready (rs := [10]) (by kernel_rfl) (by simp) ?_
  refine AllReadyH.cons (o := _) rfl (fun K hK => ?_) AllReadyH.nil
  (try simp only [List.getElem_toArray, List.getElem_cons_zero, List.getElem_cons_succ])
  go_simp
  refine (HH.out _ HK4.out).mono ?_; rintro v w5 ⟨rfl, hw5⟩; rw [hw5]; clear hw5
  refine hK.out _ _ ?_ (fun hHeld => ?_)
  · exact HSW.out _ HK4.out
  clear hK K
  (try simp only [Act.put, List.setIfInBounds_toArray, List.set_cons_zero, List.set_cons_succ, List.getElem_toArray, List.getElem_cons_zero, List.getElem_cons_succ])
  refine wpAnyH_take (i := 13) (oi := _) (v := .agg BIG) rfl (by kernel_rfl) (by kernel_rfl) (by kernel_rfl) (fun _ _ _ h => h) (Or.inl ⟨by rfl, ?hya13⟩) (by assumption) ?resta13
  case hya13 => (intro w hSw; (try simp only [List.getElem_toArray, List.getElem_cons_zero, List.getElem_cons_succ]); unfold execOp; simp only [Sem.run_bind, Sem.run_pure, Result.andThen_ok]; simp only [List.map_toArray, List.map_cons, List.map_nil]; exact congrArg (fun r : Result Value => r.andThen fun a w' => Result.ok (Next.value a) w') (run_build w _ _ BIG ((congrArg (Tryz.prog.built 74) (show _ = [(0, Value.agg PC), (1, Value.pointer (some ⟨p, 0, none⟩)), (3, Value.pointer (some ⟨w2.heap.size + 1, 0, none⟩)), (5, Value.int .i64 (H : Int)), (6, Value.agg SC), (7, Value.agg SC), (10, Value.bool true)] from rfl)).trans HBB.out)))
  (try simp only [Act.put, List.setIfInBounds_toArray, List.set_cons_zero, List.set_cons_succ, List.getElem_toArray, List.getElem_cons_zero, List.getElem_cons_succ])
  refine wpAnyH_take (i := 14) (oi := _) (v := ?va14) rfl (by kernel_rfl) (by kernel_rfl) (by kernel_rfl) (fun _ _ _ h => h) (Or.inl ⟨by rfl, ?hya14⟩) (by assumption) ?resta14
  case hya14 => (intro w hSw; (try dsimp only at hSw); (try simp only [List.getElem_toArray, List.getElem_cons_zero, List.getElem_cons_succ]); go_simp; (try with_reducible rfl))
  (try simp only [Act.put, List.setIfInBounds_toArray, List.set_cons_zero, List.set_cons_succ, List.getElem_toArray, List.getElem_cons_zero, List.getElem_cons_succ])
  refine wpAnyH_ready (rs := [15]) (by kernel_rfl) (by simp) ?_
  refine AllReadyH.cons (o := _) rfl (fun K hK => ?_) AllReadyH.nil
  (try simp only [List.getElem_toArray, List.getElem_cons_zero, List.getElem_cons_succ])
  (rw [if_pos (by rfl)]; refine esc_store_at 74 (.tmp 27) (.tmp 26) rfl e 0 BIG rfl rfl (reset_info.trans (congrArg some HSZ.out.symm)) H1.out (fun j hj => by rw [Nat.zero_add, HK4.out.cell (p := ⟨e, j, none⟩) (Nat.lt_of_lt_of_le he HPG.out.2.2.2.2) (fun x => x), K2.out.cell (p := ⟨e, j, none⟩) he (fun x => x)]; exact (HC.out j (by have := HSZ.out; omega)).1) (fun j hj => by rw [Nat.zero_add, HK4.out.frozen (p := ⟨e, j, none⟩) (Nat.lt_of_lt_of_le he HPG.out.2.2.2.2) (fun x => x), K2.out.frozen (p := ⟨e, j, none⟩) he (fun x => x)]; exact (HC.out j (by have := HSZ.out; omega)).2) ?_; have HFIN := Lib.hid (HFI.out w4 w2.heap.size HK4.out HS4.out ⟨Nat.le_refl _, by omega⟩))
  refine hK.out _ _ ?_ (fun hHeld => ?_)
  · exact ⟨(HK4.out.mono (fun _ _ x => x.elim)).trans (keep_setCells (S := fun x => x = e) e (fun _ => rfl) _ _ _ (Keep.refl _ w4)) (fun _ _ x => x), fun j hj => (by obtain ⟨L, h⟩ := HFIN.out; exact (h.2.1 j hj).1)⟩
  clear hK K
  (try simp only [Act.put, List.setIfInBounds_toArray, List.set_cons_zero, List.set_cons_succ, List.getElem_toArray, List.getElem_cons_zero, List.getElem_cons_succ])
  refine wpAnyH_done (by kernel_rfl) ?_ _
  refine NoPanic.normal ?_
  go_end0
  exact ⟨rfl, HFIN.out⟩

end Go.Proofs.YtnminmaklbhakaaGreatDoor
