/- emu: Copy. By program (rgn/XEmuCp.py). Own work. -/
import Derived.Test.YtpmnbfifpenlkaaGreatDoorEmuZs
namespace Go.Proofs.YtpmnbfifpenlkaaGreatDoor
set_option linter.unusedVariables false
set_option linter.unusedSimpArgs false
open Go.RowKit

theorem nilWE (w : World) : Calls Tryz.prog 32 #[.pointer none] w fun e w' => e = .returned (.int .i64 0) ∧ w' = w := by
  go_enter Tryz.func32, Tryz.ntmps32
  go_wp2_with fail
  go_ret
  exact ⟨rfl, rfl⟩
theorem nil_copyE (w : World) : Calls Tryz.prog 35 #[.pointer none] w fun e w' => e = .returned (.pointer none) ∧ w' = w := by
  go_enter Tryz.func35, Tryz.ntmps35
  go_wp2_with fail
  refine (nilWE _).mono ?_
  rintro e w1 ⟨rfl, rfl⟩
  go_wp2_with fail
  go_ret
  exact ⟨rfl, rfl⟩

/-- All cells of a terminal. -/
def emL (pv : Nat → Value) (p ov sp : Value) (m : EmM) : List Value := (List.range 19).map pv ++ (p :: ov :: sp :: m.cs)
theorem emL_len (pv : Nat → Value) (p ov sp : Value) (m : EmM) : (emL pv p ov sp m).length = 50 := by simp [emL, m.cs_len]
theorem emL_low (pv : Nat → Value) (p ov sp : Value) (m : EmM) (i : Nat) (hi : i < 19) : (emL pv p ov sp m)[i]? = some (pv i) := by
  unfold emL; rw [List.getElem?_append_left (by simp; omega)]; simp [hi]
theorem emL_high (pv : Nat → Value) (p ov sp : Value) (m : EmM) (i : Nat) : (emL pv p ov sp m)[19 + i]? = (p :: ov :: sp :: m.cs)[i]? := by
  unfold emL; rw [List.getElem?_append_right (by simp)]; congr 1; simp
theorem emL_cs (pv : Nat → Value) (p ov sp : Value) (m : EmM) (i : Nat) : (emL pv p ov sp m)[22 + i]? = m.cs[i]? := by
  have := emL_high pv p ov sp m (3 + i)
  rw [← Nat.add_assoc] at this
  rw [this, show 3 + i = i + 1 + 1 + 1 by omega]
  rfl
theorem emL_one (pv : Nat → Value) (a b c : Option Addr) (m : EmM) (h : ∀ i, i < 19 → (pv i).oneCell' = true) : (emL pv (.pointer a) (.pointer b) (.pointer c) m).toArray.all (·.oneCell') = true := by
  have hb : ∀ b, (Value.bool b).oneCell' = true := fun _ => rfl
  have hi : ∀ k n, (Value.int k n).oneCell' = true := fun _ _ => rfl
  have hp : ∀ a, (Value.pointer a).oneCell' = true := fun _ => rfl
  simp only [List.all_toArray, List.all_eq_true]
  intro v hv
  unfold emL at hv
  rcases List.mem_append.1 hv with x | x
  · obtain ⟨i, h1, rfl⟩ := List.mem_map.1 x
    exact h i (List.mem_range.1 h1)
  · simp [EmM.cs, StM.cs] at x
    rcases x with rfl | rfl | rfl | rfl | rfl | rfl | rfl | rfl | rfl | rfl | rfl | rfl | rfl | rfl | rfl | rfl | rfl | rfl | rfl | rfl | rfl | rfl | rfl | rfl | rfl | rfl | rfl | rfl | rfl | rfl | rfl <;> rfl
theorem load_emu (V : World) (e : Nat) (cs : List Value) (hl : cs.length = 50) (h : ∀ j v, cs[j]? = some v → V.cell? ⟨e, j, none⟩ = some v) : (Instr.loadAt 78 (.pointer (some ⟨e, 0, none⟩))).run Tryz.prog V = .ok (.agg cs.toArray) V := by
  have hr := run_loadCells_list (P := Tryz.prog) (w := V) ⟨e, 0, none⟩ cs (fun j v hv => by rw [show (⟨e, 0, none⟩ : Addr).add j = ⟨e, j, none⟩ from by simp [Addr.add]; omega]; exact h j v hv)
  rw [hl] at hr
  simp [Instr.loadAt, Instr.sureAddr, loadVar, Tryz.isAgg78, Tryz.sizeOf78, hr]
theorem EmR.all {w : World} {e : Nat} {L : Loc} {m : EmM} (h : EmR w e L m) (pv : Nat → Value) (o : Option Addr) (ho : w.cell? ⟨e, 20, none⟩ = some (.pointer o)) (hp : ∀ i, i < 19 → w.cell? ⟨e, i, none⟩ = some (pv i)) :
    ∀ j v, (emL pv (.pointer (some ⟨L.p, 0, none⟩)) (.pointer o) (.pointer (some ⟨L.sp, 0, none⟩)) m)[j]? = some v → w.cell? ⟨e, j, none⟩ = some v := by
  intro j v hv
  rcases Nat.lt_or_ge j 19 with x | x
  · rw [emL_low _ _ _ _ _ _ x] at hv; cases hv; exact hp j x
  · obtain ⟨i, rfl⟩ : ∃ i, j = 19 + i := ⟨j - 19, by omega⟩
    rw [emL_high] at hv
    match i, hv with
    | 0, hv => cases hv; exact h.g.cm.1
    | 1, hv => cases hv; exact ho
    | 2, hv => cases hv; exact h.g.ct.1
    | i + 3, hv => have := h.at' i v hv; rwa [show 22 + i = 19 + (i + 3) by omega] at this

theorem wpList_load_at {P : Program} {ops : Array Oper} {rest : List Oper} {o : Oper} {a : Act} {w : World} {Q : Exit → Act → World → Prop} (hgd : o.guard = none) (ty : TypeId) (x : Operand) (ho : o.op = .load ty x)
    (b : Addr) (u : Value) (hx : a.eval x = .pointer (some b)) (hl : (Instr.loadAt ty (.pointer (some b))).run P w = .ok u w)
    (h : wpList P ops Q rest (a.put o.dst u) w) : wpList P ops Q (o :: rest) a w :=
  wpList_plain hgd fun _ hK => by
    unfold Oper.wp execOp
    simp only [ho, hx, Sem.run_bind, Sem.run_pure, hl, Result.andThen_ok]
    exact hK _ _ h
theorem emu_info : (Tryz.prog.info? 78).map (·.size) = some 50 := by kernel_rfl

/-- The other screen's copy. -/
def OthTo (m : EmM) (w : World) (v : Ending) (w' : World) : Prop :=
  ∃ o, v = .returned (.pointer o) ∧ Below w.heap.size w w' ∧ ((m.O = none ∧ o = none) ∨ ∃ a b c G, m.O = some G ∧ o = some ⟨a, 0, none⟩ ∧ w.heap.size ≤ a ∧ w.heap.size ≤ b ∧ GridAt w' a b c m.W m.H (m.W * m.H) G)

/-- What Copy answers. -/
def CopyE (pv : Nat → Value) (m : EmM) (w : World) (v : Ending) (w' : World) : Prop :=
  ∃ L', v = .returned (.pointer (some ⟨w.heap.size, 0, none⟩)) ∧ EmR w' w.heap.size L' m ∧ (∀ i, i < 19 → w'.cell? ⟨w.heap.size, i, none⟩ = some (pv i) ∧ w'.frozen? ⟨w.heap.size, i, none⟩ = false) ∧ (∀ i, L'.T w.heap.size i → w.heap.size ≤ i) ∧ Below w.heap.size w w'

theorem EmG.oth {w : World} {e : Nat} {L : Loc} {m : EmM} (h : EmR w e L m) :
    ∃ o, Cell w e 20 (.pointer o) ∧ ∀ V, Keep (fun _ => False) w V → Calls Tryz.prog 35 #[.pointer o] V (OthTo m V) := by
  rcases h.g.co with ⟨a, b, c⟩ | ⟨a, b, c, G, ho, hG, hc, hg⟩
  · exact ⟨none, c, fun V k => (nil_copyE V).mono fun v w' x => by obtain ⟨rfl, rfl⟩ := x; exact ⟨none, rfl, Below.refl _ _, .inl ⟨b, rfl⟩⟩⟩
  · exact ⟨_, hc, fun V k => (grid_copy V a b c _ _ _ _ (hg.keep k (fun x => x) (fun x => x))).mono fun v w' x => by
      obtain ⟨p', g', c', rfl, h1, h2, h3, h4⟩ := x
      exact ⟨_, rfl, h4, .inr ⟨p', g', c', G, hG, rfl, h2, h1, h3⟩⟩⟩

/-- The copy, from its parts. -/
theorem copy_fin {w w2 w3 w4 w5 : World} {pv : Nat → Value} {m : EmM} {o0 p0 s0 o : Option Addr} {p g c sp sg sc : Nat} (K2 : Keep (fun _ => False) w w2) (hq : w.heap.size < w2.heap.size)
    (hc : ∀ j v, (emL pv (.pointer p0) (.pointer o0) (.pointer s0) m)[j]? = some v → Cell w2 w.heap.size j v) (k3 : Below w2.heap.size w2 w3) (k4 : Below w3.heap.size w3 w4) (k5 : Below w4.heap.size w4 w5)
    (hp : w2.heap.size ≤ p) (hg : w2.heap.size ≤ g) (G3 : GridAt w3 p g c m.W m.H (m.W * m.H) m.F)
    (O4 : (m.O = none ∧ o = none) ∨ ∃ a b c G, m.O = some G ∧ o = some ⟨a, 0, none⟩ ∧ w3.heap.size ≤ a ∧ w3.heap.size ≤ b ∧ GridAt w4 a b c m.W m.H (m.W * m.H) G)
    (hsp : w4.heap.size ≤ sp) (hsg : w4.heap.size ≤ sg) (S5 : StopsAt w5 sp sg m.W sc m.stops) (ok : m.Ok) :
    CopyE pv m w (.returned (.pointer (some ⟨w.heap.size, 0, none⟩))) (((w5.setCell ⟨w.heap.size, 19, none⟩ (.pointer (some ⟨p, 0, none⟩))).setCell ⟨w.heap.size, 20, none⟩ (.pointer o)).setCell ⟨w.heap.size, 21, none⟩ (.pointer (some ⟨sp, 0, none⟩))) := by
  have q3 := k3.size
  have q4 := k4.size
  have K3 := Keep.of_below (fun _ => False) k3
  have K4 := Keep.of_below (fun _ => False) k4
  have K5 := Keep.of_below (fun _ => False) k5
  have K25 : Keep (fun _ => False) w2 w5 := (K3.trans K4 (fun _ _ x => x)).trans K5 (fun _ _ x => x)
  have K35 : Keep (fun _ => False) w3 w5 := K4.trans K5 (fun _ _ x => x)
  have KF : Keep (fun i => i = w.heap.size) w5 (((w5.setCell ⟨w.heap.size, 19, none⟩ (.pointer (some ⟨p, 0, none⟩))).setCell ⟨w.heap.size, 20, none⟩ (.pointer o)).setCell ⟨w.heap.size, 21, none⟩ (.pointer (some ⟨sp, 0, none⟩))) :=
    (((Keep.refl (fun i => i = w.heap.size) w5).own 19 _).own 20 _).own 21 _
  have hg5 := G3.keep K35 (fun x => x) (fun x => x)
  have c5 : ∀ j v, (emL pv (.pointer p0) (.pointer o0) (.pointer s0) m)[j]? = some v → Cell w5 w.heap.size j v := fun j v hv => (hc j v hv).keep K25 (fun x => x)
  have far : ∀ j v, j < 19 ∨ 22 ≤ j → Cell w5 w.heap.size j v → Cell (((w5.setCell ⟨w.heap.size, 19, none⟩ (.pointer (some ⟨p, 0, none⟩))).setCell ⟨w.heap.size, 20, none⟩ (.pointer o)).setCell ⟨w.heap.size, 21, none⟩ (.pointer (some ⟨sp, 0, none⟩))) w.heap.size j v := fun j v hj h => ((h.far (by omega) _).far (by omega) _).far (by omega) _
  have d19 := (((c5 19 _ (emL_high _ _ _ _ _ 0)).set (.pointer (some ⟨p, 0, none⟩))).far (k := w.heap.size) (i := 20) (by omega) (.pointer o)).far (k := w.heap.size) (i := 21) (by omega) (.pointer (some ⟨sp, 0, none⟩))
  have d20 := (((c5 20 _ (emL_high _ _ _ _ _ 1)).far (k := w.heap.size) (i := 19) (by omega) (.pointer (some ⟨p, 0, none⟩))).set (.pointer o)).far (k := w.heap.size) (i := 21) (by omega) (.pointer (some ⟨sp, 0, none⟩))
  have d21 := (((c5 21 _ (emL_high _ _ _ _ _ 2)).far (k := w.heap.size) (i := 19) (by omega) (.pointer (some ⟨p, 0, none⟩))).far (k := w.heap.size) (i := 20) (by omega) (.pointer o)).set (.pointer (some ⟨sp, 0, none⟩))
  have low : ∀ i, i < 19 → _ := fun i hi => far i _ (.inl hi) (c5 i _ (emL_low _ _ _ _ _ i hi))
  have cs : ∀ i v, m.cs[i]? = some v → _ := fun i v hv => far (22 + i) v (.inr (by omega)) (c5 (22 + i) v ((emL_cs _ _ _ _ _ i).trans hv))
  have l1 := G3.lt
  have l2 := G3.hg
  have ne1 := G3.ne
  have ne2 := S5.ne
  have KB : Below w.heap.size w _ := ((K2.trans K25 (fun _ _ x => x)).trans KF (S' := fun i => i = w.heap.size) (fun i hi x => by omega) : Keep (fun _ => False) w _).below (Nat.le_refl _) (fun _ _ x => x)
  rcases O4 with ⟨h1, rfl⟩ | ⟨a, b, c', G, h1, rfl, h2, h3, G4⟩
  · refine ⟨⟨p, g, c, sp, sg, sc, none⟩, rfl, ⟨⟨d19, hg5.keep KF (fun x => by omega) (fun x => by omega), .inl ⟨rfl, h1, d20⟩, d21, S5.keep KF (fun x => by omega) (fun x => by omega), ?_⟩, cs, ok⟩, low, ?_, KB⟩
    · simp [Loc.bl, Loc.ob]; omega
    · intro i hi; simp [Loc.T, Loc.bl, Loc.ob] at hi; omega
  · have l3 := G4.lt
    have l4 := G4.hg
    have ne3 := G4.ne
    refine ⟨⟨p, g, c, sp, sg, sc, some (a, b, c')⟩, rfl, ⟨⟨d19, hg5.keep KF (fun x => by omega) (fun x => by omega), .inr ⟨a, b, c', G, rfl, h1, d20, (G4.keep K5 (fun x => x) (fun x => x)).keep KF (fun x => by omega) (fun x => by omega)⟩, d21, S5.keep KF (fun x => by omega) (fun x => by omega), ?_⟩, cs, ok⟩, low, ?_, KB⟩
    · simp [Loc.bl, Loc.ob]; omega
    · intro i hi; simp [Loc.T, Loc.bl, Loc.ob] at hi; omega

set_option maxRecDepth 100000 in
set_option maxHeartbeats 3200000 in
theorem emu_copy (w : World) (e : Nat) (L : Loc) (m : EmM) (pv : Nat → Value) (h : EmR w e L m) (hp : ∀ i, i < 19 → w.cell? ⟨e, i, none⟩ = some (pv i)) (hpo : ∀ i, i < 19 → (pv i).oneCell' = true) :
    Calls Tryz.prog 15 #[.pointer (some ⟨e, 0, none⟩)] w (CopyE pv m w) := by
  have HRD := Lib.hid (emu_ready w e L m h)
  obtain ⟨o, ho, hO⟩ := EmG.oth h
  have HO := Lib.hid hO
  have HL := Lib.hid (load_emu w e (emL pv (.pointer (some ⟨L.p, 0, none⟩)) (.pointer o) (.pointer (some ⟨L.sp, 0, none⟩)) m) (emL_len pv _ _ _ m) (EmR.all h pv o ho.1 hp))
  have H1 := Lib.hid (emL_one pv (some ⟨L.p, 0, none⟩) o (some ⟨L.sp, 0, none⟩) m hpo)
  have HSZ : Hid ((emL pv (.pointer (some ⟨L.p, 0, none⟩)) (.pointer o) (.pointer (some ⟨L.sp, 0, none⟩)) m).toArray.size = 50) := Lib.hid (emL_len pv _ _ _ m)
  have HBG : Hid (∀ (j : Nat) (v : Value), (emL pv (.pointer (some ⟨L.p, 0, none⟩)) (.pointer o) (.pointer (some ⟨L.sp, 0, none⟩)) m)[j]? = some v → (emL pv (.pointer (some ⟨L.p, 0, none⟩)) (.pointer o) (.pointer (some ⟨L.sp, 0, none⟩)) m).toArray.toList[j]? = some v) := Lib.hid (fun j v hv => hv)
  generalize (emL pv (.pointer (some ⟨L.p, 0, none⟩)) (.pointer o) (.pointer (some ⟨L.sp, 0, none⟩)) m).toArray = BIG at HL H1 HSZ HBG
  have HE := Lib.hid h
  have HCO := Lib.hid ho
  clear h hO hp hpo ho
  go_enter Tryz.func15, Tryz.ntmps15
  go_wp2_with fail
  refine HRD.out.mono ?_
  rintro v w1 ⟨rfl, hw1⟩
  rw [hw1]
  clear hw1
  go_wp2_with (first | (with_reducible refine wpList_load_at rfl 78 (.tmp 8) rfl ⟨e, 0, none⟩ (.agg BIG) rfl HL.out ?_) | (with_reducible refine wpList_store_at rfl 78 (.tmp 3) (.tmp 9) rfl w.heap.size 0 BIG rfl rfl (emu_info.trans (congrArg some HSZ.out.symm)) H1.out ?hc ?hf ?_))
  case hc =>
    intro j hj
    rw [Nat.zero_add, cell_at (heap_alloc_new w _) j, Array.getElem?_eq_getElem (by have := HSZ.out; simp; omega)]
    rfl
  case hf => intro j hj; exact free_at (heap_alloc_new w _) _
  obtain ⟨w2, hw2⟩ : ∃ w2, w2 = (w.alloc (.cells zeroE 78)).setCells w.heap.size 0 BIG.toList := ⟨_, rfl⟩
  have hq0 : (w.alloc (.cells zeroE 78)).heap[w.heap.size]? = some (.cells zeroE 78 (0, 0)) := heap_alloc_new w _
  have hz : zeroE.size = 50 := by decide +kernel
  have K2 : Hid (Keep (fun _ => False) w w2) := Lib.hid (by rw [hw2]; exact keep_setCells (S := fun _ => False) w.heap.size (fun x => absurd x (Nat.lt_irrefl _)) _ _ _ ((Keep.refl _ w).alloc _))
  have HQ : Hid (w.heap.size < w2.heap.size) := Lib.hid (by rw [hw2]; exact Nat.lt_of_lt_of_le (lt_heap hq0) (keep_setCells (S := fun _ => True) w.heap.size (fun _ => trivial) _ _ _ (Keep.refl _ _)).size)
  have HC2 : Hid (∀ (j : Nat) (v : Value), (emL pv (.pointer (some ⟨L.p, 0, none⟩)) (.pointer o) (.pointer (some ⟨L.sp, 0, none⟩)) m)[j]? = some v → Cell w2 w.heap.size j v) := Lib.hid (fun j v hv => by
    have hj : j < 50 := by
      rcases Nat.lt_or_ge j 50 with x | x
      · exact x
      · rw [List.getElem?_eq_none (by rw [emL_len]; exact x)] at hv; cases hv
    have hb := HBG.out j v hv
    have hs := HSZ.out
    refine ⟨?_, ?_⟩
    · have := World.cell?_setCells_in w.heap.size BIG.toList 0 (w.alloc (.cells zeroE 78)) (fun k hk => by rw [Nat.zero_add, cell_at hq0 k, Array.getElem?_eq_getElem (by simp at hk; omega)]; rfl) j (by simp; omega)
      rw [Nat.zero_add] at this
      rw [hw2, this]
      rw [List.getElem?_eq_getElem (by simp; omega)] at hb
      exact hb
    · rw [hw2]
      exact (World.frozen?_setCells _ _ _ _ _).trans (free_at hq0 _))
  rw [show (w.alloc (.cells #[.pointer none, .int .u8 0, .int .i32 0, .int .i64 0, .int .i64 0, .int .u8 0, .int .u8 0, .int .i64 0, .string ⟨#[]⟩, .int .i64 0, .int .i64 0, .int .i64 0, .int .i64 0, .int .i64 0, .int .i64 0, .int .i64 0, .int .i64 0, .int .i64 0, .string ⟨#[]⟩, .pointer none, .pointer none, .pointer none, .int .i64 0, .int .i64 0, .int .i64 0, .int .i64 0, .int .i64 0, .int .i64 0, .bool false, .bool false, .bool false, .bool false, .int .u8 0, .int .u8 0, .int .i64 0, .int .i64 0, .int .i64 0, .int .i64 0, .int .i64 0, .bool false, .bool false, .bool false, .bool false, .int .u8 0, .int .u8 0, .int .i64 0, .bool false, .bool false, .bool false, .bool false] 78)).setCells w.heap.size 0 BIG.toList = w2 from hw2.symm]
  clear hw2 hq0 hz HL H1 HSZ HBG HRD
  have HG : Hid (∀ V, Keep (fun _ => False) w2 V → Calls Tryz.prog 35 #[.pointer (some ⟨L.p, 0, none⟩)] V (CopyTo m.W m.H (m.W * m.H) m.F V)) := Lib.hid (fun V k => grid_copy V L.p L.g L.c _ _ _ _ ((HE.out.quiet (K2.out.trans k (fun _ _ x => x))).g.gm))
  have HSC : Hid (∀ V, Keep (fun _ => False) w2 V → Calls Tryz.prog 36 #[.pointer (some ⟨L.sp, 0, none⟩)] V (CopyB m.W m.stops V)) := Lib.hid (fun V k => chart_copy V L.sp L.sg m.W L.sc _ ((HE.out.quiet (K2.out.trans k (fun _ _ x => x))).g.sp))
  have HO2 : Hid (∀ V, Keep (fun _ => False) w2 V → Calls Tryz.prog 35 #[.pointer o] V (OthTo m V)) := Lib.hid (fun V k => HO.out V (K2.out.trans k (fun _ _ x => x)))
  have HRC : Hid (∀ V, Keep (fun _ => False) w2 V → V.cell? ⟨e, 19, none⟩ = some (.pointer (some ⟨L.p, 0, none⟩)) ∧ V.cell? ⟨e, 20, none⟩ = some (.pointer o) ∧ V.cell? ⟨e, 21, none⟩ = some (.pointer (some ⟨L.sp, 0, none⟩))) := Lib.hid (fun V k => by
    have h := HE.out.quiet (K2.out.trans k (fun _ _ x => x))
    exact ⟨h.g.cm.1, (HCO.out.keep (K2.out.trans k (fun _ _ x => x)) (fun x => x)).1, h.g.ct.1⟩)
  have HEL : Hid (e < w.heap.size) := Lib.hid HE.out.elt
  have HOK : Hid m.Ok := Lib.hid HE.out.ok
  obtain ⟨q, hq⟩ : ∃ q, q = w.heap.size := ⟨_, rfl⟩
  have HCQ : Hid (∀ V, Keep (fun _ => False) w2 V → Cell V q 19 (.pointer (some ⟨L.p, 0, none⟩)) ∧ Cell V q 20 (.pointer o) ∧ Cell V q 21 (.pointer (some ⟨L.sp, 0, none⟩))) := Lib.hid (fun V k => by
    rw [hq]
    exact ⟨(HC2.out 19 _ (emL_high _ _ _ _ _ 0)).keep k (fun x => x), (HC2.out 20 _ (emL_high _ _ _ _ _ 1)).keep k (fun x => x), (HC2.out 21 _ (emL_high _ _ _ _ _ 2)).keep k (fun x => x)⟩)
  rw [← hq]
  have HQQ := Lib.hid hq
  clear hq
  have c19 := (HRC.out w2 (Keep.refl _ _)).1
  have c20 := (HRC.out w2 (Keep.refl _ _)).2.1
  have c21 := (HRC.out w2 (Keep.refl _ _)).2.2
  refine wp_region_noPanic ?_
  refine wp_region_held_drew (S := fun w' => w'.cell? ⟨e, 19, none⟩ = some (.pointer (some ⟨L.p, 0, none⟩)) ∧ w'.cell? ⟨e, 20, none⟩ = some (.pointer o) ∧ w'.cell? ⟨e, 21, none⟩ = some (.pointer (some ⟨L.sp, 0, none⟩))) (by kernel_rfl) ⟨c19, c20, c21⟩ (fun hHeld => ?_)
  refine wpAnyH_take (i := 0) (oi := _) (v := ?va0) rfl (by kernel_rfl) (by kernel_rfl) (by kernel_rfl) (fun _ _ _ h => h) (Or.inl ⟨by rfl, ?hya0⟩) (by assumption) ?resta0
  case hya0 => (intro w hSw; (try dsimp only at hSw); (try simp only [List.getElem_toArray, List.getElem_cons_zero, List.getElem_cons_succ]); go_simp; (try with_reducible rfl))
  (try simp only [Act.put, List.setIfInBounds_toArray, List.set_cons_zero, List.set_cons_succ, List.getElem_toArray, List.getElem_cons_zero, List.getElem_cons_succ])
  refine wpAnyH_take (i := 1) (oi := _) (v := ?va1) rfl (by kernel_rfl) (by kernel_rfl) (by kernel_rfl) (fun _ _ _ h => h) (Or.inl ⟨by rfl, ?hya1⟩) (by assumption) ?resta1
  case hya1 => (intro w hSw; (try dsimp only at hSw); (try simp only [List.getElem_toArray, List.getElem_cons_zero, List.getElem_cons_succ]); go_simp; (try with_reducible rfl))
  (try simp only [Act.put, List.setIfInBounds_toArray, List.set_cons_zero, List.set_cons_succ, List.getElem_toArray, List.getElem_cons_zero, List.getElem_cons_succ])
  refine wpAnyH_take (i := 2) (oi := _) (v := ?va2) rfl (by kernel_rfl) (by kernel_rfl) (by kernel_rfl) (fun _ _ _ h => h) (Or.inl ⟨by rfl, ?hya2⟩) (by assumption) ?resta2
  case hya2 => (intro w hSw; (try dsimp only at hSw); (try simp only [List.getElem_toArray, List.getElem_cons_zero, List.getElem_cons_succ]); go_simp; (try with_reducible rfl))
  (try simp only [Act.put, List.setIfInBounds_toArray, List.set_cons_zero, List.set_cons_succ, List.getElem_toArray, List.getElem_cons_zero, List.getElem_cons_succ])
  refine wpAnyH_take (i := 3) (oi := _) (v := ?va3) rfl (by kernel_rfl) (by kernel_rfl) (by kernel_rfl) (fun _ _ _ h => h) (Or.inl ⟨by rfl, ?hya3⟩) (by assumption) ?resta3
  case hya3 => (intro w hSw; (try dsimp only at hSw); (try simp only [List.getElem_toArray, List.getElem_cons_zero, List.getElem_cons_succ]); go_simp; (try with_reducible rfl))
  (try simp only [Act.put, List.setIfInBounds_toArray, List.set_cons_zero, List.set_cons_succ, List.getElem_toArray, List.getElem_cons_zero, List.getElem_cons_succ])
  refine wpAnyH_take (i := 5) (oi := _) (v := ?va5) rfl (by kernel_rfl) (by kernel_rfl) (by kernel_rfl) (fun _ _ _ h => h) (Or.inl ⟨by rfl, ?hya5⟩) (by assumption) ?resta5
  case hya5 => (intro w hSw; (try dsimp only at hSw); (try simp only [List.getElem_toArray, List.getElem_cons_zero, List.getElem_cons_succ]); go_simp; (try with_reducible rfl))
  (try simp only [Act.put, List.setIfInBounds_toArray, List.set_cons_zero, List.set_cons_succ, List.getElem_toArray, List.getElem_cons_zero, List.getElem_cons_succ])
  refine wpAnyH_take (i := 6) (oi := _) (v := ?va6) rfl (by kernel_rfl) (by kernel_rfl) (by kernel_rfl) (fun _ _ _ h => h) (Or.inl ⟨by rfl, ?hya6⟩) (by assumption) ?resta6
  case hya6 => (intro w hSw; (try dsimp only at hSw); (try simp only [List.getElem_toArray, List.getElem_cons_zero, List.getElem_cons_succ]); go_simp; (try with_reducible rfl))
  (try simp only [Act.put, List.setIfInBounds_toArray, List.set_cons_zero, List.set_cons_succ, List.getElem_toArray, List.getElem_cons_zero, List.getElem_cons_succ])
  refine wpAnyH_take (i := 7) (oi := _) (v := ?va7) rfl (by kernel_rfl) (by kernel_rfl) (by kernel_rfl) (fun _ _ _ h => h) (Or.inl ⟨by rfl, ?hya7⟩) (by assumption) ?resta7
  case hya7 => (intro w hSw; (try dsimp only at hSw); (try simp only [List.getElem_toArray, List.getElem_cons_zero, List.getElem_cons_succ]); go_simp; (try with_reducible rfl))
  (try simp only [Act.put, List.setIfInBounds_toArray, List.set_cons_zero, List.set_cons_succ, List.getElem_toArray, List.getElem_cons_zero, List.getElem_cons_succ])
  refine wpAnyH_take (i := 8) (oi := _) (v := ?va8) rfl (by kernel_rfl) (by kernel_rfl) (by kernel_rfl) (fun _ _ _ h => h) (Or.inl ⟨by rfl, ?hya8⟩) (by assumption) ?resta8
  case hya8 => (intro w hSw; (try dsimp only at hSw); (try simp only [List.getElem_toArray, List.getElem_cons_zero, List.getElem_cons_succ]); go_simp; (try with_reducible rfl))
  (try simp only [Act.put, List.setIfInBounds_toArray, List.set_cons_zero, List.set_cons_succ, List.getElem_toArray, List.getElem_cons_zero, List.getElem_cons_succ])
  refine wpAnyH_take (i := 10) (oi := _) (v := ?va10) rfl (by kernel_rfl) (by kernel_rfl) (by kernel_rfl) (fun _ _ _ h => h) (Or.inl ⟨by rfl, ?hya10⟩) (by assumption) ?resta10
  case hya10 => (intro w hSw; (try dsimp only at hSw); (try simp only [List.getElem_toArray, List.getElem_cons_zero, List.getElem_cons_succ]); go_simp; (try with_reducible rfl))
  (try simp only [Act.put, List.setIfInBounds_toArray, List.set_cons_zero, List.set_cons_succ, List.getElem_toArray, List.getElem_cons_zero, List.getElem_cons_succ])
  refine wpAnyH_take (i := 11) (oi := _) (v := ?va11) rfl (by kernel_rfl) (by kernel_rfl) (by kernel_rfl) (fun _ _ _ h => h) (Or.inl ⟨by rfl, ?hya11⟩) (by assumption) ?resta11
  case hya11 => (intro w hSw; (try dsimp only at hSw); (try simp only [List.getElem_toArray, List.getElem_cons_zero, List.getElem_cons_succ]); go_simp; (try with_reducible rfl))
  (try simp only [Act.put, List.setIfInBounds_toArray, List.set_cons_zero, List.set_cons_succ, List.getElem_toArray, List.getElem_cons_zero, List.getElem_cons_succ])
  refine wpAnyH_take (i := 12) (oi := _) (v := ?va12) rfl (by kernel_rfl) (by kernel_rfl) (by kernel_rfl) (fun _ _ _ h => h) (Or.inl ⟨by rfl, ?hya12⟩) (by assumption) ?resta12
  case hya12 => (intro w hSw; (try dsimp only at hSw); (try simp only [List.getElem_toArray, List.getElem_cons_zero, List.getElem_cons_succ]); go_simp; (try with_reducible rfl))
  (try simp only [Act.put, List.setIfInBounds_toArray, List.set_cons_zero, List.set_cons_succ, List.getElem_toArray, List.getElem_cons_zero, List.getElem_cons_succ])
  refine wpAnyH_take (i := 13) (oi := _) (v := ?va13) rfl (by kernel_rfl) (by kernel_rfl) (by kernel_rfl) (fun _ _ _ h => h) (Or.inl ⟨by rfl, ?hya13⟩) (by assumption) ?resta13
  case hya13 => (intro w hSw; (try dsimp only at hSw); (try simp only [List.getElem_toArray, List.getElem_cons_zero, List.getElem_cons_succ]); go_simp; (try with_reducible rfl))
  (try simp only [Act.put, List.setIfInBounds_toArray, List.set_cons_zero, List.set_cons_succ, List.getElem_toArray, List.getElem_cons_zero, List.getElem_cons_succ])
  refine wpAnyH_ready (rs := [4]) (by kernel_rfl) (by simp) ?_
  refine AllReadyH.cons (o := _) rfl (fun K hK => ?_) AllReadyH.nil
  (try simp only [List.getElem_toArray, List.getElem_cons_zero, List.getElem_cons_succ])
  go_simp
  refine (HG.out _ ((Keep.refl _ w2).drew)).mono ?_; rintro v w3 ⟨p3, g3, c3, rfl, hg3, hp3, hG3, hb3⟩; have K23 : Hid (Keep (fun _ => False) w2 w3) := Lib.hid (Keep.trans ((Keep.refl _ w2).drew) (Keep.of_below (fun _ => False) hb3) (fun _ _ x => x)); have HG3 := Lib.hid hG3; have HB3 : Hid (Below w2.heap.size w2 w3) := Lib.hid (K23.out.below (Nat.le_refl _) (fun _ _ x => x)); have HP3 : Hid (w2.heap.size ≤ p3 ∧ w2.heap.size ≤ g3) := Lib.hid ⟨hp3, hg3⟩; clear hg3 hp3 hG3 hb3
  refine hK.out _ _ ?_ (fun hHeld => ?_)
  · exact HRC.out w3 K23.out
  clear hK K
  (try simp only [Act.put, List.setIfInBounds_toArray, List.set_cons_zero, List.set_cons_succ, List.getElem_toArray, List.getElem_cons_zero, List.getElem_cons_succ])
  refine wpAnyH_ready (rs := [9]) (by kernel_rfl) (by simp) ?_
  refine AllReadyH.cons (o := _) rfl (fun K hK => ?_) AllReadyH.nil
  (try simp only [List.getElem_toArray, List.getElem_cons_zero, List.getElem_cons_succ])
  go_simp
  refine (HO2.out _ K23.out).mono ?_; rintro v w4 ⟨o4, rfl, hb4, ho4⟩; have K24 : Hid (Keep (fun _ => False) w2 w4) := Lib.hid (K23.out.trans (Keep.of_below (fun _ => False) hb4) (fun _ _ x => x)); have HB4 := Lib.hid hb4; have HO4 := Lib.hid ho4; clear hb4 ho4
  refine hK.out _ _ ?_ (fun hHeld => ?_)
  · exact HRC.out w4 K24.out
  clear hK K
  (try simp only [Act.put, List.setIfInBounds_toArray, List.set_cons_zero, List.set_cons_succ, List.getElem_toArray, List.getElem_cons_zero, List.getElem_cons_succ])
  refine wpAnyH_ready (rs := [14]) (by kernel_rfl) (by simp) ?_
  refine AllReadyH.cons (o := _) rfl (fun K hK => ?_) AllReadyH.nil
  (try simp only [List.getElem_toArray, List.getElem_cons_zero, List.getElem_cons_succ])
  go_simp
  refine (HSC.out _ K24.out).mono ?_; rintro v w5 ⟨p5, g5, c5, rfl, hp5, hg5, hS5, hb5⟩; have K25 : Hid (Keep (fun _ => False) w2 w5) := Lib.hid (K24.out.trans (Keep.of_below (fun _ => False) hb5) (fun _ _ x => x)); have HB5 := Lib.hid hb5; have HS5 := Lib.hid hS5; have HP5 : Hid (w4.heap.size ≤ p5 ∧ w4.heap.size ≤ g5) := Lib.hid ⟨hp5, hg5⟩; clear hp5 hg5 hS5 hb5; have d19 := (HCQ.out w5 K25.out).1.1; have f19 := (HCQ.out w5 K25.out).1.2; have d20 := (HCQ.out w5 K25.out).2.1.1; have f20 := (HCQ.out w5 K25.out).2.1.2; have d21 := (HCQ.out w5 K25.out).2.2.1; have f21 := (HCQ.out w5 K25.out).2.2.2
  refine hK.out _ _ ?_ (fun hHeld => ?_)
  · exact HRC.out w5 K25.out
  clear hK K
  (try simp only [Act.put, List.setIfInBounds_toArray, List.set_cons_zero, List.set_cons_succ, List.getElem_toArray, List.getElem_cons_zero, List.getElem_cons_succ])
  refine wpAnyH_take (i := 15) (oi := _) (v := ?va15) rfl (by kernel_rfl) (by kernel_rfl) (by kernel_rfl) (fun _ _ _ h => h) (Or.inl ⟨by rfl, ?hya15⟩) (by assumption) ?resta15
  case hya15 => (intro w hSw; (try dsimp only at hSw); (try simp only [List.getElem_toArray, List.getElem_cons_zero, List.getElem_cons_succ]); go_simp; (try with_reducible rfl))
  (try simp only [Act.put, List.setIfInBounds_toArray, List.set_cons_zero, List.set_cons_succ, List.getElem_toArray, List.getElem_cons_zero, List.getElem_cons_succ])
  refine wpAnyH_ready (rs := [16]) (by kernel_rfl) (by simp) ?_
  refine AllReadyH.cons (o := _) rfl (fun K hK => ?_) AllReadyH.nil
  (try simp only [List.getElem_toArray, List.getElem_cons_zero, List.getElem_cons_succ])
  go_simp
  refine hK.out _ _ ?_ (fun hHeld => ?_)
  · exact (by have hel : e < w5.heap.size := Nat.lt_of_lt_of_le HEL.out (Nat.le_trans K2.out.size K25.out.size); have hne : e ≠ q := (by have := HEL.out; have := HQQ.out; omega); have HX := HRC.out w5 K25.out; have hkk := ((Keep.refl (fun i => i = q) w5).own 19 (.pointer (some ⟨p3, 0, none⟩))); exact ⟨(hkk.cell (p := ⟨e, 19, none⟩) hel hne).trans HX.1, (hkk.cell (p := ⟨e, 20, none⟩) hel hne).trans HX.2.1, (hkk.cell (p := ⟨e, 21, none⟩) hel hne).trans HX.2.2⟩)
  clear hK K
  (try simp only [Act.put, List.setIfInBounds_toArray, List.set_cons_zero, List.set_cons_succ, List.getElem_toArray, List.getElem_cons_zero, List.getElem_cons_succ])
  refine wpAnyH_take (i := 17) (oi := _) (v := ?va17) rfl (by kernel_rfl) (by kernel_rfl) (by kernel_rfl) (fun _ _ _ h => h) (Or.inl ⟨by rfl, ?hya17⟩) (by assumption) ?resta17
  case hya17 => (intro w hSw; (try dsimp only at hSw); (try simp only [List.getElem_toArray, List.getElem_cons_zero, List.getElem_cons_succ]); go_simp; (try with_reducible rfl))
  (try simp only [Act.put, List.setIfInBounds_toArray, List.set_cons_zero, List.set_cons_succ, List.getElem_toArray, List.getElem_cons_zero, List.getElem_cons_succ])
  refine wpAnyH_ready (rs := [18]) (by kernel_rfl) (by simp) ?_
  refine AllReadyH.cons (o := _) rfl (fun K hK => ?_) AllReadyH.nil
  (try simp only [List.getElem_toArray, List.getElem_cons_zero, List.getElem_cons_succ])
  go_simp
  refine hK.out _ _ ?_ (fun hHeld => ?_)
  · exact (by have hel : e < w5.heap.size := Nat.lt_of_lt_of_le HEL.out (Nat.le_trans K2.out.size K25.out.size); have hne : e ≠ q := (by have := HEL.out; have := HQQ.out; omega); have HX := HRC.out w5 K25.out; have hkk := (((Keep.refl (fun i => i = q) w5).own 19 (.pointer (some ⟨p3, 0, none⟩))).own 20 (.pointer o4)); exact ⟨(hkk.cell (p := ⟨e, 19, none⟩) hel hne).trans HX.1, (hkk.cell (p := ⟨e, 20, none⟩) hel hne).trans HX.2.1, (hkk.cell (p := ⟨e, 21, none⟩) hel hne).trans HX.2.2⟩)
  clear hK K
  (try simp only [Act.put, List.setIfInBounds_toArray, List.set_cons_zero, List.set_cons_succ, List.getElem_toArray, List.getElem_cons_zero, List.getElem_cons_succ])
  refine wpAnyH_take (i := 19) (oi := _) (v := ?va19) rfl (by kernel_rfl) (by kernel_rfl) (by kernel_rfl) (fun _ _ _ h => h) (Or.inl ⟨by rfl, ?hya19⟩) (by assumption) ?resta19
  case hya19 => (intro w hSw; (try dsimp only at hSw); (try simp only [List.getElem_toArray, List.getElem_cons_zero, List.getElem_cons_succ]); go_simp; (try with_reducible rfl))
  (try simp only [Act.put, List.setIfInBounds_toArray, List.set_cons_zero, List.set_cons_succ, List.getElem_toArray, List.getElem_cons_zero, List.getElem_cons_succ])
  refine wpAnyH_ready (rs := [20]) (by kernel_rfl) (by simp) ?_
  refine AllReadyH.cons (o := _) rfl (fun K hK => ?_) AllReadyH.nil
  (try simp only [List.getElem_toArray, List.getElem_cons_zero, List.getElem_cons_succ])
  go_simp
  refine hK.out _ _ ?_ (fun hHeld => ?_)
  · exact (by have hel : e < w5.heap.size := Nat.lt_of_lt_of_le HEL.out (Nat.le_trans K2.out.size K25.out.size); have hne : e ≠ q := (by have := HEL.out; have := HQQ.out; omega); have HX := HRC.out w5 K25.out; have hkk := ((((Keep.refl (fun i => i = q) w5).own 19 (.pointer (some ⟨p3, 0, none⟩))).own 20 (.pointer o4)).own 21 (.pointer (some ⟨p5, 0, none⟩))); exact ⟨(hkk.cell (p := ⟨e, 19, none⟩) hel hne).trans HX.1, (hkk.cell (p := ⟨e, 20, none⟩) hel hne).trans HX.2.1, (hkk.cell (p := ⟨e, 21, none⟩) hel hne).trans HX.2.2⟩)
  clear hK K
  (try simp only [Act.put, List.setIfInBounds_toArray, List.set_cons_zero, List.set_cons_succ, List.getElem_toArray, List.getElem_cons_zero, List.getElem_cons_succ])
  refine wpAnyH_done (by kernel_rfl) ?_ _
  refine NoPanic.normal ?_
  go_wp2_with fail
  go_ret
  have hf := copy_fin (pv := pv) (m := m) K2.out HQ.out HC2.out HB3.out HB4.out HB5.out HP3.out.1 HP3.out.2 HG3.out HO4.out HP5.out.1 HP5.out.2 HS5.out HOK.out
  rw [← HQQ.out] at hf
  exact hf

theorem esc_moved {w w' : World} {e c : Nat} {b : BP} (h : EscC w e 0 b) (hm : ∀ i, i < 19 → ∀ v, Cell w e i v → Cell w' c i v) : EscC w' c 0 b := by
  refine ⟨hm _ (by omega) _ h.s, ⟨hm _ (by omega) _ h.u.c0, hm _ (by omega) _ h.u.c1, hm _ (by omega) _ h.u.c2, hm _ (by omega) _ h.u.c3, hm _ (by omega) _ h.u.c4, h.u.ok⟩, ⟨hm _ (by omega) _ h.g.m, hm _ (by omega) _ h.g.i, ⟨fun k hk => hm _ (by omega) _ (h.g.n.nn k hk), hm _ (by omega) _ h.g.n.cm, h.g.n.len, h.g.n.bd⟩, hm _ (by omega) _ h.g.t⟩⟩

/-- What Copy answers, with the parser. The copy shares the rules of what it was copied from: both are true of the world behind it, but they are not apart. -/
def CopyF (e k : Nat) (x : PL × EmM) (w : World) (v : Ending) (w' : World) : Prop :=
  ∃ c L', v = .returned (.pointer (some ⟨c, 0, none⟩)) ∧ w.heap.size ≤ c ∧ EmuF w' c L' k x ∧ Below w.heap.size w w' ∧ (∀ i, L'.T c i → w.heap.size ≤ i) ∧ w'.cell? ⟨c, 0, none⟩ = w.cell? ⟨e, 0, none⟩
theorem emu_copyF (w : World) (e k : Nat) (L : Loc) (x : PL × EmM) (h : EmuF w e L k x) :
    Calls Tryz.prog 15 #[.pointer (some ⟨e, 0, none⟩)] w (CopyF e k x w) := by
  obtain ⟨b, h1, h2, h3, h4⟩ := h.esc
  have hpar : ParC w e := by
    rcases h1.r with c | ⟨R, c, r, n⟩
    · exact h1.c.par c rfl
    · exact h1.c.par c rfl
  obtain ⟨pv, hp, hpo⟩ := hpar.pv
  refine (emu_copy w e L x.2 pv h.r (fun i hi => (hp i hi).1) hpo).mono ?_
  rintro v w' ⟨L', rfl, hr, hc, hT, hb⟩
  have K := Keep.of_below (fun _ => False) hb
  have hm : ∀ i, i < 19 → ∀ v, Cell w e i v → Cell w' w.heap.size i v := fun i hi v c => by
    have : some (pv i) = some v := (hp i hi).1.symm.trans c.1
    cases this
    exact hc i hi
  refine ⟨_, L', rfl, Nat.le_refl _, ⟨hr, ⟨b, ⟨esc_moved h1.c hm, ?_, h1.al⟩, h2, h3, h4⟩, ?_⟩, hb, hT, (hc 0 (by omega)).1.trans (hp 0 (by omega)).1.symm⟩
  · rcases h1.r with c | ⟨R, c, r, n⟩
    · exact .inl (hm 0 (by omega) _ c)
    · exact .inr ⟨R, hm 0 (by omega) _ c, r.keep K (fun x => x), by have := r.o0.lt; omega⟩
  · intro R hR hTR
    have := hT R hTR
    rcases h1.r with c | ⟨R', c, r, n⟩
    · have e1 := (hm 0 (by omega) _ c).1.symm.trans hR; simp at e1
    · have e1 := (hm 0 (by omega) _ c).1.symm.trans hR
      simp at e1
      subst e1
      have := r.o0.lt
      omega

end Go.Proofs.YtpmnbfifpenlkaaGreatDoor
