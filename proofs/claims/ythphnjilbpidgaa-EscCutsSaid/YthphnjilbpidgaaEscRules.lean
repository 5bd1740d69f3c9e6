/- esc.rules: rows makes the table, once. Own work (after nvt's XOpen). -/
import Derived.Test.YthphnjilbpidgaaEscRows
import Derived.Test.YthphnjilbpidgaaOnces
namespace Go.Proofs.Ythphnjilbpidgaa
set_option linter.unusedVariables false
set_option linter.unusedSimpArgs false
open Go.RowKit Go.MuLone

theorem run_storeVar_at {P : Program} (w : World) (b off : Nat) (ty : TypeId) (cells : Array Value) (hi : (P.info? ty).map (·.size) = some cells.size) (h1 : cells.all (·.oneCell') = true)
    (hc : ∀ j, j < cells.size → (w.cell? ⟨b, off + j, none⟩).isSome = true) (hf : ∀ j, j < cells.size → w.frozen? ⟨b, off + j, none⟩ = false) :
    (storeVar ty ⟨b, off, none⟩ (.agg cells)).run P w = .ok () (w.setCells b off cells.toList) := by
  have := run_storeCells_cells (P := P) b off cells.toList 0 w (by simpa using hc) (by simpa using hf) (fun v hv => (Array.all_eq_true_iff_forall_mem.1 h1) v (by simpa using hv))
  cases hq : P.info? ty with
  | none => simp [hq] at hi
  | some i =>
    have hs : cells.size = i.size := by simp [hq] at hi; omega
    simp [storeVar, sizeOf, typeInfo, hq, Value.cells, hs, this]

theorem wp_store_at {P : Program} {o : Oper} {a : Act} {w : World} {K : Act → World → Prop} {Q : Exit → Act → World → Prop} (ty : TypeId) (x y : Operand) (ho : o.op = .store ty x y)
    (b off : Nat) (cells : Array Value) (hx : a.eval x = .pointer (some ⟨b, off, none⟩)) (hy : a.eval y = .agg cells) (hi : (P.info? ty).map (·.size) = some cells.size) (h1 : cells.all (·.oneCell') = true)
    (hc : ∀ j, j < cells.size → (w.cell? ⟨b, off + j, none⟩).isSome = true) (hf : ∀ j, j < cells.size → w.frozen? ⟨b, off + j, none⟩ = false)
    (h : K (a.put o.dst undef) (w.setCells b off cells.toList)) : o.wp P a w K Q := by
  unfold Oper.wp execOp
  simp only [ho, hx, hy, Instr.storeAt, Instr.sureAddr, Sem.run_bind, Sem.run_pure, Result.andThen_ok, run_storeVar_at w b off ty cells hi h1 hc hf]
  exact h

theorem tabV_one : tabV.all (·.oneCell') = true := u8a_one _
theorem tabV_info : (Try.prog.info? 74).map (·.size) = some tabV.size := by rw [tabV_size]; exact table_info

/-- Behind the table's making. -/
def OpenTo (W : World) (p : Nat) (T : Array Value) (w' : World) : Prop := ∃ w1, Below W.heap.size W w1 ∧ w' = w1.setCells p 3 T.toList

set_option maxRecDepth 100000 in
set_option maxHeartbeats 1600000 in
/-- What the Once calls. -/
theorem rows_body (g p : Nat) (W : World) (hg : W.cell? ⟨g, 0, none⟩ = some (.pointer (some ⟨p, 0, none⟩))) (hc : ∀ j, j < 360 → (W.cell? ⟨p, 3 + j, none⟩).isSome = true) (hf : ∀ j, j < 360 → W.frozen? ⟨p, 3 + j, none⟩ = false) (hp : p < W.heap.size) (hgp : g ≠ p) :
    Calls Try.prog 28 #[.pointer (some ⟨g, 0, none⟩)] W fun e w' => e = .returned (.tuple #[]) ∧ OpenTo W p tabV w' := by
  obtain ⟨T, hT⟩ : ∃ T, T = tabV := ⟨_, rfl⟩
  have hmk := make_any
  have hi := tabV_info
  have h1 := tabV_one
  have hz := tabV_size
  rw [← hT] at hmk hi h1 hz ⊢
  have MK := Lib.hid hmk
  have HI := Lib.hid hi
  have H1 := Lib.hid h1
  have HC := Lib.hid hc
  have HF := Lib.hid hf
  have HZ := Lib.hid hz
  have HG := Lib.hid (World.block_lt_of_cell? W _ hg)
  have HW := Lib.hid hg
  clear hmk hi h1 hc hf hz hT
  go_enter Try.func28, Try.ntmps28
  go_wp2_with fail
  refine wp_region_noPanic ?_
  have HP := Lib.hid hp
  have HGP := Lib.hid hgp
  clear hp hgp
  refine wp_region_held_drew (S := fun w' => w'.cell? ⟨g, 0, none⟩ = some (.pointer (some ⟨p, 0, none⟩))) (by kernel_rfl) hg (fun hHeld => ?_)
  refine wpAnyH_take (i := 0) (oi := _) (v := ?va0) rfl (by kernel_rfl) (by kernel_rfl) (by kernel_rfl) (fun _ _ _ h => h) (Or.inl ⟨by rfl, ?hya0⟩) (by assumption) ?resta0
  case hya0 => (intro w hSw; (try dsimp only at hSw); (try simp only [List.getElem_toArray, List.getElem_cons_zero, List.getElem_cons_succ]); go_simp; (try with_reducible rfl))
  (try simp only [Act.put, List.setIfInBounds_toArray, List.set_cons_zero, List.set_cons_succ, List.getElem_toArray, List.getElem_cons_zero, List.getElem_cons_succ])
  refine wpAnyH_ready (rs := [1]) (by kernel_rfl) (by simp) ?_
  refine AllReadyH.cons (o := _) rfl (fun K hK => ?_) AllReadyH.nil
  (try simp only [List.getElem_toArray, List.getElem_cons_zero, List.getElem_cons_succ])
  go_simp
  (refine (MK.out _).mono ?_; rintro e w3 ⟨rfl, hb⟩; replace hb := ((Below.refl W.heap.size W).drew).trans hb; have B3 := Lib.hid hb; clear hb)
  refine hK.out _ _ ?_ (fun hHeld => ?_)
  · exact (B3.out.cell (p := ⟨g, 0, none⟩) HG.out).trans HW.out
  clear hK K
  (try simp only [Act.put, List.setIfInBounds_toArray, List.set_cons_zero, List.set_cons_succ, List.getElem_toArray, List.getElem_cons_zero, List.getElem_cons_succ])
  refine wpAnyH_take (i := 2) (oi := _) (v := ?va2) rfl (by kernel_rfl) (by kernel_rfl) (by kernel_rfl) (fun _ _ _ h => h) (Or.inl ⟨by rfl, ?hya2⟩) (by assumption) ?resta2
  case hya2 => (intro w hSw; (try dsimp only at hSw); (try simp only [List.getElem_toArray, List.getElem_cons_zero, List.getElem_cons_succ]); go_simp; (try with_reducible rfl))
  (try simp only [Act.put, List.setIfInBounds_toArray, List.set_cons_zero, List.set_cons_succ, List.getElem_toArray, List.getElem_cons_zero, List.getElem_cons_succ])
  refine wpAnyH_take (i := 3) (oi := _) (v := ?va3) rfl (by kernel_rfl) (by kernel_rfl) (by kernel_rfl) (fun _ _ _ h => h) (Or.inl ⟨by rfl, ?hya3⟩) (by assumption) ?resta3
  case hya3 => (intro w hSw; (try dsimp only at hSw); (try simp only [List.getElem_toArray, List.getElem_cons_zero, List.getElem_cons_succ]); go_simp; (try with_reducible rfl))
  (try simp only [Act.put, List.setIfInBounds_toArray, List.set_cons_zero, List.set_cons_succ, List.getElem_toArray, List.getElem_cons_zero, List.getElem_cons_succ])
  refine wpAnyH_ready (rs := [4]) (by kernel_rfl) (by simp) ?_
  refine AllReadyH.cons (o := _) rfl (fun K hK => ?_) AllReadyH.nil
  (try simp only [List.getElem_toArray, List.getElem_cons_zero, List.getElem_cons_succ])
  (rw [if_pos (by rfl)]; refine wp_store_at 74 (.tmp 4) (.tmp 2) rfl p 3 T rfl rfl HI.out H1.out (fun j hj => by rw [B3.out.cell (p := ⟨p, 3 + j, none⟩) HP.out]; exact HC.out j (by have := HZ.out; omega)) (fun j hj => by rw [B3.out.frozen (p := ⟨p, 3 + j, none⟩) HP.out]; exact HF.out j (by have := HZ.out; omega)) ?_)
  refine hK.out _ _ ?_ (fun hHeld => ?_)
  · exact (World.cell?_setCells_out _ _ _ _ _ (fun x _ => absurd x HGP.out)).trans ((B3.out.cell (p := ⟨g, 0, none⟩) HG.out).trans HW.out)
  clear hK K
  (try simp only [Act.put, List.setIfInBounds_toArray, List.set_cons_zero, List.set_cons_succ, List.getElem_toArray, List.getElem_cons_zero, List.getElem_cons_succ])
  refine wpAnyH_done (by kernel_rfl) ?_ _
  refine NoPanic.normal ?_
  go_end0
  exact ⟨rfl, w3, B3.out, rfl⟩

/-- Cells beside the table, and of it. -/
theorem OpenTo.out {W w' : World} {p : Nat} (h : OpenTo W p tabV w') {o : Nat} {v : Value} (c : Cell W p o v) (ho : o < 3) : Cell w' p o v := by
  obtain ⟨w1, hb, rfl⟩ := h
  have c1 : Cell w1 p o v := c.keep (Keep.of_below (fun _ => False) hb) (fun x => x)
  exact ⟨(World.cell?_setCells_out _ _ _ _ _ (fun _ _ => by show o < 3 ∨ _; omega)).trans c1.1, (World.frozen?_setCells _ _ _ _ _).trans c1.2⟩
theorem tabV_list : tabV.toList.length = 360 := by rw [Array.length_toList, tabV_size]
theorem OpenTo.tab {W w' : World} {p : Nat} (h : OpenTo W p tabV w') (hc : ∀ i, i < 360 → ∃ v, Cell W p (3 + i) v) {i : Nat} (hi : i < 360) : Cell w' p (3 + i) (.int .u8 ((tabE.getD i 0 : Nat) : Int)) := by
  obtain ⟨w1, hb, rfl⟩ := h
  have hl := tabV_list
  refine ⟨?_, ?_⟩
  · rw [World.cell?_setCells_in p tabV.toList 3 w1 (fun j hj => ?_) i (by omega)]
    · have hx := u8a_at tabE i (by have := tabV_size; rw [tabV, u8a_size] at this; omega)
      have e : tabV.toList[i]'(by omega) = .int .u8 ((tabE.getD i 0 : Nat) : Int) := by
        have h2 : tabV.toList[i]? = some (.int .u8 ((tabE.getD i 0 : Nat) : Int)) := by rw [Array.getElem?_toList]; exact hx
        rw [List.getElem?_eq_getElem (by omega)] at h2
        injection h2
      rw [e]
    · obtain ⟨v, c⟩ := hc j (by omega)
      rw [hb.cell (p := ⟨p, 3 + j, none⟩) c.lt, c.1]
      rfl
  · obtain ⟨v, c⟩ := hc i hi
    rw [World.frozen?_setCells, hb.frozen (p := ⟨p, 3 + i, none⟩) c.lt]
    exact c.2
theorem OpenTo.keep {W w' : World} {p : Nat} (h : OpenTo W p tabV w') : Keep (· = p) W w' := by
  obtain ⟨w1, hb, rfl⟩ := h
  exact keep_setCells (S := fun x => x = p) p (fun _ => rfl) _ _ _ (Keep.of_below _ hb)

/-- esc.rules at p. -/
structure RulesAt (w : World) (p : Nat) (made : Bool) : Prop where
  o0 : Cell w p 0 (.int .u32 (if made = true then 1 else 0))
  o1 : Cell w p 1 (.int .i32 0)
  tab : ∀ i, i < 360 → ∃ v, Cell w p (3 + i) v ∧ (made = true → v = .int .u8 ((tabE.getD i 0 : Nat) : Int))
namespace RulesAt
variable {w w' : World} {p : Nat} {made : Bool}
theorem lt (h : RulesAt w p made) : p < w.heap.size := h.o0.lt
theorem keep {S : Nat → Prop} (h : RulesAt w p made) (k : Keep S w w') (hp : ¬ S p) : RulesAt w' p made :=
  ⟨h.o0.keep k hp, h.o1.keep k hp, fun i hi => by obtain ⟨v, a, b⟩ := h.tab i hi; exact ⟨v, a.keep k hp, b⟩⟩
theorem alloc (h : RulesAt w p made) (o : Obj) : RulesAt (w.alloc o) p made := h.keep (S := fun _ => False) ((Keep.refl _ w).alloc o) (fun x => x)
theorem at' (h : RulesAt w p true) {i : Nat} (hi : i < 360) : w.cell? ⟨p, 3 + i, none⟩ = some (.int .u8 ((tabE.getD i 0 : Nat) : Int)) := by
  obtain ⟨v, a, b⟩ := h.tab i hi
  rw [a.1, b rfl]
end RulesAt

theorem do_rows_first (p : Nat) (w : World) (h : RulesAt w p false) :
    Calls Try.prog 27 #[.pointer (some ⟨p, 0, none⟩), .func (.func 28) #[] #[.pointer (some ⟨w.heap.size, 0, none⟩)]] (w.alloc (.cells #[.pointer (some ⟨p, 0, none⟩)] 25)) fun e w' =>
      e = .returned (.tuple #[]) ∧ RulesAt w' p true ∧ Keep (· = p) w w' ∧ w'.cell? ⟨w.heap.size, 0, none⟩ = some (.pointer (some ⟨p, 0, none⟩)) := by
  have hp := h.lt
  obtain ⟨W0, hW0⟩ : ∃ W0, W0 = w.alloc (.cells #[.pointer (some ⟨p, 0, none⟩)] 25) := ⟨_, rfl⟩
  have k0 : Keep (· = p) w W0 := by rw [hW0]; exact (Keep.refl _ w).alloc _
  have h0 : RulesAt W0 p false := by rw [hW0]; exact h.alloc _
  have g0 : Cell W0 w.heap.size 0 (.pointer (some ⟨p, 0, none⟩)) := by rw [hW0]; exact Cell.box 0 rfl
  rw [← hW0]
  obtain ⟨Wh, hWh⟩ : ∃ Wh, Wh = W0.setCell ⟨p, 1, none⟩ (.int .i32 1) := ⟨_, rfl⟩
  have kh : Keep (· = p) W0 Wh := by rw [hWh]; exact keep_set W0 p 1 _
  have hhc : ∀ {o v}, o ≠ 1 → Cell W0 p o v → Cell Wh p o v := fun ho c => by rw [hWh]; exact c.far (by omega) _
  have hh1 : Cell Wh p 1 (.int .i32 1) := by rw [hWh]; exact h0.o1.set _
  have gh : Cell Wh w.heap.size 0 (.pointer (some ⟨p, 0, none⟩)) := g0.keep kh (by omega)
  have hbody := rows_body w.heap.size p Wh gh.1 (fun j hj => by obtain ⟨v, a, _⟩ := h0.tab j hj; rw [(hhc (by omega) a).1]; rfl) (fun j hj => by obtain ⟨v, a, _⟩ := h0.tab j hj; exact (hhc (by omega) a).2) (by exact (hhc (by omega) h0.o0).lt) (by omega)
  have hd := do_first p 0 28 #[.pointer (some ⟨w.heap.size, 0, none⟩)] (OpenTo Wh p tabV) W0 ⟨h0.o0.1, h0.o0.2, h0.o1.1, h0.o1.2⟩
    (fun W => MuLone.run_callFunc_enter Try.func28 (by kernel_rfl) rfl _ W) (by rw [← hWh]; exact hbody)
    (fun w' hw => ⟨(hw.out (hhc (by omega) h0.o0) (by omega)).1, (hw.out (hhc (by omega) h0.o0) (by omega)).2, (hw.out hh1 (by omega)).1, (hw.out hh1 (by omega)).2⟩)
  refine hd.mono ?_
  rintro e w' ⟨rfl, w2, h2, rfl⟩
  have fin : ∀ {o v}, o ≠ 0 → o ≠ 1 → Cell w2 p o v → Cell (onceDone p 0 w2) p o v := fun h1 h2 c => (c.drew.far (by omega) _).far (by omega) _
  have kk : Keep (· = p) w (onceDone p 0 w2) := ((k0.trans kh (fun _ _ x => x)).trans h2.keep (fun _ _ x => x)).trans (keep_done p 0 w2) (fun _ _ x => x)
  refine ⟨rfl, ⟨((h2.out (hhc (by omega) h0.o0) (by omega)).drew.set _).far (by omega) _, ((h2.out hh1 (by omega)).drew.far (by omega) _).set _, fun i hi => ⟨_, fin (by omega) (by omega) (h2.tab (fun j hj => by obtain ⟨v, a, _⟩ := h0.tab j hj; exact ⟨v, hhc (by omega) a⟩) hi), fun _ => rfl⟩⟩, kk, ?_⟩
  have kg : Keep (· = p) Wh (onceDone p 0 w2) := h2.keep.trans (keep_done p 0 w2) (fun _ _ x => x)
  exact (gh.keep kg (by omega)).1

/-- rows, the first time. -/
theorem rows_first (p : Nat) (w : World) (h : RulesAt w p false) :
    Calls Try.prog 20 #[.pointer (some ⟨p, 0, none⟩)] w fun e w' => e = .returned (.pointer (some ⟨p, 3, none⟩)) ∧ RulesAt w' p true ∧ Keep (· = p) w w' := by
  have HD := Lib.hid (do_rows_first p w h)
  clear h
  go_enter Try.func20, Try.ntmps20
  go_wp2_with fail
  refine HD.out.mono ?_
  rintro e w1 ⟨rfl, h1, k1, c1⟩
  have H1 := Lib.hid h1
  have K1 := Lib.hid k1
  clear h1 k1
  go_wp2_with fail
  go_ret
  exact ⟨rfl, H1.out, K1.out⟩

/-- rows, later. -/
theorem rows_again (p : Nat) (w : World) (h : RulesAt w p true) :
    Calls Try.prog 20 #[.pointer (some ⟨p, 0, none⟩)] w fun e w' => e = .returned (.pointer (some ⟨p, 3, none⟩)) ∧ Keep (fun _ => False) w w' := by
  have h0 := h.alloc (.cells #[.pointer (some ⟨p, 0, none⟩)] 25)
  have HD := Lib.hid (do_done p 0 (.func (.func 28) #[] #[.pointer (some ⟨w.heap.size, 0, none⟩)]) _ ⟨h0.o0.1, h0.o0.2, h0.o1.1, h0.o1.2⟩)
  clear h h0
  go_enter Try.func20, Try.ntmps20
  go_wp2_with fail
  refine HD.out.mono ?_
  rintro e w1 ⟨rfl, rfl⟩
  go_wp2_with fail
  go_ret
  exact ⟨rfl, (Keep.refl _ w).alloc _⟩

end Go.Proofs.Ythphnjilbpidgaa
