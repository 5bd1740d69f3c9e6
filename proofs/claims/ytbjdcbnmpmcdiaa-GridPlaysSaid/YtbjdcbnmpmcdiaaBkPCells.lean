/- pontoonbook.Book: one more list of Cells. By program (bkput.py). Own work. -/
import Derived.Test.YtbjdcbnmpmcdiaaBkCells
import Derived.Test.YtbjdcbnmpmcdiaaBkMore
import Derived.Test.YtbjdcbnmpmcdiaaBkCCells
namespace Go.Proofs.Ytbjdcbnmpmcdiaa
set_option linter.unusedVariables false
set_option linter.unusedSimpArgs false
open Go.RowKit

set_option maxRecDepth 100000 in
set_option maxHeartbeats 3200000 in
theorem put_Cells (w : World) (q : Nat) (own rd : Nat → Prop) (tA wA : Option Addr) (tc wc : Nat) (its ws : List ItZ) (h : KS 6 10 (SmCells rd) w q own tA tc wA wc its ws) (hrd : ∀ i, rd i → i < w.heap.size ∧ i ≠ q ∧ ¬ own i) (it : ItZ)
    (hit : BufZ 6 w it.A it.n it.c it.us) (hsm : SmCells rd w it.us it.us) (hn : it.n ≤ 4000) (hfar : ∀ k, blk it.A = some k → ¬ own k ∧ k ≠ q) (hfew : its.length < 250) :
    Calls Try.prog 30 #[.pointer (some ⟨q, 0, none⟩), .slice it.A it.n it.c] w fun e w' => e = .returned (.tuple #[]) ∧
      ∃ (own' rd2 : Nat → Prop) (tA' : Option Addr) (tc' : Nat) (wA' : Option Addr) (wc' : Nat) (wt : ItZ), KS 6 10 (SmCells (fun i => rd i ∨ rd2 i)) w' q own' tA' tc' wA' wc' (its ++ [it]) (ws ++ [wt]) ∧ Keep (fun k => k = q ∨ own k) w w' ∧ Beside q 10 w w' ∧ (∀ k, own' k → own k ∨ blk it.A = some k ∨ w.heap.size ≤ k) ∧ ∀ i, rd2 i → w.heap.size ≤ i ∧ blk it.A ≠ some i := by
  obtain ⟨i0, hi0, hz0, hz1, hz2⟩ := info_parts bookinfo_Cells
  have c0 := h.b0.1
  have f0 := h.b0.2
  have hq := h.lq
  have H := Lib.hid h
  have HI := Lib.hid hit
  have HRD := Lib.hid hrd
  have HSM := Lib.hid hsm
  have hft : decide ((its.length : Int) < 250) = true := by simp; omega
  have nA : ∀ k, blk tA = some k → k ≠ q := fun k hk e => h.nq (e ▸ h.oA k hk)
  have HNA := Lib.hid nA
  clear h hit hrd hsm nA
  go_enter Try.func30, Try.ntmps30
  go_wp2_with (at_builtin; refine wpList_append_buf _ rfl (.tmp 14) (.tmp 16) 34 rfl 43 i0 (.slice none 0 0) 24 Try.underlying34 hi0 hz0 hz1 hz2 rfl rfl (H.out.rows.keep ((Keep.refl (fun _ => False) w).alloc _) (fun _ _ x => x)) [it.val] rfl (src_one _ _ _ rfl) (by simp [ItZ.val, Value.oneCell']) ?h1 ?h2 ?_)
  case h1 => unfold maxLen; omega
  case h2 => omega
  intro A2 c2 w2 a2 k2 p2
  have A2h := Lib.hid a2
  have K2 := Lib.hid k2
  have P2 := Lib.hid p2
  have cq2 : ∀ j v, Cell w q j v → Cell w2 q j v := fun j v hc => (hc.alloc _).keep k2 (fun e => HNA.out q e rfl)
  have hd0 := (cq2 _ _ H.out.b0).1
  have hf0 := (cq2 _ _ H.out.b0).2
  have B2 := Lib.hid (cq2 _ _ H.out.b1)
  have kw : Keep (fun k => blk tA = some k) w w2 := ((Keep.refl (fun k => blk tA = some k) w).alloc _).trans k2 (fun _ _ x => x)
  have KW := Lib.hid kw
  clear a2 k2 p2 kw cq2
  go_wp2_with fail
  obtain ⟨w3, hw3⟩ : ∃ w3, w3 = w2.setCell ⟨q, 10, none⟩ (.slice A2 (its.length + 1) c2) := ⟨_, rfl⟩
  have E3 := Lib.hid hw3
  have B3 : Hid (Cell w3 q 11 (.slice wA its.length wc)) := Lib.hid (by rw [hw3]; exact B2.out.far (by omega) _)
  have K3 : Hid (Keep (fun k => k = q ∨ blk tA = some k) w w3) := Lib.hid (by
    rw [hw3]
    exact (KW.out.mono (S' := fun k => k = q ∨ blk tA = some k) (fun _ _ x => .inr x)).trans (keep_set w2 q 10 _) (fun _ _ x => .inl x))
  rw [← hw3]
  clear hw3 hd0 hf0 c0 f0
  have e1 := B3.out.1
  have HD : Hid (∀ k, blk wA = some k → k ≠ q) := Lib.hid (fun k hk e => H.out.nq (e ▸ H.out.oW k hk))
  have HC : Hid (∀ W, Keep (fun k => k = q ∨ blk tA = some k) w W → Calls Try.prog 49 #[.slice it.A it.n it.c] W fun e w' => ∃ (v : Value) (vs : List Value) (rd2 : Nat → Prop), e = .returned v ∧ w'.ownsRow W.heap.size 42 6 v it.n vs ∧ Below W.heap.size W w' ∧ SmCells (fun i => rd i ∨ rd2 i) w' it.us vs ∧ ∀ i, rd2 i → W.heap.size ≤ i ∧ i < w'.heap.size) := Lib.hid (fun W hW =>
    copy'_Cells rd it.A it.n it.c it.us W (HI.out.src.of_keep hW (fun k hk e => by
      rcases e with e | e
      · exact (hfar k hk).2 e
      · exact (hfar k hk).1 (H.out.oA k e))) (smkept_Cells rd _ _ _ hW (fun i hi => ⟨(HRD.out i hi).1, fun e => by
      rcases e with e | e
      · exact (HRD.out i hi).2.1 e
      · exact (HRD.out i hi).2.2 (H.out.oA i e)⟩) _ _ HSM.out) (fun i hi => Nat.lt_of_lt_of_le (HRD.out i hi).1 hW.size) (by omega))
  have W4 : Hid (∀ w4, Below w3.heap.size w3 w4 → ∀ o : Obj, Buf (w4.alloc o) wA its.length wc (ws.map ItZ.val)) := Lib.hid (fun w4 hb o =>
    ((H.out.was.keep K3.out (fun k hk e => by
      rcases e with e | e
      · exact HD.out k hk e
      · exact H.out.d2 k hk e)).keep (Keep.of_below (fun _ => False) hb) (fun _ _ x => x)).keep (S := fun _ => False) ((Keep.refl _ w4).alloc o) (fun _ _ x => x))
  refine wp_region_noPanic ?_
  refine wp_region_held_drew (S := fun _ => True) (by kernel_rfl) trivial (fun hHeld => ?_)
  refine wpAnyH_take (i := 0) (oi := _) (v := ?va0) rfl (by kernel_rfl) (by kernel_rfl) (by kernel_rfl) (fun _ _ _ h => h) (Or.inl ⟨by rfl, ?hya0⟩) (by assumption) ?resta0
  case hya0 => (intro w hSw; (try dsimp only at hSw); (try simp only [List.getElem_toArray, List.getElem_cons_zero, List.getElem_cons_succ]); go_simp; (try with_reducible rfl))
  (try simp only [Act.put, List.setIfInBounds_toArray, List.set_cons_zero, List.set_cons_succ, List.getElem_toArray, List.getElem_cons_zero, List.getElem_cons_succ])
  refine wpAnyH_take (i := 1) (oi := _) (v := ?va1) rfl (by kernel_rfl) (by kernel_rfl) (by kernel_rfl) (fun _ _ _ h => h) (Or.inl ⟨by rfl, ?hya1⟩) (by assumption) ?resta1
  case hya1 => (intro w hSw; (try dsimp only at hSw); (try simp only [List.getElem_toArray, List.getElem_cons_zero, List.getElem_cons_succ]); go_simp; (try with_reducible rfl))
  (try simp only [Act.put, List.setIfInBounds_toArray, List.set_cons_zero, List.set_cons_succ, List.getElem_toArray, List.getElem_cons_zero, List.getElem_cons_succ])
  refine wpAnyH_take (i := 2) (oi := _) (v := ?va2) rfl (by kernel_rfl) (by kernel_rfl) (by kernel_rfl) (fun _ _ _ h => h) (Or.inl ⟨by rfl, ?hya2⟩) (by assumption) ?resta2
  case hya2 => (intro w hSw; (try dsimp only at hSw); (try simp only [List.getElem_toArray, List.getElem_cons_zero, List.getElem_cons_succ]); go_simp; (try with_reducible rfl))
  (try simp only [Act.put, List.setIfInBounds_toArray, List.set_cons_zero, List.set_cons_succ, List.getElem_toArray, List.getElem_cons_zero, List.getElem_cons_succ])
  refine wpAnyH_take (i := 3) (oi := _) (v := ?va3) rfl (by kernel_rfl) (by kernel_rfl) (by kernel_rfl) (fun _ _ _ h => h) (Or.inl ⟨by rfl, ?hya3⟩) (by assumption) ?resta3
  case hya3 => (intro w hSw; (try dsimp only at hSw); (try simp only [List.getElem_toArray, List.getElem_cons_zero, List.getElem_cons_succ]); go_simp; (try with_reducible rfl))
  (try simp only [Act.put, List.setIfInBounds_toArray, List.set_cons_zero, List.set_cons_succ, List.getElem_toArray, List.getElem_cons_zero, List.getElem_cons_succ])
  refine wpAnyH_take (i := 5) (oi := _) (v := ?va5) rfl (by kernel_rfl) (by kernel_rfl) (by kernel_rfl) (fun _ _ _ h => h) (Or.inl ⟨by rfl, ?hya5⟩) (by assumption) ?resta5
  case hya5 => (intro w hSw; (try dsimp only at hSw); (try simp only [List.getElem_toArray, List.getElem_cons_zero, List.getElem_cons_succ]); go_simp; (try with_reducible rfl))
  (try simp only [Act.put, List.setIfInBounds_toArray, List.set_cons_zero, List.set_cons_succ, List.getElem_toArray, List.getElem_cons_zero, List.getElem_cons_succ])
  refine wpAnyH_ready (rs := [4, 6]) (by kernel_rfl) (by simp) ?_
  refine AllReadyH.cons (o := _) rfl (fun K hK => ?_) (AllReadyH.cons (o := _) rfl (fun K hK => ?_) AllReadyH.nil)
  · (try simp only [List.getElem_toArray, List.getElem_cons_zero, List.getElem_cons_succ])
    go_simp
    refine hK.out _ _ trivial (fun hHeld => ?_)
    clear hK K
    (try simp only [Act.put, List.setIfInBounds_toArray, List.set_cons_zero, List.set_cons_succ, List.getElem_toArray, List.getElem_cons_zero, List.getElem_cons_succ])
    refine wpAnyH_ready (rs := [6]) (by kernel_rfl) (by simp) ?_
    refine AllReadyH.cons (o := _) rfl (fun K hK => ?_) AllReadyH.nil
    (try simp only [List.getElem_toArray, List.getElem_cons_zero, List.getElem_cons_succ])
    go_simp
    (refine (HC.out _ ?_).mono ?_; (first | exact K3.out | exact K3.out.drew); rintro r w4 ⟨v, vs, rd2, rfl, q1, q2, q3, q4⟩; obtain ⟨cA, cc, rfl, -⟩ := own_form q1; have Q1 := Lib.hid q1; have Q2 : Hid (Below w3.heap.size w3 w4) := ⟨q2.os, q2.tape, q2.output, q2.size, q2.block⟩; have Q3 := Lib.hid q3; have Q4 := Lib.hid q4; have d1 := (B3.out.keep (Keep.of_below (fun _ => False) Q2.out) (fun x => x)).1; have g1 := (B3.out.keep (Keep.of_below (fun _ => False) Q2.out) (fun x => x)).2; have dA := (World.cell?_alloc_past (w := w4) (.cells #[.slice cA it.n cc] 43) q 11 (by have := B3.out.lt; have := Q2.out.size; omega)).trans d1; clear q1 q2 q3 q4)
    refine hK.out _ _ ?_ (fun hHeld => ?_)
    · exact trivial
    clear hK K
    (try simp only [Act.put, List.setIfInBounds_toArray, List.set_cons_zero, List.set_cons_succ, List.getElem_toArray, List.getElem_cons_zero, List.getElem_cons_succ])
    refine wpAnyH_ready (rs := [7]) (by kernel_rfl) (by simp) ?_
    refine AllReadyH.cons (o := _) rfl (fun K hK => ?_) AllReadyH.nil
    (try simp only [List.getElem_toArray, List.getElem_cons_zero, List.getElem_cons_succ])
    go_simp
    refine hK.out _ _ ?_ (fun hHeld => ?_)
    · exact trivial
    clear hK K
    (try simp only [Act.put, List.setIfInBounds_toArray, List.set_cons_zero, List.set_cons_succ, List.getElem_toArray, List.getElem_cons_zero, List.getElem_cons_succ])
    refine wpAnyH_ready (rs := [8]) (by kernel_rfl) (by simp) ?_
    refine AllReadyH.cons (o := _) rfl (fun K hK => ?_) AllReadyH.nil
    (try simp only [List.getElem_toArray, List.getElem_cons_zero, List.getElem_cons_succ])
    (rw [if_pos (by rfl)]; refine wp_append_buf _ (.tmp 24) (.tmp 27) 34 rfl 43 i0 (.slice none 0 0) 24 Try.underlying34 hi0 hz0 hz1 hz2 rfl rfl (W4.out _ Q2.out _) [.slice cA it.n cc] rfl (src_one _ _ _ rfl) (by simp [Value.oneCell']) (by unfold maxLen; omega) (by omega) ?_; intro A5 c5 w5 a5 k5 p5; have A5h := Lib.hid a5; have K5 := Lib.hid k5; have P5 := Lib.hid p5; have d5 := (k5.cell (p := ⟨q, 11, none⟩) (by have := B3.out.lt; have := Q2.out.size; simp; omega) (fun x => (HD.out q x) rfl)).trans ((World.cell?_alloc_past _ _ _ (by have := B3.out.lt; have := Q2.out.size; omega)).trans d1); have g5 := (k5.frozen (p := ⟨q, 11, none⟩) (by have := B3.out.lt; have := Q2.out.size; simp; omega) (fun x => (HD.out q x) rfl)).trans ((World.frozen?_alloc_past _ _ _ (by have := B3.out.lt; have := Q2.out.size; omega)).trans g1); clear a5 k5 p5)
    refine hK.out _ _ ?_ (fun hHeld => ?_)
    · exact trivial
    clear hK K
    (try simp only [Act.put, List.setIfInBounds_toArray, List.set_cons_zero, List.set_cons_succ, List.getElem_toArray, List.getElem_cons_zero, List.getElem_cons_succ])
    refine wpAnyH_take (i := 9) (oi := _) (v := ?vc9) rfl (by kernel_rfl) (by kernel_rfl) (by kernel_rfl) (fun _ _ _ h => h) (Or.inl ⟨by rfl, ?hyc9⟩) (by assumption) ?restc9
    case hyc9 => (intro w hSw; (try dsimp only at hSw); (try simp only [List.getElem_toArray, List.getElem_cons_zero, List.getElem_cons_succ]); go_simp; (try with_reducible rfl))
    (try simp only [Act.put, List.setIfInBounds_toArray, List.set_cons_zero, List.set_cons_succ, List.getElem_toArray, List.getElem_cons_zero, List.getElem_cons_succ])
    refine wpAnyH_take (i := 10) (oi := _) (v := ?vc10) rfl (by kernel_rfl) (by kernel_rfl) (by kernel_rfl) (fun _ _ _ h => h) (Or.inl ⟨by rfl, ?hyc10⟩) (by assumption) ?restc10
    case hyc10 => (intro w hSw; (try dsimp only at hSw); (try simp only [List.getElem_toArray, List.getElem_cons_zero, List.getElem_cons_succ]); go_simp; (try with_reducible rfl))
    (try simp only [Act.put, List.setIfInBounds_toArray, List.set_cons_zero, List.set_cons_succ, List.getElem_toArray, List.getElem_cons_zero, List.getElem_cons_succ])
    refine wpAnyH_ready (rs := [11]) (by kernel_rfl) (by simp) ?_
    refine AllReadyH.cons (o := _) rfl (fun K hK => ?_) AllReadyH.nil
    (try simp only [List.getElem_toArray, List.getElem_cons_zero, List.getElem_cons_succ])
    go_simp
    refine hK.out _ _ ?_ (fun hHeld => ?_)
    · exact trivial
    clear hK K
    (try simp only [Act.put, List.setIfInBounds_toArray, List.set_cons_zero, List.set_cons_succ, List.getElem_toArray, List.getElem_cons_zero, List.getElem_cons_succ])
    refine wpAnyH_done (by kernel_rfl) ?_ _
    refine NoPanic.normal ?_
    go_wp2_with fail
    go_end0
    refine ⟨rfl, ?_⟩
    have hqs := H.out.lq
    have q2s := Q2.out.size
    have e3s : w.heap.size ≤ w3.heap.size := K3.out.size
    obtain ⟨own', h1, h2, h3, h4⟩ := H.out.more (Sm' := SmCells (fun i => rd i ∨ rd2 i)) it ⟨cA, it.n, cc, vs⟩ HI.out hn hfar ((Keep.refl _ w).alloc _) A2h.out K2.out (fun k hk => by simpa using P2.out k hk) E3.out (w4 := w4.alloc (.cells #[.slice cA it.n cc] 43)) ((BufZ.of_own Q1.out).keep (S := fun _ => False) ((Keep.refl _ _).alloc _) (fun _ _ x => x)) ((Keep.of_below (fun _ => False) Q2.out).alloc _) (fun k hk => by have := (Q1.out.lt k (by rw [ownBlock_slice]; exact hk)).1; exact this) A5h.out K5.out P5.out rfl
      (fun a b kk hab => weaker_Cells (smkept_Cells rd _ _ _ kk (fun i hi => ⟨(HRD.out i hi).1, fun e => by
        rcases e with e | e
        · exact (HRD.out i hi).2.1 e
        · exact (HRD.out i hi).2.2 e⟩) a b hab) (fun i hi => .inl hi))
      ⟨rfl, fun _ kk => smkept_Cells (fun i => rd i ∨ rd2 i) _ _ _ (((Keep.refl (fun k => k = q ∨ blk wA = some k) w4).alloc _).trans kk (fun _ _ x => x)) (fun i hi => by
        rcases hi with hi | hi
        · refine ⟨by have := (HRD.out i hi).1; omega, fun e => ?_⟩
          rcases e with e | e
          · exact (HRD.out i hi).2.1 e
          · exact (HRD.out i hi).2.2 (H.out.oW i e)
        · have h5 := Q4.out i hi
          have h6 : w3.heap.size ≤ i := h5.1
          refine ⟨h5.2, fun e => ?_⟩
          rcases e with e | e
          · omega
          · have := H.out.lt i (H.out.oW i e); omega) _ _ Q3.out⟩
    exact ⟨own', rd2, _, _, _, _, _, h1, h2, h3, h4, fun i hi => by have h6 : w3.heap.size ≤ i := (Q4.out i hi).1; exact ⟨by omega, fun e => by have := HI.out.lt e; omega⟩⟩
  · (try simp only [List.getElem_toArray, List.getElem_cons_zero, List.getElem_cons_succ])
    go_simp
    (refine (HC.out _ ?_).mono ?_; (first | exact K3.out | exact K3.out.drew); rintro r w4 ⟨v, vs, rd2, rfl, q1, q2, q3, q4⟩; obtain ⟨cA, cc, rfl, -⟩ := own_form q1; have Q1 := Lib.hid q1; have Q2 : Hid (Below w3.heap.size w3 w4) := ⟨q2.os, q2.tape, q2.output, q2.size, q2.block⟩; have Q3 := Lib.hid q3; have Q4 := Lib.hid q4; have d1 := (B3.out.keep (Keep.of_below (fun _ => False) Q2.out) (fun x => x)).1; have g1 := (B3.out.keep (Keep.of_below (fun _ => False) Q2.out) (fun x => x)).2; have dA := (World.cell?_alloc_past (w := w4) (.cells #[.slice cA it.n cc] 43) q 11 (by have := B3.out.lt; have := Q2.out.size; omega)).trans d1; clear q1 q2 q3 q4)
    refine hK.out _ _ trivial (fun hHeld => ?_)
    clear hK K
    (try simp only [Act.put, List.setIfInBounds_toArray, List.set_cons_zero, List.set_cons_succ, List.getElem_toArray, List.getElem_cons_zero, List.getElem_cons_succ])
    refine wpAnyH_ready (rs := [4, 7]) (by kernel_rfl) (by simp) ?_
    refine AllReadyH.cons (o := _) rfl (fun K hK => ?_) (AllReadyH.cons (o := _) rfl (fun K hK => ?_) AllReadyH.nil)
    · (try simp only [List.getElem_toArray, List.getElem_cons_zero, List.getElem_cons_succ])
      go_simp
      refine hK.out _ _ trivial (fun hHeld => ?_)
      clear hK K
      (try simp only [Act.put, List.setIfInBounds_toArray, List.set_cons_zero, List.set_cons_succ, List.getElem_toArray, List.getElem_cons_zero, List.getElem_cons_succ])
      refine wpAnyH_ready (rs := [7]) (by kernel_rfl) (by simp) ?_
      refine AllReadyH.cons (o := _) rfl (fun K hK => ?_) AllReadyH.nil
      (try simp only [List.getElem_toArray, List.getElem_cons_zero, List.getElem_cons_succ])
      go_simp
      refine hK.out _ _ ?_ (fun hHeld => ?_)
      · exact trivial
      clear hK K
      (try simp only [Act.put, List.setIfInBounds_toArray, List.set_cons_zero, List.set_cons_succ, List.getElem_toArray, List.getElem_cons_zero, List.getElem_cons_succ])
      refine wpAnyH_ready (rs := [8]) (by kernel_rfl) (by simp) ?_
      refine AllReadyH.cons (o := _) rfl (fun K hK => ?_) AllReadyH.nil
      (try simp only [List.getElem_toArray, List.getElem_cons_zero, List.getElem_cons_succ])
      (rw [if_pos (by rfl)]; refine wp_append_buf _ (.tmp 24) (.tmp 27) 34 rfl 43 i0 (.slice none 0 0) 24 Try.underlying34 hi0 hz0 hz1 hz2 rfl rfl (W4.out _ Q2.out _) [.slice cA it.n cc] rfl (src_one _ _ _ rfl) (by simp [Value.oneCell']) (by unfold maxLen; omega) (by omega) ?_; intro A5 c5 w5 a5 k5 p5; have A5h := Lib.hid a5; have K5 := Lib.hid k5; have P5 := Lib.hid p5; have d5 := (k5.cell (p := ⟨q, 11, none⟩) (by have := B3.out.lt; have := Q2.out.size; simp; omega) (fun x => (HD.out q x) rfl)).trans ((World.cell?_alloc_past _ _ _ (by have := B3.out.lt; have := Q2.out.size; omega)).trans d1); have g5 := (k5.frozen (p := ⟨q, 11, none⟩) (by have := B3.out.lt; have := Q2.out.size; simp; omega) (fun x => (HD.out q x) rfl)).trans ((World.frozen?_alloc_past _ _ _ (by have := B3.out.lt; have := Q2.out.size; omega)).trans g1); clear a5 k5 p5)
      refine hK.out _ _ ?_ (fun hHeld => ?_)
      · exact trivial
      clear hK K
      (try simp only [Act.put, List.setIfInBounds_toArray, List.set_cons_zero, List.set_cons_succ, List.getElem_toArray, List.getElem_cons_zero, List.getElem_cons_succ])
      refine wpAnyH_take (i := 9) (oi := _) (v := ?ve9) rfl (by kernel_rfl) (by kernel_rfl) (by kernel_rfl) (fun _ _ _ h => h) (Or.inl ⟨by rfl, ?hye9⟩) (by assumption) ?reste9
      case hye9 => (intro w hSw; (try dsimp only at hSw); (try simp only [List.getElem_toArray, List.getElem_cons_zero, List.getElem_cons_succ]); go_simp; (try with_reducible rfl))
      (try simp only [Act.put, List.setIfInBounds_toArray, List.set_cons_zero, List.set_cons_succ, List.getElem_toArray, List.getElem_cons_zero, List.getElem_cons_succ])
      refine wpAnyH_take (i := 10) (oi := _) (v := ?ve10) rfl (by kernel_rfl) (by kernel_rfl) (by kernel_rfl) (fun _ _ _ h => h) (Or.inl ⟨by rfl, ?hye10⟩) (by assumption) ?reste10
      case hye10 => (intro w hSw; (try dsimp only at hSw); (try simp only [List.getElem_toArray, List.getElem_cons_zero, List.getElem_cons_succ]); go_simp; (try with_reducible rfl))
      (try simp only [Act.put, List.setIfInBounds_toArray, List.set_cons_zero, List.set_cons_succ, List.getElem_toArray, List.getElem_cons_zero, List.getElem_cons_succ])
      refine wpAnyH_ready (rs := [11]) (by kernel_rfl) (by simp) ?_
      refine AllReadyH.cons (o := _) rfl (fun K hK => ?_) AllReadyH.nil
      (try simp only [List.getElem_toArray, List.getElem_cons_zero, List.getElem_cons_succ])
      go_simp
      refine hK.out _ _ ?_ (fun hHeld => ?_)
      · exact trivial
      clear hK K
      (try simp only [Act.put, List.setIfInBounds_toArray, List.set_cons_zero, List.set_cons_succ, List.getElem_toArray, List.getElem_cons_zero, List.getElem_cons_succ])
      refine wpAnyH_done (by kernel_rfl) ?_ _
      refine NoPanic.normal ?_
      go_wp2_with fail
      go_end0
      refine ⟨rfl, ?_⟩
      have hqs := H.out.lq
      have q2s := Q2.out.size
      have e3s : w.heap.size ≤ w3.heap.size := K3.out.size
      obtain ⟨own', h1, h2, h3, h4⟩ := H.out.more (Sm' := SmCells (fun i => rd i ∨ rd2 i)) it ⟨cA, it.n, cc, vs⟩ HI.out hn hfar ((Keep.refl _ w).alloc _) A2h.out K2.out (fun k hk => by simpa using P2.out k hk) E3.out (w4 := w4.alloc (.cells #[.slice cA it.n cc] 43)) ((BufZ.of_own Q1.out).keep (S := fun _ => False) ((Keep.refl _ _).alloc _) (fun _ _ x => x)) ((Keep.of_below (fun _ => False) Q2.out).alloc _) (fun k hk => by have := (Q1.out.lt k (by rw [ownBlock_slice]; exact hk)).1; exact this) A5h.out K5.out P5.out rfl
        (fun a b kk hab => weaker_Cells (smkept_Cells rd _ _ _ kk (fun i hi => ⟨(HRD.out i hi).1, fun e => by
          rcases e with e | e
          · exact (HRD.out i hi).2.1 e
          · exact (HRD.out i hi).2.2 e⟩) a b hab) (fun i hi => .inl hi))
        ⟨rfl, fun _ kk => smkept_Cells (fun i => rd i ∨ rd2 i) _ _ _ (((Keep.refl (fun k => k = q ∨ blk wA = some k) w4).alloc _).trans kk (fun _ _ x => x)) (fun i hi => by
          rcases hi with hi | hi
          · refine ⟨by have := (HRD.out i hi).1; omega, fun e => ?_⟩
            rcases e with e | e
            · exact (HRD.out i hi).2.1 e
            · exact (HRD.out i hi).2.2 (H.out.oW i e)
          · have h5 := Q4.out i hi
            have h6 : w3.heap.size ≤ i := h5.1
            refine ⟨h5.2, fun e => ?_⟩
            rcases e with e | e
            · omega
            · have := H.out.lt i (H.out.oW i e); omega) _ _ Q3.out⟩
      exact ⟨own', rd2, _, _, _, _, _, h1, h2, h3, h4, fun i hi => by have h6 : w3.heap.size ≤ i := (Q4.out i hi).1; exact ⟨by omega, fun e => by have := HI.out.lt e; omega⟩⟩
    · (try simp only [List.getElem_toArray, List.getElem_cons_zero, List.getElem_cons_succ])
      go_simp
      refine hK.out _ _ trivial (fun hHeld => ?_)
      clear hK K
      (try simp only [Act.put, List.setIfInBounds_toArray, List.set_cons_zero, List.set_cons_succ, List.getElem_toArray, List.getElem_cons_zero, List.getElem_cons_succ])
      refine wpAnyH_ready (rs := [4]) (by kernel_rfl) (by simp) ?_
      refine AllReadyH.cons (o := _) rfl (fun K hK => ?_) AllReadyH.nil
      (try simp only [List.getElem_toArray, List.getElem_cons_zero, List.getElem_cons_succ])
      go_simp
      refine hK.out _ _ ?_ (fun hHeld => ?_)
      · exact trivial
      clear hK K
      (try simp only [Act.put, List.setIfInBounds_toArray, List.set_cons_zero, List.set_cons_succ, List.getElem_toArray, List.getElem_cons_zero, List.getElem_cons_succ])
      refine wpAnyH_ready (rs := [8]) (by kernel_rfl) (by simp) ?_
      refine AllReadyH.cons (o := _) rfl (fun K hK => ?_) AllReadyH.nil
      (try simp only [List.getElem_toArray, List.getElem_cons_zero, List.getElem_cons_succ])
      (rw [if_pos (by rfl)]; refine wp_append_buf _ (.tmp 24) (.tmp 27) 34 rfl 43 i0 (.slice none 0 0) 24 Try.underlying34 hi0 hz0 hz1 hz2 rfl rfl (W4.out _ Q2.out _) [.slice cA it.n cc] rfl (src_one _ _ _ rfl) (by simp [Value.oneCell']) (by unfold maxLen; omega) (by omega) ?_; intro A5 c5 w5 a5 k5 p5; have A5h := Lib.hid a5; have K5 := Lib.hid k5; have P5 := Lib.hid p5; have d5 := (k5.cell (p := ⟨q, 11, none⟩) (by have := B3.out.lt; have := Q2.out.size; simp; omega) (fun x => (HD.out q x) rfl)).trans ((World.cell?_alloc_past _ _ _ (by have := B3.out.lt; have := Q2.out.size; omega)).trans d1); have g5 := (k5.frozen (p := ⟨q, 11, none⟩) (by have := B3.out.lt; have := Q2.out.size; simp; omega) (fun x => (HD.out q x) rfl)).trans ((World.frozen?_alloc_past _ _ _ (by have := B3.out.lt; have := Q2.out.size; omega)).trans g1); clear a5 k5 p5)
      refine hK.out _ _ ?_ (fun hHeld => ?_)
      · exact trivial
      clear hK K
      (try simp only [Act.put, List.setIfInBounds_toArray, List.set_cons_zero, List.set_cons_succ, List.getElem_toArray, List.getElem_cons_zero, List.getElem_cons_succ])
      refine wpAnyH_take (i := 9) (oi := _) (v := ?vg9) rfl (by kernel_rfl) (by kernel_rfl) (by kernel_rfl) (fun _ _ _ h => h) (Or.inl ⟨by rfl, ?hyg9⟩) (by assumption) ?restg9
      case hyg9 => (intro w hSw; (try dsimp only at hSw); (try simp only [List.getElem_toArray, List.getElem_cons_zero, List.getElem_cons_succ]); go_simp; (try with_reducible rfl))
      (try simp only [Act.put, List.setIfInBounds_toArray, List.set_cons_zero, List.set_cons_succ, List.getElem_toArray, List.getElem_cons_zero, List.getElem_cons_succ])
      refine wpAnyH_take (i := 10) (oi := _) (v := ?vg10) rfl (by kernel_rfl) (by kernel_rfl) (by kernel_rfl) (fun _ _ _ h => h) (Or.inl ⟨by rfl, ?hyg10⟩) (by assumption) ?restg10
      case hyg10 => (intro w hSw; (try dsimp only at hSw); (try simp only [List.getElem_toArray, List.getElem_cons_zero, List.getElem_cons_succ]); go_simp; (try with_reducible rfl))
      (try simp only [Act.put, List.setIfInBounds_toArray, List.set_cons_zero, List.set_cons_succ, List.getElem_toArray, List.getElem_cons_zero, List.getElem_cons_succ])
      refine wpAnyH_ready (rs := [11]) (by kernel_rfl) (by simp) ?_
      refine AllReadyH.cons (o := _) rfl (fun K hK => ?_) AllReadyH.nil
      (try simp only [List.getElem_toArray, List.getElem_cons_zero, List.getElem_cons_succ])
      go_simp
      refine hK.out _ _ ?_ (fun hHeld => ?_)
      · exact trivial
      clear hK K
      (try simp only [Act.put, List.setIfInBounds_toArray, List.set_cons_zero, List.set_cons_succ, List.getElem_toArray, List.getElem_cons_zero, List.getElem_cons_succ])
      refine wpAnyH_done (by kernel_rfl) ?_ _
      refine NoPanic.normal ?_
      go_wp2_with fail
      go_end0
      refine ⟨rfl, ?_⟩
      have hqs := H.out.lq
      have q2s := Q2.out.size
      have e3s : w.heap.size ≤ w3.heap.size := K3.out.size
      obtain ⟨own', h1, h2, h3, h4⟩ := H.out.more (Sm' := SmCells (fun i => rd i ∨ rd2 i)) it ⟨cA, it.n, cc, vs⟩ HI.out hn hfar ((Keep.refl _ w).alloc _) A2h.out K2.out (fun k hk => by simpa using P2.out k hk) E3.out (w4 := w4.alloc (.cells #[.slice cA it.n cc] 43)) ((BufZ.of_own Q1.out).keep (S := fun _ => False) ((Keep.refl _ _).alloc _) (fun _ _ x => x)) ((Keep.of_below (fun _ => False) Q2.out).alloc _) (fun k hk => by have := (Q1.out.lt k (by rw [ownBlock_slice]; exact hk)).1; exact this) A5h.out K5.out P5.out rfl
        (fun a b kk hab => weaker_Cells (smkept_Cells rd _ _ _ kk (fun i hi => ⟨(HRD.out i hi).1, fun e => by
          rcases e with e | e
          · exact (HRD.out i hi).2.1 e
          · exact (HRD.out i hi).2.2 e⟩) a b hab) (fun i hi => .inl hi))
        ⟨rfl, fun _ kk => smkept_Cells (fun i => rd i ∨ rd2 i) _ _ _ (((Keep.refl (fun k => k = q ∨ blk wA = some k) w4).alloc _).trans kk (fun _ _ x => x)) (fun i hi => by
          rcases hi with hi | hi
          · refine ⟨by have := (HRD.out i hi).1; omega, fun e => ?_⟩
            rcases e with e | e
            · exact (HRD.out i hi).2.1 e
            · exact (HRD.out i hi).2.2 (H.out.oW i e)
          · have h5 := Q4.out i hi
            have h6 : w3.heap.size ≤ i := h5.1
            refine ⟨h5.2, fun e => ?_⟩
            rcases e with e | e
            · omega
            · have := H.out.lt i (H.out.oW i e); omega) _ _ Q3.out⟩
      exact ⟨own', rd2, _, _, _, _, _, h1, h2, h3, h4, fun i hi => by have h6 : w3.heap.size ≤ i := (Q4.out i hi).1; exact ⟨by omega, fun e => by have := HI.out.lt e; omega⟩⟩
end Go.Proofs.Ytbjdcbnmpmcdiaa
