/- pontoonbook.Book: Texts. By program in part (bookput.gen.py). Own work. -/
import Derived.Test.YtoihadjboeeglaaBookStateR
namespace Go.Proofs.Ytoihadjboeeglaa.Rn
set_option linter.unusedVariables false
set_option linter.unusedSimpArgs false
open Go.RowKit

theorem BookT.cells {w : World} {q : Nat} {own : Nat → Prop} {tA wA : Option Addr} {tc wc : Nat} {its ws : List Item} (h : BookT w q own tA tc wA wc its ws) :
    w.cell? ⟨q, 4, none⟩ = some (.slice tA its.length tc) ∧ w.cell? ⟨q, 5, none⟩ = some (.slice wA its.length wc) ∧ (∀ i, w.frozen? ⟨q, i, none⟩ = false) :=
  ⟨cell_at h.bk 4, cell_at h.bk 5, fun i => free_at h.bk i⟩

set_option maxRecDepth 100000 in
set_option maxHeartbeats 3200000 in
theorem bookT_put (w : World) (q : Nat) (own : Nat → Prop) (tA wA : Option Addr) (tc wc : Nat) (its ws : List Item) (h : BookT w q own tA tc wA wc its ws) (it : Item)
    (hit : Buf w it.A it.n it.c (it.xs.map (Value.int .i32))) (hn : it.n ≤ 4000) (hfar : ∀ k, blk it.A = some k → ¬ own k) (hfew : its.length < 250) :
    Calls Try.prog 12 #[.pointer (some ⟨q, 0, none⟩), .slice it.A it.n it.c] w fun e w' => e = .returned (.tuple #[]) ∧
      ∃ own' tA' tc' wA' wc' wt, BookT w' q own' tA' tc' wA' wc' (its ++ [it]) (ws ++ [wt]) ∧ Keep own w w' ∧ ∀ k, own' k → own k ∨ blk it.A = some k ∨ w.heap.size ≤ k := by
  obtain ⟨i0, hi0, hz0, hz1, hz2⟩ := info_parts runes_info
  obtain ⟨c0, c1, fr⟩ := h.cells
  have f0 := fr 4
  have hq := h.lt q h.oq
  have H := Lib.hid h
  have HI := Lib.hid hit
  have hft : decide ((its.length : Int) < 250) = true := by simp; omega
  clear h hit fr
  go_enter Try.func12, Try.ntmps12
  go_wp2_with (at_builtin; refine wpList_append_buf _ rfl (.tmp 14) (.tmp 16) 36 rfl 46 i0 (.slice none 0 0) 24 Try.underlying36 hi0 hz0 hz1 hz2 rfl rfl (H.out.rows.keep ((Keep.refl (fun _ => False) w).alloc _) (fun _ _ x => x)) [it.val] rfl (src_one _ _ _ rfl) (by simp [Item.val, Value.oneCell']) ?h1 ?h2 ?_)
  case h1 => unfold maxLen; omega
  case h2 => omega
  intro A2 c2 w2 a2 k2 p2
  have A2h := Lib.hid a2
  have K2 := Lib.hid k2
  have P2 := Lib.hid p2
  have hd0 := (k2.cell (p := ⟨q, 4, none⟩) (by simp; omega) (fun x => H.out.d1 q x rfl)).trans ((World.cell?_alloc_past _ _ _ hq).trans c0)
  have hf0 := (k2.frozen (p := ⟨q, 4, none⟩) (by simp; omega) (fun x => H.out.d1 q x rfl)).trans ((World.frozen?_alloc_past _ _ _ hq).trans f0)
  have B2 : BookBlk w2 q tA its.length tc wA its.length wc := k2.heap (((Keep.refl (fun _ => False) w).alloc _).heap H.out.bk (fun x => x)) (fun x => H.out.d1 q x rfl)
  have kw : Keep (fun k => blk tA = some k) w w2 := ((Keep.refl (fun k => blk tA = some k) w).alloc _).trans k2 (fun _ _ x => x)
  have KW := Lib.hid kw
  have BB2 := Lib.hid B2
  clear a2 k2 p2 B2 kw
  go_wp2_with fail
  obtain ⟨w3, hw3⟩ : ∃ w3, w3 = w2.setCell ⟨q, 4, none⟩ (.slice A2 (its.length + 1) c2) := ⟨_, rfl⟩
  have E3 := Lib.hid hw3
  have B3 : Hid (BookBlk w3 q A2 (its.length + 1) c2 wA its.length wc) := by
    show BookBlk _ _ _ _ _ _ _ _
    rw [hw3]; exact heap_set BB2.out 4 _
  have K3 : Hid (Keep (fun k => k = q ∨ blk tA = some k) w w3) := by
    show Keep _ _ _
    rw [hw3]
    exact (KW.out.mono (S' := fun k => k = q ∨ blk tA = some k) (fun _ _ x => .inr x)).trans (keep_set w2 q 4 _) (fun _ _ x => .inl x)
  rw [← hw3]
  clear hw3 hd0 hf0 c0 c1 f0
  have e1 := cell_at B3.out 5
  have HD : Hid (∀ k, blk wA = some k → k ≠ q) := fun k hk => (H.out.d2 k hk).1
  have HC : Hid (∀ W, Keep (fun k => k = q ∨ blk tA = some k) w W → Calls Try.prog 26 #[.slice it.A it.n it.c] W fun e w' => ∃ v, e = .returned v ∧ w'.ownsRow W.heap.size 21 1 v it.n (it.xs.map (Value.int .i32)) ∧ Below W.heap.size W w') := fun W hW =>
    copy_Runes it.A it.n it.c it.xs W (HI.out.src.of_keep hW (fun k hk e => by
      rcases e with e | e
      · exact hfar k hk (e ▸ H.out.oq)
      · exact hfar k hk (H.out.oA k e))) (by omega)
  have W4 : Hid (∀ w4, Below w3.heap.size w3 w4 → ∀ o : Obj, Buf (w4.alloc o) wA its.length wc (ws.map Item.val)) := fun w4 hb o =>
    ((H.out.was.keep K3.out (fun k hk e => by
      rcases e with e | e
      · exact (H.out.d2 k hk).1 e
      · exact (H.out.d2 k hk).2 e)).keep (Keep.of_below (fun _ => False) hb) (fun _ _ x => x)).keep (S := fun _ => False) ((Keep.refl _ w4).alloc o) (fun _ _ x => x)
  refine wp_region_noPanic ?_
  refine wp_region_held_drew (S := fun _ => True) (by kernel_rfl) trivial (fun hHeld => ?_)
  refine wpAnyH_take (i := 0) (oi := _) (v := ?va0) rfl (by kernel_rfl) (by kernel_rfl) (by kernel_rfl) (fun _ _ _ h => h) (Or.inl ⟨by rfl, ?hya0⟩) (by assumption) ?resta0
  case hya0 => (intro w hSw; (try dsimp only at hSw); (try simp only [List.getElem_toArray, List.getElem_cons_zero, List.getElem_cons_succ]); go_simp; (try with_reducible rfl))
  (try simp only [Act.put, List.setIfInBounds_toArray, List.set_cons_zero, List.set_cons_succ, List.getElem_toArray, List.getElem_cons_zero, List.getElem_cons_succ])
  refine wpAnyH_take (i := 1) (oi := _) (v := ?va1) rfl (by kernel_rfl) (by kernel_rfl) (by kernel_rfl) (fun _ _ _ h => h) (Or.inl ⟨by rfl, ?hya1⟩) (by assumption) ?resta1
  case hya1 => (intro w hSw; (try dsimp only at hSw); (try simp only [List.getElem_toArray, List.getElem_cons_zero, List.getElem_cons_succ]); go_simp; (try with_reducible rfl))
  (try simp only [Act.put, List.setIfInBounds_toArray, List.set_cons_zero, List.set_cons_succ, List.getElem_toArray, List.getElem_cons_zero, List.getElem_cons_succ])
  refine wpAnyH_take (i := 2) (oi := _) (v := ?va2) rfl (by kernel_rfl) (by kernel_rfl) (by kernel_rfl) (fun _ _ _ h => h) (Or.inl ⟨by rfl, ?hya2⟩) (by assumption) ?resta2
  case hya2 => (intro w hSw; (try dsimp only at hSw); (try simp only [List.getElem_toArray, List.getElem_cons_zero, List.getElem_cons_succ]); go_simp; (try with_reducible rfl))
  (try simp only [Act.put, List.setIfInBounds_toArray, List.set_cons_zero, List.set_cons_succ, List.getElem_toArray, List.getElem_cons_zero, List.getElem_cons_succ])
  refine wpAnyH_take (i := 3) (oi := _) (v := ?va3) rfl (by kernel_rfl) (by kernel_rfl) (by kernel_rfl) (fun _ _ _ h => h) (Or.inl ⟨by rfl, ?hya3⟩) (by assumption) ?resta3
  case hya3 => (intro w hSw; (try dsimp only at hSw); (try simp only [List.getElem_toArray, List.getElem_cons_zero, List.getElem_cons_succ]); go_simp; (try with_reducible rfl))
  (try simp only [Act.put, List.setIfInBounds_toArray, List.set_cons_zero, List.set_cons_succ, List.getElem_toArray, List.getElem_cons_zero, List.getElem_cons_succ])
  refine wpAnyH_take (i := 5) (oi := _) (v := ?va5) rfl (by kernel_rfl) (by kernel_rfl) (by kernel_rfl) (fun _ _ _ h => h) (Or.inl ⟨by rfl, ?hya5⟩) (by assumption) ?resta5
  case hya5 => (intro w hSw; (try dsimp only at hSw); (try simp only [List.getElem_toArray, List.getElem_cons_zero, List.getElem_cons_succ]); go_simp; (try with_reducible rfl))
  (try simp only [Act.put, List.setIfInBounds_toArray, List.set_cons_zero, List.set_cons_succ, List.getElem_toArray, List.getElem_cons_zero, List.getElem_cons_succ])
  refine wpAnyH_ready (rs := [4, 6]) (by kernel_rfl) (by simp) ?_
  refine AllReadyH.cons (o := _) rfl (fun K hK => ?_) (AllReadyH.cons (o := _) rfl (fun K hK => ?_) AllReadyH.nil)
  · (try simp only [List.getElem_toArray, List.getElem_cons_zero, List.getElem_cons_succ])
    go_simp
    refine hK.out _ _ trivial (fun hHeld => ?_)
    clear hK K
    (try simp only [Act.put, List.setIfInBounds_toArray, List.set_cons_zero, List.set_cons_succ, List.getElem_toArray, List.getElem_cons_zero, List.getElem_cons_succ])
    refine wpAnyH_ready (rs := [6]) (by kernel_rfl) (by simp) ?_
    refine AllReadyH.cons (o := _) rfl (fun K hK => ?_) AllReadyH.nil
    (try simp only [List.getElem_toArray, List.getElem_cons_zero, List.getElem_cons_succ])
    go_simp
    (refine (HC.out _ ?_).mono ?_; (first | exact K3.out | exact K3.out.drew); rintro r w4 ⟨v, rfl, q1, q2⟩; obtain ⟨cA, cc, rfl, -⟩ := own_form q1; have Q1 := Lib.hid q1; have Q2 : Hid (Below w3.heap.size w3 w4) := ⟨q2.os, q2.tape, q2.output, q2.size, q2.block⟩; have d1 := (Keep.of_below (fun _ => False) Q2.out).cell (p := ⟨q, 5, none⟩) (lt_heap B3.out) (fun x => x) |>.trans (cell_at B3.out 5); have g1 := (Keep.of_below (fun _ => False) Q2.out).frozen (p := ⟨q, 5, none⟩) (lt_heap B3.out) (fun x => x) |>.trans (free_at B3.out 5); have dA := (World.cell?_alloc_past (w := w4) (.cells #[.slice cA it.n cc] 46) q 5 (by have := lt_heap B3.out; have := Q2.out.size; omega)).trans d1; clear q1 q2)
    refine hK.out _ _ ?_ (fun hHeld => ?_)
    · exact trivial
    clear hK K
    (try simp only [Act.put, List.setIfInBounds_toArray, List.set_cons_zero, List.set_cons_succ, List.getElem_toArray, List.getElem_cons_zero, List.getElem_cons_succ])
    refine wpAnyH_ready (rs := [7]) (by kernel_rfl) (by simp) ?_
    refine AllReadyH.cons (o := _) rfl (fun K hK => ?_) AllReadyH.nil
    (try simp only [List.getElem_toArray, List.getElem_cons_zero, List.getElem_cons_succ])
    go_simp
    refine hK.out _ _ ?_ (fun hHeld => ?_)
    · exact trivial
    clear hK K
    (try simp only [Act.put, List.setIfInBounds_toArray, List.set_cons_zero, List.set_cons_succ, List.getElem_toArray, List.getElem_cons_zero, List.getElem_cons_succ])
    refine wpAnyH_ready (rs := [8]) (by kernel_rfl) (by simp) ?_
    refine AllReadyH.cons (o := _) rfl (fun K hK => ?_) AllReadyH.nil
    (try simp only [List.getElem_toArray, List.getElem_cons_zero, List.getElem_cons_succ])
    (rw [if_pos (by rfl)]; refine wp_append_buf _ (.tmp 24) (.tmp 27) 36 rfl 46 i0 (.slice none 0 0) 24 Try.underlying36 hi0 hz0 hz1 hz2 rfl rfl (W4.out _ Q2.out _) [.slice cA it.n cc] rfl (src_one _ _ _ rfl) (by simp [Value.oneCell']) (by unfold maxLen; omega) (by omega) ?_; intro A5 c5 w5 a5 k5 p5; have A5h := Lib.hid a5; have K5 := Lib.hid k5; have P5 := Lib.hid p5; have d5 := (k5.cell (p := ⟨q, 5, none⟩) (by have := lt_heap B3.out; have := Q2.out.size; simp; omega) (fun x => (HD.out q x) rfl)).trans ((World.cell?_alloc_past _ _ _ (by have := lt_heap B3.out; have := Q2.out.size; omega)).trans d1); have g5 := (k5.frozen (p := ⟨q, 5, none⟩) (by have := lt_heap B3.out; have := Q2.out.size; simp; omega) (fun x => (HD.out q x) rfl)).trans ((World.frozen?_alloc_past _ _ _ (by have := lt_heap B3.out; have := Q2.out.size; omega)).trans g1); clear a5 k5 p5)
    refine hK.out _ _ ?_ (fun hHeld => ?_)
    · exact trivial
    clear hK K
    (try simp only [Act.put, List.setIfInBounds_toArray, List.set_cons_zero, List.set_cons_succ, List.getElem_toArray, List.getElem_cons_zero, List.getElem_cons_succ])
    refine wpAnyH_take (i := 9) (oi := _) (v := ?vc9) rfl (by kernel_rfl) (by kernel_rfl) (by kernel_rfl) (fun _ _ _ h => h) (Or.inl ⟨by rfl, ?hyc9⟩) (by assumption) ?restc9
    case hyc9 => (intro w hSw; (try dsimp only at hSw); (try simp only [List.getElem_toArray, List.getElem_cons_zero, List.getElem_cons_succ]); go_simp; (try with_reducible rfl))
    (try simp only [Act.put, List.setIfInBounds_toArray, List.set_cons_zero, List.set_cons_succ, List.getElem_toArray, List.getElem_cons_zero, List.getElem_cons_succ])
    refine wpAnyH_take (i := 10) (oi := _) (v := ?vc10) rfl (by kernel_rfl) (by kernel_rfl) (by kernel_rfl) (fun _ _ _ h => h) (Or.inl ⟨by rfl, ?hyc10⟩) (by assumption) ?restc10
    case hyc10 => (intro w hSw; (try dsimp only at hSw); (try simp only [List.getElem_toArray, List.getElem_cons_zero, List.getElem_cons_succ]); go_simp; (try with_reducible rfl))
    (try simp only [Act.put, List.setIfInBounds_toArray, List.set_cons_zero, List.set_cons_succ, List.getElem_toArray, List.getElem_cons_zero, List.getElem_cons_succ])
    refine wpAnyH_ready (rs := [11]) (by kernel_rfl) (by simp) ?_
    refine AllReadyH.cons (o := _) rfl (fun K hK => ?_) AllReadyH.nil
    (try simp only [List.getElem_toArray, List.getElem_cons_zero, List.getElem_cons_succ])
    go_simp
    refine hK.out _ _ ?_ (fun hHeld => ?_)
    · exact trivial
    clear hK K
    (try simp only [Act.put, List.setIfInBounds_toArray, List.set_cons_zero, List.set_cons_succ, List.getElem_toArray, List.getElem_cons_zero, List.getElem_cons_succ])
    refine wpAnyH_done (by kernel_rfl) ?_ _
    refine NoPanic.normal ?_
    go_wp2_with fail
    go_end0
    refine ⟨rfl, ?_⟩
    obtain ⟨own', h1, h2, h3⟩ := H.out.more it ⟨cA, it.n, cc, it.xs⟩ HI.out hn hfar ((Keep.refl _ w).alloc _) A2h.out K2.out (fun k hk => by simpa using P2.out k hk) E3.out (w4 := w4.alloc (.cells #[.slice cA it.n cc] 46)) ((Buf.of_own Q1.out).keep (S := fun _ => False) ((Keep.refl _ _).alloc _) (fun _ _ x => x)) ((Keep.of_below (fun _ => False) Q2.out).alloc _) (fun k hk => by have := (Q1.out.lt k (by rw [ownBlock_slice]; exact hk)).1; exact this) ⟨rfl, rfl⟩ A5h.out K5.out P5.out rfl
    exact ⟨own', _, _, _, _, _, h1, h2, h3⟩
  · (try simp only [List.getElem_toArray, List.getElem_cons_zero, List.getElem_cons_succ])
    go_simp
    (refine (HC.out _ ?_).mono ?_; (first | exact K3.out | exact K3.out.drew); rintro r w4 ⟨v, rfl, q1, q2⟩; obtain ⟨cA, cc, rfl, -⟩ := own_form q1; have Q1 := Lib.hid q1; have Q2 : Hid (Below w3.heap.size w3 w4) := ⟨q2.os, q2.tape, q2.output, q2.size, q2.block⟩; have d1 := (Keep.of_below (fun _ => False) Q2.out).cell (p := ⟨q, 5, none⟩) (lt_heap B3.out) (fun x => x) |>.trans (cell_at B3.out 5); have g1 := (Keep.of_below (fun _ => False) Q2.out).frozen (p := ⟨q, 5, none⟩) (lt_heap B3.out) (fun x => x) |>.trans (free_at B3.out 5); have dA := (World.cell?_alloc_past (w := w4) (.cells #[.slice cA it.n cc] 46) q 5 (by have := lt_heap B3.out; have := Q2.out.size; omega)).trans d1; clear q1 q2)
    refine hK.out _ _ trivial (fun hHeld => ?_)
    clear hK K
    (try simp only [Act.put, List.setIfInBounds_toArray, List.set_cons_zero, List.set_cons_succ, List.getElem_toArray, List.getElem_cons_zero, List.getElem_cons_succ])
    refine wpAnyH_ready (rs := [4, 7]) (by kernel_rfl) (by simp) ?_
    refine AllReadyH.cons (o := _) rfl (fun K hK => ?_) (AllReadyH.cons (o := _) rfl (fun K hK => ?_) AllReadyH.nil)
    · (try simp only [List.getElem_toArray, List.getElem_cons_zero, List.getElem_cons_succ])
      go_simp
      refine hK.out _ _ trivial (fun hHeld => ?_)
      clear hK K
      (try simp only [Act.put, List.setIfInBounds_toArray, List.set_cons_zero, List.set_cons_succ, List.getElem_toArray, List.getElem_cons_zero, List.getElem_cons_succ])
      refine wpAnyH_ready (rs := [7]) (by kernel_rfl) (by simp) ?_
      refine AllReadyH.cons (o := _) rfl (fun K hK => ?_) AllReadyH.nil
      (try simp only [List.getElem_toArray, List.getElem_cons_zero, List.getElem_cons_succ])
      go_simp
      refine hK.out _ _ ?_ (fun hHeld => ?_)
      · exact trivial
      clear hK K
      (try simp only [Act.put, List.setIfInBounds_toArray, List.set_cons_zero, List.set_cons_succ, List.getElem_toArray, List.getElem_cons_zero, List.getElem_cons_succ])
      refine wpAnyH_ready (rs := [8]) (by kernel_rfl) (by simp) ?_
      refine AllReadyH.cons (o := _) rfl (fun K hK => ?_) AllReadyH.nil
      (try simp only [List.getElem_toArray, List.getElem_cons_zero, List.getElem_cons_succ])
      (rw [if_pos (by rfl)]; refine wp_append_buf _ (.tmp 24) (.tmp 27) 36 rfl 46 i0 (.slice none 0 0) 24 Try.underlying36 hi0 hz0 hz1 hz2 rfl rfl (W4.out _ Q2.out _) [.slice cA it.n cc] rfl (src_one _ _ _ rfl) (by simp [Value.oneCell']) (by unfold maxLen; omega) (by omega) ?_; intro A5 c5 w5 a5 k5 p5; have A5h := Lib.hid a5; have K5 := Lib.hid k5; have P5 := Lib.hid p5; have d5 := (k5.cell (p := ⟨q, 5, none⟩) (by have := lt_heap B3.out; have := Q2.out.size; simp; omega) (fun x => (HD.out q x) rfl)).trans ((World.cell?_alloc_past _ _ _ (by have := lt_heap B3.out; have := Q2.out.size; omega)).trans d1); have g5 := (k5.frozen (p := ⟨q, 5, none⟩) (by have := lt_heap B3.out; have := Q2.out.size; simp; omega) (fun x => (HD.out q x) rfl)).trans ((World.frozen?_alloc_past _ _ _ (by have := lt_heap B3.out; have := Q2.out.size; omega)).trans g1); clear a5 k5 p5)
      refine hK.out _ _ ?_ (fun hHeld => ?_)
      · exact trivial
      clear hK K
      (try simp only [Act.put, List.setIfInBounds_toArray, List.set_cons_zero, List.set_cons_succ, List.getElem_toArray, List.getElem_cons_zero, List.getElem_cons_succ])
      refine wpAnyH_take (i := 9) (oi := _) (v := ?ve9) rfl (by kernel_rfl) (by kernel_rfl) (by kernel_rfl) (fun _ _ _ h => h) (Or.inl ⟨by rfl, ?hye9⟩) (by assumption) ?reste9
      case hye9 => (intro w hSw; (try dsimp only at hSw); (try simp only [List.getElem_toArray, List.getElem_cons_zero, List.getElem_cons_succ]); go_simp; (try with_reducible rfl))
      (try simp only [Act.put, List.setIfInBounds_toArray, List.set_cons_zero, List.set_cons_succ, List.getElem_toArray, List.getElem_cons_zero, List.getElem_cons_succ])
      refine wpAnyH_take (i := 10) (oi := _) (v := ?ve10) rfl (by kernel_rfl) (by kernel_rfl) (by kernel_rfl) (fun _ _ _ h => h) (Or.inl ⟨by rfl, ?hye10⟩) (by assumption) ?reste10
      case hye10 => (intro w hSw; (try dsimp only at hSw); (try simp only [List.getElem_toArray, List.getElem_cons_zero, List.getElem_cons_succ]); go_simp; (try with_reducible rfl))
      (try simp only [Act.put, List.setIfInBounds_toArray, List.set_cons_zero, List.set_cons_succ, List.getElem_toArray, List.getElem_cons_zero, List.getElem_cons_succ])
      refine wpAnyH_ready (rs := [11]) (by kernel_rfl) (by simp) ?_
      refine AllReadyH.cons (o := _) rfl (fun K hK => ?_) AllReadyH.nil
      (try simp only [List.getElem_toArray, List.getElem_cons_zero, List.getElem_cons_succ])
      go_simp
      refine hK.out _ _ ?_ (fun hHeld => ?_)
      · exact trivial
      clear hK K
      (try simp only [Act.put, List.setIfInBounds_toArray, List.set_cons_zero, List.set_cons_succ, List.getElem_toArray, List.getElem_cons_zero, List.getElem_cons_succ])
      refine wpAnyH_done (by kernel_rfl) ?_ _
      refine NoPanic.normal ?_
      go_wp2_with fail
      go_end0
      refine ⟨rfl, ?_⟩
      obtain ⟨own', h1, h2, h3⟩ := H.out.more it ⟨cA, it.n, cc, it.xs⟩ HI.out hn hfar ((Keep.refl _ w).alloc _) A2h.out K2.out (fun k hk => by simpa using P2.out k hk) E3.out (w4 := w4.alloc (.cells #[.slice cA it.n cc] 46)) ((Buf.of_own Q1.out).keep (S := fun _ => False) ((Keep.refl _ _).alloc _) (fun _ _ x => x)) ((Keep.of_below (fun _ => False) Q2.out).alloc _) (fun k hk => by have := (Q1.out.lt k (by rw [ownBlock_slice]; exact hk)).1; exact this) ⟨rfl, rfl⟩ A5h.out K5.out P5.out rfl
      exact ⟨own', _, _, _, _, _, h1, h2, h3⟩
    · (try simp only [List.getElem_toArray, List.getElem_cons_zero, List.getElem_cons_succ])
      go_simp
      refine hK.out _ _ trivial (fun hHeld => ?_)
      clear hK K
      (try simp only [Act.put, List.setIfInBounds_toArray, List.set_cons_zero, List.set_cons_succ, List.getElem_toArray, List.getElem_cons_zero, List.getElem_cons_succ])
      refine wpAnyH_ready (rs := [4]) (by kernel_rfl) (by simp) ?_
      refine AllReadyH.cons (o := _) rfl (fun K hK => ?_) AllReadyH.nil
      (try simp only [List.getElem_toArray, List.getElem_cons_zero, List.getElem_cons_succ])
      go_simp
      refine hK.out _ _ ?_ (fun hHeld => ?_)
      · exact trivial
      clear hK K
      (try simp only [Act.put, List.setIfInBounds_toArray, List.set_cons_zero, List.set_cons_succ, List.getElem_toArray, List.getElem_cons_zero, List.getElem_cons_succ])
      refine wpAnyH_ready (rs := [8]) (by kernel_rfl) (by simp) ?_
      refine AllReadyH.cons (o := _) rfl (fun K hK => ?_) AllReadyH.nil
      (try simp only [List.getElem_toArray, List.getElem_cons_zero, List.getElem_cons_succ])
      (rw [if_pos (by rfl)]; refine wp_append_buf _ (.tmp 24) (.tmp 27) 36 rfl 46 i0 (.slice none 0 0) 24 Try.underlying36 hi0 hz0 hz1 hz2 rfl rfl (W4.out _ Q2.out _) [.slice cA it.n cc] rfl (src_one _ _ _ rfl) (by simp [Value.oneCell']) (by unfold maxLen; omega) (by omega) ?_; intro A5 c5 w5 a5 k5 p5; have A5h := Lib.hid a5; have K5 := Lib.hid k5; have P5 := Lib.hid p5; have d5 := (k5.cell (p := ⟨q, 5, none⟩) (by have := lt_heap B3.out; have := Q2.out.size; simp; omega) (fun x => (HD.out q x) rfl)).trans ((World.cell?_alloc_past _ _ _ (by have := lt_heap B3.out; have := Q2.out.size; omega)).trans d1); have g5 := (k5.frozen (p := ⟨q, 5, none⟩) (by have := lt_heap B3.out; have := Q2.out.size; simp; omega) (fun x => (HD.out q x) rfl)).trans ((World.frozen?_alloc_past _ _ _ (by have := lt_heap B3.out; have := Q2.out.size; omega)).trans g1); clear a5 k5 p5)
      refine hK.out _ _ ?_ (fun hHeld => ?_)
      · exact trivial
      clear hK K
      (try simp only [Act.put, List.setIfInBounds_toArray, List.set_cons_zero, List.set_cons_succ, List.getElem_toArray, List.getElem_cons_zero, List.getElem_cons_succ])
      refine wpAnyH_take (i := 9) (oi := _) (v := ?vg9) rfl (by kernel_rfl) (by kernel_rfl) (by kernel_rfl) (fun _ _ _ h => h) (Or.inl ⟨by rfl, ?hyg9⟩) (by assumption) ?restg9
      case hyg9 => (intro w hSw; (try dsimp only at hSw); (try simp only [List.getElem_toArray, List.getElem_cons_zero, List.getElem_cons_succ]); go_simp; (try with_reducible rfl))
      (try simp only [Act.put, List.setIfInBounds_toArray, List.set_cons_zero, List.set_cons_succ, List.getElem_toArray, List.getElem_cons_zero, List.getElem_cons_succ])
      refine wpAnyH_take (i := 10) (oi := _) (v := ?vg10) rfl (by kernel_rfl) (by kernel_rfl) (by kernel_rfl) (fun _ _ _ h => h) (Or.inl ⟨by rfl, ?hyg10⟩) (by assumption) ?restg10
      case hyg10 => (intro w hSw; (try dsimp only at hSw); (try simp only [List.getElem_toArray, List.getElem_cons_zero, List.getElem_cons_succ]); go_simp; (try with_reducible rfl))
      (try simp only [Act.put, List.setIfInBounds_toArray, List.set_cons_zero, List.set_cons_succ, List.getElem_toArray, List.getElem_cons_zero, List.getElem_cons_succ])
      refine wpAnyH_ready (rs := [11]) (by kernel_rfl) (by simp) ?_
      refine AllReadyH.cons (o := _) rfl (fun K hK => ?_) AllReadyH.nil
      (try simp only [List.getElem_toArray, List.getElem_cons_zero, List.getElem_cons_succ])
      go_simp
      refine hK.out _ _ ?_ (fun hHeld => ?_)
      · exact trivial
      clear hK K
      (try simp only [Act.put, List.setIfInBounds_toArray, List.set_cons_zero, List.set_cons_succ, List.getElem_toArray, List.getElem_cons_zero, List.getElem_cons_succ])
      refine wpAnyH_done (by kernel_rfl) ?_ _
      refine NoPanic.normal ?_
      go_wp2_with fail
      go_end0
      refine ⟨rfl, ?_⟩
      obtain ⟨own', h1, h2, h3⟩ := H.out.more it ⟨cA, it.n, cc, it.xs⟩ HI.out hn hfar ((Keep.refl _ w).alloc _) A2h.out K2.out (fun k hk => by simpa using P2.out k hk) E3.out (w4 := w4.alloc (.cells #[.slice cA it.n cc] 46)) ((Buf.of_own Q1.out).keep (S := fun _ => False) ((Keep.refl _ _).alloc _) (fun _ _ x => x)) ((Keep.of_below (fun _ => False) Q2.out).alloc _) (fun k hk => by have := (Q1.out.lt k (by rw [ownBlock_slice]; exact hk)).1; exact this) ⟨rfl, rfl⟩ A5h.out K5.out P5.out rfl
      exact ⟨own', _, _, _, _, _, h1, h2, h3⟩
end Go.Proofs.Ytoihadjboeeglaa.Rn
