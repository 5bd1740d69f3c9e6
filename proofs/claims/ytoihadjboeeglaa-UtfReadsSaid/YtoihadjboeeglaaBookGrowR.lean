/- pontoonbook.Book: growTexts, markedTexts. Own work. -/
import Derived.Test.YtoihadjboeeglaaBookPutsR
namespace Go.Proofs.Ytoihadjboeeglaa.Rn
set_option linter.unusedVariables false
set_option linter.unusedSimpArgs false
open Go.RowKit

set_option maxRecDepth 100000 in
set_option maxHeartbeats 1600000 in
theorem texts_grow (w : World) (q : Nat) (own : Nat → Prop) (A : Option Addr) (c : Nat) (its : List Item) (f : Nat → List Int) (h : TextsT w q own A c its f) (hM : ∀ (j : Nat) (it : Item), its[j]? = some it → f j = marksR j 0 it.n) (hfew : its.length ≤ 250) :
    Calls Try.prog 46 #[.pointer (some ⟨q, 0, none⟩)] w fun e w' => ∃ O oc gs, e = .returned (.slice O its.length oc) ∧ GrowInv w w' q own A c its O oc gs its.length := by
  obtain ⟨i0, hi0, hz0, hz1, hz2⟩ := info_parts rune_info
  obtain ⟨i1, hi1, hy0, hy1, hy2⟩ := info_parts runes_info
  have c0 := h.c0
  have G := Lib.hid (GrowInv.start h hM)
  have H := Lib.hid h
  obtain ⟨n, hn⟩ : ∃ n, n = its.length := ⟨_, rfl⟩
  have HN := Lib.hid hn
  rw [← hn] at c0 hfew ⊢
  clear h hn hM
  go_enter Try.func46, Try.ntmps46
  go_wp2_with fail
  go_loopw [3, 4] (fun o i wr => ∃ (k : Nat) (O : Option Addr) (oc : Nat) (gs : List Item), i = .int .i64 k ∧ o = .slice O k oc ∧ k ≤ n ∧ Hid (GrowInv w wr q own A c its O oc gs k)) (fun _ i _ => n - (intOf i).toNat)
  case atStart => exact ⟨0, none, 0, [], rfl, rfl, Nat.zero_le _, G⟩
  case round =>
    obtain ⟨k, O, oc, gs, rfl, rfl, hk, HG⟩ := hrel
    obtain ⟨wo, rfl⟩ : ∃ wo : World, wo = wr := ⟨_, rfl⟩
    have c1 := HG.out.c0
    rw [← HN.out] at c1
    by_cases hlt : k < n
    · obtain ⟨it, hit⟩ : ∃ it, its[k]? = some it := ⟨its[k]'(by rw [← HN.out]; exact hlt), List.getElem?_eq_getElem _⟩
      have hmem := List.mem_of_getElem? hit
      obtain ⟨b1, o1, rfl, _, r1⟩ := HG.out.rows.some_of (by rw [← HN.out]; omega)
      have x1 : wo.cell? ⟨b1, o1 + k, none⟩ = some (.slice it.A it.n it.c) := r1.val k _ (by rw [List.getElem?_map, hit]; rfl)
      have hki : ((k : Int) < (n : Int)) := by omega
      have hk0 : (0 : Int) ≤ (k : Int) := by omega
      have hfw : it.n ≤ 4000 := H.out.few it hmem
      have HC1 : Hid (∀ (r : Nat) (W : World), r ≤ 12 → Calls Try.prog 77 #[.int .i64 k, .int .i64 ((it.n : Int) + (r : Int)), .int .i64 1] W fun e w' => ∃ v, e = .returned v ∧ w'.ownsRow W.heap.size 21 1 v 1 ((marksR k (it.n + r) 1).map (Value.int .i32)) ∧ Below W.heap.size W w') := fun r W hr => by
        rw [← Int.natCast_add]; exact marks_any k (it.n + r) 1 W (by omega) (by omega)
      have HC60 : Hid (∀ (r : Nat) (W : World), r ≤ 12 → Calls Try.prog 77 #[.int .i64 k, .int .i64 ((it.n : Int) + (r : Int)), .int .i64 60] W fun e w' => ∃ v, e = .returned v ∧ w'.ownsRow W.heap.size 21 1 v 60 ((marksR k (it.n + r) 60).map (Value.int .i32)) ∧ Below W.heap.size W w') := fun r W hr => by
        rw [← Int.natCast_add]; exact marks_any k (it.n + r) 60 W (by omega) (by omega)
      have HS := Lib.hid (Grows.start (i := k) (HG.out.later k it (Nat.le_refl _) hit))
      clear r1
      go_wp2_with fail
      go_loopw [5, 6] (fun l x wr => ∃ (r : Nat) (B : Option Addr) (bc : Nat), x = .int .i64 r ∧ l = .slice B (it.n + r : Nat) bc ∧ r ≤ 12 ∧ Hid (Grows wo wr it k B (it.n + r) bc)) (fun _ x _ => 12 - (intOf x).toNat)
      case atStart => exact ⟨0, it.A, it.c, rfl, rfl, by omega, HS⟩
      case round =>
        obtain ⟨r, B, bc, rfl, rfl, hr, HR⟩ := hrel
        by_cases hrl : r < 12
        · have hrt : decide ((r : Int) < 12) = true := by simp; omega
          go_wp2_with fail
          refine (HC1.out r _ hr).mono ?_
          rintro e w1 ⟨v, rfl, ow, be⟩
          obtain ⟨vA, vc, rfl, -⟩ := own_form ow
          have HV := Lib.hid (Buf.of_own ow).src
          have HR1 := Lib.hid (HR.out.keep (Keep.of_below (fun _ => False) be) (fun _ _ x => x) (fun _ _ x => x))
          clear ow be
          go_wp2_with (at_builtin; refine wpList_append_buf_at _ rfl (.tmp 27) (.tmp 31) 46 rfl 21 i0 (.int .i32 0) 4 Try.underlying46 hi0 hz0 hz1 hz2 rfl rfl HR1.out.buf _ rfl HV.out (one_Runes _) ?h1 ?h2 ?_)
          case h1 => unfold maxLen; omega
          case h2 => omega
          intro A2 c2 w2 a2 k2 p2
          have HR2 := Lib.hid (HR1.out.more a2 k2 p2)
          clear a2 k2 p2
          go_wp2_with fail
          go_roundw
          case rel => exact ⟨r + 1, A2, c2, by go_num, rfl, by omega, HR2⟩
          case measure => simp [intOf]; omega
        · have hrt : decide ((r : Int) < 12) = false := by simp; omega
          have er : r = 12 := by omega
          have HE := Lib.hid er
          clear er
          go_wp2_with fail
          refine (HC60.out r _ hr).mono ?_
          rintro e w1 ⟨v, rfl, ow, be⟩
          obtain ⟨vA, vc, rfl, -⟩ := own_form ow
          have HV := Lib.hid (Buf.of_own ow).src
          have HR1 := Lib.hid (HR.out.keep (Keep.of_below (fun _ => False) be) (fun _ _ x => x) (fun _ _ x => x))
          clear ow be
          go_wp2_with (at_builtin; refine wpList_append_buf_at _ rfl (.tmp 34) (.tmp 38) 46 rfl 21 i0 (.int .i32 0) 4 Try.underlying46 hi0 hz0 hz1 hz2 rfl rfl HR1.out.buf _ rfl HV.out (one_Runes _) ?h1 ?h2 ?_)
          case h1 => unfold maxLen; omega
          case h2 => omega
          intro A2 c2 w2 a2 k2 p2
          have HR2 := Lib.hid (HR1.out.more a2 k2 p2)
          have HO : Hid (∀ o, Buf (w2.alloc o) O k oc (gs.map Item.val)) := fun o =>
            (HG.out.out.keep HR2.out.kp (fun z hz e => by have := HG.out.fresh z hz; have := H.out.lt z (H.out.oI it hmem z e); omega)).keep (S := fun _ => False) ((Keep.refl _ w2).alloc o) (fun _ _ x => x)
          clear a2 k2 p2
          go_wp2_with (at_builtin; refine wpList_append_buf _ rfl (.tmp 33) (.tmp 40) 36 rfl 46 i1 (.slice none 0 0) 24 Try.underlying36 hi1 hy0 hy1 hy2 rfl rfl (HO.out _) [.slice A2 (it.n + r + 60) c2] rfl (src_one _ _ _ rfl) (by simp [Value.oneCell']) ?h3 ?h4 ?_)
          case h3 => unfold maxLen; omega
          case h4 => omega
          intro O3 c3 w3 a3 k3 p3
          have HN3 : Hid (GrowInv w w3 q own (some ⟨b1, o1, none⟩) c its O3 c3 (gs ++ [⟨A2, it.n + 72, c2, []⟩]) (k + 1)) := by
            obtain rfl := HE.out
            exact GrowInv.next H.out HG.out hit (HR2.out.keep (S := fun _ => False) ((Keep.refl _ w2).alloc _) (fun _ _ x => x) (fun _ _ x => x)) a3 k3 (fun z hz => by simpa using p3 z hz)
          clear a3 k3 p3
          go_wp2_with fail
          go_roundw
          case rel => exact ⟨k + 1, O3, c3, _, by go_num, rfl, by omega, HN3⟩
          case measure => simp [intOf]; omega
    · have e : k = n := by omega
      have HG2 : Hid (GrowInv w wo q own A c its O oc gs n) := by
        show GrowInv _ _ _ _ _ _ _ _ _ _ _
        rw [← e]; exact HG.out
      have HE : Hid (∀ x : Value, x = .slice O k oc → x = .slice O n oc) := fun x hx => by rw [hx, e]
      clear e
      go_wp2_with fail
      go_ret
      exact ⟨O, oc, gs, by rw [HE.out _ rfl]; rfl, HG2.out⟩

set_option maxRecDepth 100000 in
set_option maxHeartbeats 1600000 in
theorem texts_marked (w : World) (A : Option Addr) (c : Nat) (gs : List Item) (h : Marked w A c gs) (hfew : gs.length ≤ 250) :
    Calls Try.prog 54 #[.slice A gs.length c] w fun e w' => e = .returned (.bool true) ∧ Keep (fun _ => False) w w' := by
  have H := Lib.hid h
  obtain ⟨n, hn⟩ : ∃ n, n = gs.length := ⟨_, rfl⟩
  have HN := Lib.hid hn
  rw [← hn] at hfew ⊢
  clear h hn
  go_enter Try.func54, Try.ntmps54
  go_wp2_with fail
  go_loopw [3] (fun i wr => ∃ (k : Nat), i = .int .i64 k ∧ k ≤ n ∧ Hid (Keep (fun _ => False) w wr)) (fun i _ => n - (intOf i).toNat)
  case atStart => exact ⟨0, rfl, Nat.zero_le _, Keep.refl _ _⟩
  case round =>
    obtain ⟨k, rfl, hk, HK⟩ := hrel
    by_cases hlt : k < n
    · obtain ⟨g, hg⟩ : ∃ g, gs[k]? = some g := ⟨gs[k]'(by rw [← HN.out]; exact hlt), List.getElem?_eq_getElem _⟩
      obtain ⟨b1, o1, rfl, hb1, r1⟩ := (H.out.1.keep HK.out (fun _ _ x => x)).some_of (by rw [← HN.out]; omega)
      have x1 : wr.cell? ⟨b1, o1 + k, none⟩ = some (.slice g.A g.n g.c) := r1.val k _ (by rw [List.getElem?_map, hg]; rfl)
      have hki : ((k : Int) < (n : Int)) := by omega
      have hk0 : (0 : Int) ≤ (k : Int) := by omega
      have hgn : g.n ≤ 5000 := (H.out.2 k g hg).2
      have HS : Hid (Src wr g.A g.n ((marksR k 0 g.n).map (Value.int .i32))) := (H.out.2 k g hg).1.of_keep HK.out (fun _ _ x => x)
      have HC : Hid (∀ W, Calls Try.prog 77 #[.int .i64 k, .int .i64 0, .int .i64 g.n] W fun e w' => ∃ v, e = .returned v ∧ w'.ownsRow W.heap.size 21 1 v g.n ((marksR k 0 g.n).map (Value.int .i32)) ∧ Below W.heap.size W w') := fun W => by simpa using marks_any k 0 g.n W (by omega) (by omega)
      clear r1
      go_wp2_with fail
      refine wp_region_noPanic ?_
      refine wp_region_held_drew (S := fun w' => w'.cell? ⟨b1, o1 + k, none⟩ = some (.slice g.A g.n g.c)) (by kernel_rfl) x1 (fun hHeld => ?_)
      refine wpAnyH_take (i := 0) (oi := _) (v := ?vm0) rfl (by kernel_rfl) (by kernel_rfl) (by kernel_rfl) (fun _ _ _ h => h) (Or.inl ⟨by rfl, ?hym0⟩) (by assumption) ?restm0
      case hym0 => (intro w hSw; (try dsimp only at hSw); (try simp only [List.getElem_toArray, List.getElem_cons_zero, List.getElem_cons_succ]); go_simp; (try with_reducible rfl))
      (try simp only [Act.put, List.setIfInBounds_toArray, List.set_cons_zero, List.set_cons_succ, List.getElem_toArray, List.getElem_cons_zero, List.getElem_cons_succ])
      refine wpAnyH_take (i := 1) (oi := _) (v := ?vm1) rfl (by kernel_rfl) (by kernel_rfl) (by kernel_rfl) (fun _ _ _ h => h) (Or.inl ⟨by rfl, ?hym1⟩) (by assumption) ?restm1
      case hym1 => (intro w hSw; (try dsimp only at hSw); (try simp only [List.getElem_toArray, List.getElem_cons_zero, List.getElem_cons_succ]); go_simp; (try with_reducible rfl))
      (try simp only [Act.put, List.setIfInBounds_toArray, List.set_cons_zero, List.set_cons_succ, List.getElem_toArray, List.getElem_cons_zero, List.getElem_cons_succ])
      refine wpAnyH_take (i := 2) (oi := _) (v := ?vm2) rfl (by kernel_rfl) (by kernel_rfl) (by kernel_rfl) (fun _ _ _ h => h) (Or.inl ⟨by rfl, ?hym2⟩) (by assumption) ?restm2
      case hym2 => (intro w hSw; (try dsimp only at hSw); (try simp only [List.getElem_toArray, List.getElem_cons_zero, List.getElem_cons_succ]); go_simp; (try with_reducible rfl))
      (try simp only [Act.put, List.setIfInBounds_toArray, List.set_cons_zero, List.set_cons_succ, List.getElem_toArray, List.getElem_cons_zero, List.getElem_cons_succ])
      refine wpAnyH_take (i := 3) (oi := _) (v := ?vm3) rfl (by kernel_rfl) (by kernel_rfl) (by kernel_rfl) (fun _ _ _ h => h) (Or.inl ⟨by rfl, ?hym3⟩) (by assumption) ?restm3
      case hym3 => (intro w hSw; (try dsimp only at hSw); (try simp only [List.getElem_toArray, List.getElem_cons_zero, List.getElem_cons_succ]); go_simp; (try with_reducible rfl))
      (try simp only [Act.put, List.setIfInBounds_toArray, List.set_cons_zero, List.set_cons_succ, List.getElem_toArray, List.getElem_cons_zero, List.getElem_cons_succ])
      refine wpAnyH_take (i := 4) (oi := _) (v := ?vm4) rfl (by kernel_rfl) (by kernel_rfl) (by kernel_rfl) (fun _ _ _ h => h) (Or.inl ⟨by rfl, ?hym4⟩) (by assumption) ?restm4
      case hym4 => (intro w hSw; (try dsimp only at hSw); (try simp only [List.getElem_toArray, List.getElem_cons_zero, List.getElem_cons_succ]); go_simp; (try with_reducible rfl))
      (try simp only [Act.put, List.setIfInBounds_toArray, List.set_cons_zero, List.set_cons_succ, List.getElem_toArray, List.getElem_cons_zero, List.getElem_cons_succ])
      refine wpAnyH_take (i := 5) (oi := _) (v := ?vm5) rfl (by kernel_rfl) (by kernel_rfl) (by kernel_rfl) (fun _ _ _ h => h) (Or.inl ⟨by rfl, ?hym5⟩) (by assumption) ?restm5
      case hym5 => (intro w hSw; (try dsimp only at hSw); (try simp only [List.getElem_toArray, List.getElem_cons_zero, List.getElem_cons_succ]); go_simp; (try with_reducible rfl))
      (try simp only [Act.put, List.setIfInBounds_toArray, List.set_cons_zero, List.set_cons_succ, List.getElem_toArray, List.getElem_cons_zero, List.getElem_cons_succ])
      refine wpAnyH_take (i := 6) (oi := _) (v := ?vm6) rfl (by kernel_rfl) (by kernel_rfl) (by kernel_rfl) (fun _ _ _ h => h) (Or.inl ⟨by rfl, ?hym6⟩) (by assumption) ?restm6
      case hym6 => (intro w hSw; (try dsimp only at hSw); (try simp only [List.getElem_toArray, List.getElem_cons_zero, List.getElem_cons_succ]); go_simp; (try with_reducible rfl))
      (try simp only [Act.put, List.setIfInBounds_toArray, List.set_cons_zero, List.set_cons_succ, List.getElem_toArray, List.getElem_cons_zero, List.getElem_cons_succ])
      refine wpAnyH_take (i := 7) (oi := _) (v := ?vm7) rfl (by kernel_rfl) (by kernel_rfl) (by kernel_rfl) (fun _ _ _ h => h) (Or.inl ⟨by rfl, ?hym7⟩) (by assumption) ?restm7
      case hym7 => (intro w hSw; (try dsimp only at hSw); (try simp only [List.getElem_toArray, List.getElem_cons_zero, List.getElem_cons_succ]); go_simp; (try with_reducible rfl))
      (try simp only [Act.put, List.setIfInBounds_toArray, List.set_cons_zero, List.set_cons_succ, List.getElem_toArray, List.getElem_cons_zero, List.getElem_cons_succ])
      refine wpAnyH_take (i := 8) (oi := _) (v := ?vm8) rfl (by kernel_rfl) (by kernel_rfl) (by kernel_rfl) (fun _ _ _ h => h) (Or.inl ⟨by rfl, ?hym8⟩) (by assumption) ?restm8
      case hym8 => (intro w hSw; (try dsimp only at hSw); (try simp only [List.getElem_toArray, List.getElem_cons_zero, List.getElem_cons_succ]); go_simp; (try with_reducible rfl))
      (try simp only [Act.put, List.setIfInBounds_toArray, List.set_cons_zero, List.set_cons_succ, List.getElem_toArray, List.getElem_cons_zero, List.getElem_cons_succ])
      refine wpAnyH_take (i := 9) (oi := _) (v := ?vm9) rfl (by kernel_rfl) (by kernel_rfl) (by kernel_rfl) (fun _ _ _ h => h) (Or.inl ⟨by rfl, ?hym9⟩) (by assumption) ?restm9
      case hym9 => (intro w hSw; (try dsimp only at hSw); (try simp only [List.getElem_toArray, List.getElem_cons_zero, List.getElem_cons_succ]); go_simp; (try with_reducible rfl))
      (try simp only [Act.put, List.setIfInBounds_toArray, List.set_cons_zero, List.set_cons_succ, List.getElem_toArray, List.getElem_cons_zero, List.getElem_cons_succ])
      refine wpAnyH_ready (rs := [10]) (by kernel_rfl) (by simp) ?_
      refine AllReadyH.cons (o := _) rfl (fun K hK => ?_) AllReadyH.nil
      (try simp only [List.getElem_toArray, List.getElem_cons_zero, List.getElem_cons_succ])
      go_simp
      (refine (HC.out _).mono ?_; rintro r w1 ⟨v, rfl, ow, be⟩; obtain ⟨vA, vc, rfl, -⟩ := own_form ow; have HV := Lib.hid (Buf.of_own ow).src; have KB : Hid (Keep (fun _ => False) wr w1) := ⟨be.os, be.tape, be.output, be.size, fun i hi _ => be.block i hi⟩; clear ow be)
      refine hK.out _ _ ?_ (fun hHeld => ?_)
      · exact (KB.out.cell (p := ⟨b1, o1 + k, none⟩) hb1 (fun x => x)).trans x1
      clear hK K
      (try simp only [Act.put, List.setIfInBounds_toArray, List.set_cons_zero, List.set_cons_succ, List.getElem_toArray, List.getElem_cons_zero, List.getElem_cons_succ])
      refine wpAnyH_ready (rs := [11]) (by kernel_rfl) (by simp) ?_
      refine AllReadyH.cons (o := _) rfl (fun K hK => ?_) AllReadyH.nil
      (try simp only [List.getElem_toArray, List.getElem_cons_zero, List.getElem_cons_succ])
      go_simp
      (refine (same_Runes g.A vA g.n g.c vc (marksR k 0 g.n) _ (by first | exact HS.out.of_keep KB.out (fun _ _ x => x) | exact HS.out.of_keep KB.out.drew (fun _ _ x => x)) (by first | exact HV.out | exact HV.out.keep (Keep.refl _ _).drew) (by omega)).mono ?_; rintro r w2 ⟨rfl, kk, hw⟩; have KF : Hid (Keep (fun _ => False) wr w2) := (by show Keep _ _ _; rw [hw]; (first | exact KB.out.drewN kk | exact KB.out.drew.drewN kk)); clear hw)
      refine hK.out _ _ ?_ (fun hHeld => ?_)
      · exact (KF.out.cell (p := ⟨b1, o1 + k, none⟩) hb1 (fun x => x)).trans x1
      clear hK K
      (try simp only [Act.put, List.setIfInBounds_toArray, List.set_cons_zero, List.set_cons_succ, List.getElem_toArray, List.getElem_cons_zero, List.getElem_cons_succ])
      refine wpAnyH_take (i := 12) (oi := _) (v := ?vm12) rfl (by kernel_rfl) (by kernel_rfl) (by kernel_rfl) (fun _ _ _ h => h) (Or.inl ⟨by rfl, ?hym12⟩) (by assumption) ?restm12
      case hym12 => (intro w hSw; (try dsimp only at hSw); (try simp only [List.getElem_toArray, List.getElem_cons_zero, List.getElem_cons_succ]); go_simp; (try with_reducible rfl))
      (try simp only [Act.put, List.setIfInBounds_toArray, List.set_cons_zero, List.set_cons_succ, List.getElem_toArray, List.getElem_cons_zero, List.getElem_cons_succ])
      refine wpAnyH_done (by kernel_rfl) ?_ _
      refine NoPanic.normal ?_
      go_wp2_with fail
      go_roundw
      case rel => exact ⟨k + 1, by go_num, by omega, HK.out.trans KF.out (fun _ _ x => x)⟩
      case measure => simp [intOf]; omega
    · go_wp2_with fail
      go_ret
      exact ⟨rfl, HK.out⟩

end Go.Proofs.Ytoihadjboeeglaa.Rn
