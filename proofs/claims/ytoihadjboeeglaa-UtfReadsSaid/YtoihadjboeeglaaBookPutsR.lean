/- pontoonbook.Book: putTexts. By program in part (region.py: t 0-12, x 13). Own work. -/
import Derived.Test.YtoihadjboeeglaaBookMarkR
namespace Go.Proofs.Ytoihadjboeeglaa.Rn
set_option linter.unusedVariables false
set_option linter.unusedSimpArgs false
open Go.RowKit

theorem take_set_next {α : Type} {l m : List α} {j : Nat} {x : α} (h : l.take j = m.take j) (hl : j < l.length) (hm : m[j]? = some x) : (l.set j x).take (j + 1) = m.take (j + 1) := by
  rw [take_next hm, ← h, take_next (xs := l.set j x) (x := x) (by rw [List.getElem?_set_self hl])]
  congr 1
  rw [List.take_set_of_le (Nat.le_refl _)]

set_option maxRecDepth 100000 in
set_option maxHeartbeats 1600000 in
theorem texts_puts (w : World) (q : Nat) (own : Nat → Prop) (A : Option Addr) (c : Nat) (its : List Item) (f : Nat → List Int) (h : TextsT w q own A c its f) (hfew : its.length ≤ 250) :
    Calls Try.prog 40 #[.pointer (some ⟨q, 0, none⟩)] w fun e w' => e = .returned (.tuple #[]) ∧ ∃ f', TextsT w' q own A c its f' ∧ Keep own w w' ∧ ∀ (j : Nat) (it : Item), its[j]? = some it → f' j = marksR j 0 it.n := by
  have c0 := h.c0
  have H := Lib.hid h
  obtain ⟨n, hn⟩ : ∃ n, n = its.length := ⟨_, rfl⟩
  have HN := Lib.hid hn
  rw [← hn] at c0 hfew
  clear h hn
  go_enter Try.func40, Try.ntmps40
  go_wp2_with fail
  go_loopw [2] (fun i wr => ∃ (k : Nat) (g : Nat → List Int), i = .int .i64 k ∧ k ≤ n ∧ Hid (TextsT wr q own A c its g) ∧ Hid (Keep own w wr) ∧ Hid (∀ (j : Nat) (it : Item), j < k → its[j]? = some it → g j = marksR j 0 it.n)) (fun i _ => n - (intOf i).toNat)
  case atStart => exact ⟨0, f, rfl, Nat.zero_le _, H, Keep.refl _ _, fun j it hj => absurd hj (by omega)⟩
  case round =>
    obtain ⟨k, g, rfl, hk, HT, HK, HM⟩ := hrel
    obtain ⟨wo, rfl⟩ : ∃ wo : World, wo = wr := ⟨_, rfl⟩
    have c1 := HT.out.c0
    rw [← HN.out] at c1
    by_cases hlt : k < n
    · obtain ⟨it, hit⟩ : ∃ it, its[k]? = some it := ⟨its[k]'(by rw [← HN.out]; exact hlt), List.getElem?_eq_getElem _⟩
      have hmem := List.mem_of_getElem? hit
      obtain ⟨b1, o1, rfl, _, r1⟩ := HT.out.rows.some_of (by rw [← HN.out]; omega)
      have x1 : wo.cell? ⟨b1, o1 + k, none⟩ = some (.slice it.A it.n it.c) := r1.val k _ (by rw [List.getElem?_map, hit]; rfl)
      have hki : ((k : Int) < (n : Int)) := by omega
      have hk0 : (0 : Int) ≤ (k : Int) := by omega
      have hfw : it.n ≤ 4000 := HT.out.few it hmem
      have HC : Hid (∀ W, Calls Try.prog 77 #[.int .i64 k, .int .i64 0, .int .i64 it.n] W fun e w' => ∃ v, e = .returned v ∧ w'.ownsRow W.heap.size 21 1 v it.n ((marksR k 0 it.n).map (Value.int .i32)) ∧ Below W.heap.size W w') := fun W => by simpa using marks_any k 0 it.n W (by omega) (by omega)
      clear r1
      go_wp2_with fail
      refine (HC.out _).mono ?_
      rintro e w1 ⟨v, rfl, ow, be⟩
      obtain ⟨mA, mc, rfl, -⟩ := own_form ow
      have HB := Lib.hid (Buf.of_own ow)
      have HL : Hid (∀ z, blk mA = some z → wo.heap.size ≤ z) := fun z hz => (ow.lt z (by rw [ownBlock_slice]; exact hz)).1
      have HT1 := Lib.hid (HT.out.keep (Keep.of_below (fun _ => False) be) (fun _ _ x => x) (fun x => x))
      have HK1 := Lib.hid (HK.out.trans (Keep.of_below (fun _ => False) be) (fun _ _ x => x.elim))
      have hlen : (g k).length = it.n := by have := (HT.out.item k it hit).len; simpa using this
      clear ow be x1 c1
      have HLN := Lib.hid hlen
      clear hlen
      go_wp2_with fail
      go_loopw [4] (fun i wr => ∃ (j : Nat) (g' : Nat → List Int), i = .int .i64 j ∧ j ≤ it.n ∧ Hid (TextsT wr q own (some ⟨b1, o1, none⟩) c its g') ∧ Hid (Keep own w wr) ∧ Hid (Buf wr mA it.n mc ((marksR k 0 it.n).map (Value.int .i32))) ∧ Hid (∀ (z : Nat) (jt : Item), z < k → its[z]? = some jt → g' z = marksR z 0 jt.n) ∧ Hid ((g' k).take j = (marksR k 0 it.n).take j) ∧ Hid ((g' k).length = it.n)) (fun i _ => it.n - (intOf i).toNat)
      case atStart => exact ⟨0, g, rfl, Nat.zero_le _, HT1, HK1, HB, HM, rfl, HLN⟩
      case round =>
        obtain ⟨j, g', rfl, hj, HT2, HK2, HB2, HM2, HP2, HQ2⟩ := hrel
        by_cases hjl : j < it.n
        · obtain ⟨b, off, hA, hb, hr⟩ := (HT2.out.item k it hit).some_of (by omega)
          obtain ⟨b1', o1', e1, _, r1⟩ := HT2.out.rows.some_of (by rw [← HN.out]; omega)
          injection e1 with e1; injection e1 with e1 e2; subst e1 e2
          obtain ⟨mb, mo, rfl, hmb, mr⟩ := HB2.out.some_of (by omega)
          have d0 := HT2.out.c0
          rw [← HN.out] at d0
          have d1 : wr.cell? ⟨b1, o1 + k, none⟩ = some (.slice (some ⟨b, off, none⟩) it.n it.c) := by rw [← hA]; exact r1.val k _ (by rw [List.getElem?_map, hit]; rfl)
          have d2 : wr.cell? ⟨mb, mo + j, none⟩ = some (.int .i32 (markR k j)) := mr.val j _ (by rw [List.getElem?_map, marksR_at _ _ _ _ hjl, Nat.zero_add]; rfl)
          have d3 := (hr.can j (by have := hr.le; omega)).1
          obtain ⟨u0, d3⟩ := Option.isSome_iff_exists.1 d3
          have d4 := (hr.can j (by have := hr.le; omega)).2
          have hbk : blk it.A = some b := by rw [hA]; rfl
          obtain ⟨nq, n1⟩ := HT2.out.d3 it hmem b hbk
          have hob := HT2.out.oI it hmem b hbk
          have nm : mb ≠ b := fun e => by have := HL.out mb rfl; have := HT.out.lt b hob; omega
          have HS : Hid (∀ u, (wr.setCell ⟨b, off + j, none⟩ u).cell? ⟨q, 4, none⟩ = some (.slice (some ⟨b1, o1, none⟩) n c) ∧ (wr.setCell ⟨b, off + j, none⟩ u).cell? ⟨b1, o1 + k, none⟩ = some (.slice (some ⟨b, off, none⟩) it.n it.c) ∧ (wr.setCell ⟨b, off + j, none⟩ u).cell? ⟨mb, mo + j, none⟩ = some (.int .i32 (markR k j))) := fun u => by
            have K := keep_set wr b (off + j) u
            exact ⟨(K.cell (p := ⟨q, 4, none⟩) HT2.out.lq (fun e => nq e.symm)).trans d0, (K.cell (p := ⟨b1, o1 + k, none⟩) (HT2.out.lt b1 (HT2.out.oA b1 rfl)) (fun e => n1 (by rw [show b = b1 from e.symm]; rfl))).trans d1, (K.cell (p := ⟨mb, mo + j, none⟩) hmb (fun e => nm e)).trans d2⟩
          have HR : Hid (TextsT (wr.setCell ⟨b, off + j, none⟩ (.int .i32 (markR k j))).drew q own (some ⟨b1, o1, none⟩) c its (fun z => if z = k then (g' k).set j (markR k j) else g' z)) := (HT2.out.set hit hA hjl _).keep (S := fun _ => False) ((Keep.refl _ _).drew) (fun _ _ x => x) (fun x => x)
          have HKR : Hid (Keep own w (wr.setCell ⟨b, off + j, none⟩ (.int .i32 (markR k j))).drew) := HK2.out.trans (keep_set wr b (off + j) _).drew (fun z _ e => by rw [show z = b from e]; exact hob)
          have HBR : Hid (Buf (wr.setCell ⟨b, off + j, none⟩ (.int .i32 (markR k j))).drew (some ⟨mb, mo, none⟩) it.n mc ((marksR k 0 it.n).map (Value.int .i32))) := HB2.out.keep (keep_set wr b (off + j) _).drew (fun z hz e => by injection hz with hz; exact nm (hz.trans e))
          have hji : ((j : Int) < (it.n : Int)) := by omega
          have hj0 : (0 : Int) ≤ (j : Int) := by omega
          clear hr r1 mr hA nq n1 nm hbk
          go_wp2_with fail
          refine wp_region_noPanic ?_
          refine wp_region_held_drew (S := fun w' => w'.cell? ⟨q, 4, none⟩ = some (.slice (some ⟨b1, o1, none⟩) n c) ∧ w'.cell? ⟨b1, o1 + k, none⟩ = some (.slice (some ⟨b, off, none⟩) it.n it.c) ∧ w'.cell? ⟨mb, mo + j, none⟩ = some (.int .i32 (markR k j))) (by kernel_rfl) ⟨d0, d1, d2⟩ (fun hHeld => ?_)
          refine wpAnyH_take (i := 0) (oi := _) (v := ?va0) rfl (by kernel_rfl) (by kernel_rfl) (by kernel_rfl) (fun _ _ _ h => h) (Or.inl ⟨by rfl, ?hya0⟩) (by assumption) ?resta0
          case hya0 => (intro w hSw; (try dsimp only at hSw); (try simp only [List.getElem_toArray, List.getElem_cons_zero, List.getElem_cons_succ]); go_simp; (try with_reducible rfl))
          (try simp only [Act.put, List.setIfInBounds_toArray, List.set_cons_zero, List.set_cons_succ, List.getElem_toArray, List.getElem_cons_zero, List.getElem_cons_succ])
          refine wpAnyH_take (i := 1) (oi := _) (v := ?va1) rfl (by kernel_rfl) (by kernel_rfl) (by kernel_rfl) (fun _ _ _ h => h) (Or.inl ⟨by rfl, ?hya1⟩) (by assumption) ?resta1
          case hya1 => (intro w hSw; (try dsimp only at hSw); (try simp only [List.getElem_toArray, List.getElem_cons_zero, List.getElem_cons_succ]); go_simp; (try with_reducible rfl))
          (try simp only [Act.put, List.setIfInBounds_toArray, List.set_cons_zero, List.set_cons_succ, List.getElem_toArray, List.getElem_cons_zero, List.getElem_cons_succ])
          refine wpAnyH_take (i := 2) (oi := _) (v := ?va2) rfl (by kernel_rfl) (by kernel_rfl) (by kernel_rfl) (fun _ _ _ h => h) (Or.inl ⟨by rfl, ?hya2⟩) (by assumption) ?resta2
          case hya2 => (intro w hSw; (try dsimp only at hSw); (try simp only [List.getElem_toArray, List.getElem_cons_zero, List.getElem_cons_succ]); go_simp; (try with_reducible rfl))
          (try simp only [Act.put, List.setIfInBounds_toArray, List.set_cons_zero, List.set_cons_succ, List.getElem_toArray, List.getElem_cons_zero, List.getElem_cons_succ])
          refine wpAnyH_take (i := 3) (oi := _) (v := ?va3) rfl (by kernel_rfl) (by kernel_rfl) (by kernel_rfl) (fun _ _ _ h => h) (Or.inl ⟨by rfl, ?hya3⟩) (by assumption) ?resta3
          case hya3 => (intro w hSw; (try dsimp only at hSw); (try simp only [List.getElem_toArray, List.getElem_cons_zero, List.getElem_cons_succ]); go_simp; (try with_reducible rfl))
          (try simp only [Act.put, List.setIfInBounds_toArray, List.set_cons_zero, List.set_cons_succ, List.getElem_toArray, List.getElem_cons_zero, List.getElem_cons_succ])
          refine wpAnyH_take (i := 4) (oi := _) (v := ?va4) rfl (by kernel_rfl) (by kernel_rfl) (by kernel_rfl) (fun _ _ _ h => h) (Or.inl ⟨by rfl, ?hya4⟩) (by assumption) ?resta4
          case hya4 => (intro w hSw; (try dsimp only at hSw); (try simp only [List.getElem_toArray, List.getElem_cons_zero, List.getElem_cons_succ]); go_simp; (try with_reducible rfl))
          (try simp only [Act.put, List.setIfInBounds_toArray, List.set_cons_zero, List.set_cons_succ, List.getElem_toArray, List.getElem_cons_zero, List.getElem_cons_succ])
          refine wpAnyH_take (i := 5) (oi := _) (v := ?va5) rfl (by kernel_rfl) (by kernel_rfl) (by kernel_rfl) (fun _ _ _ h => h) (Or.inl ⟨by rfl, ?hya5⟩) (by assumption) ?resta5
          case hya5 => (intro w hSw; (try dsimp only at hSw); (try simp only [List.getElem_toArray, List.getElem_cons_zero, List.getElem_cons_succ]); go_simp; (try with_reducible rfl))
          (try simp only [Act.put, List.setIfInBounds_toArray, List.set_cons_zero, List.set_cons_succ, List.getElem_toArray, List.getElem_cons_zero, List.getElem_cons_succ])
          refine wpAnyH_take (i := 6) (oi := _) (v := ?va6) rfl (by kernel_rfl) (by kernel_rfl) (by kernel_rfl) (fun _ _ _ h => h) (Or.inl ⟨by rfl, ?hya6⟩) (by assumption) ?resta6
          case hya6 => (intro w hSw; (try dsimp only at hSw); (try simp only [List.getElem_toArray, List.getElem_cons_zero, List.getElem_cons_succ]); go_simp; (try with_reducible rfl))
          (try simp only [Act.put, List.setIfInBounds_toArray, List.set_cons_zero, List.set_cons_succ, List.getElem_toArray, List.getElem_cons_zero, List.getElem_cons_succ])
          refine wpAnyH_take (i := 7) (oi := _) (v := ?va7) rfl (by kernel_rfl) (by kernel_rfl) (by kernel_rfl) (fun _ _ _ h => h) (Or.inl ⟨by rfl, ?hya7⟩) (by assumption) ?resta7
          case hya7 => (intro w hSw; (try dsimp only at hSw); (try simp only [List.getElem_toArray, List.getElem_cons_zero, List.getElem_cons_succ]); go_simp; (try with_reducible rfl))
          (try simp only [Act.put, List.setIfInBounds_toArray, List.set_cons_zero, List.set_cons_succ, List.getElem_toArray, List.getElem_cons_zero, List.getElem_cons_succ])
          refine wpAnyH_take (i := 8) (oi := _) (v := ?va8) rfl (by kernel_rfl) (by kernel_rfl) (by kernel_rfl) (fun _ _ _ h => h) (Or.inl ⟨by rfl, ?hya8⟩) (by assumption) ?resta8
          case hya8 => (intro w hSw; (try dsimp only at hSw); (try simp only [List.getElem_toArray, List.getElem_cons_zero, List.getElem_cons_succ]); go_simp; (try with_reducible rfl))
          (try simp only [Act.put, List.setIfInBounds_toArray, List.set_cons_zero, List.set_cons_succ, List.getElem_toArray, List.getElem_cons_zero, List.getElem_cons_succ])
          refine wpAnyH_take (i := 9) (oi := _) (v := ?va9) rfl (by kernel_rfl) (by kernel_rfl) (by kernel_rfl) (fun _ _ _ h => h) (Or.inl ⟨by rfl, ?hya9⟩) (by assumption) ?resta9
          case hya9 => (intro w hSw; (try dsimp only at hSw); (try simp only [List.getElem_toArray, List.getElem_cons_zero, List.getElem_cons_succ]); go_simp; (try with_reducible rfl))
          (try simp only [Act.put, List.setIfInBounds_toArray, List.set_cons_zero, List.set_cons_succ, List.getElem_toArray, List.getElem_cons_zero, List.getElem_cons_succ])
          refine wpAnyH_take (i := 10) (oi := _) (v := ?va10) rfl (by kernel_rfl) (by kernel_rfl) (by kernel_rfl) (fun _ _ _ h => h) (Or.inl ⟨by rfl, ?hya10⟩) (by assumption) ?resta10
          case hya10 => (intro w hSw; (try dsimp only at hSw); (try simp only [List.getElem_toArray, List.getElem_cons_zero, List.getElem_cons_succ]); go_simp; (try with_reducible rfl))
          (try simp only [Act.put, List.setIfInBounds_toArray, List.set_cons_zero, List.set_cons_succ, List.getElem_toArray, List.getElem_cons_zero, List.getElem_cons_succ])
          refine wpAnyH_take (i := 11) (oi := _) (v := ?va11) rfl (by kernel_rfl) (by kernel_rfl) (by kernel_rfl) (fun _ _ _ h => h) (Or.inl ⟨by rfl, ?hya11⟩) (by assumption) ?resta11
          case hya11 => (intro w hSw; (try dsimp only at hSw); (try simp only [List.getElem_toArray, List.getElem_cons_zero, List.getElem_cons_succ]); go_simp; (try with_reducible rfl))
          (try simp only [Act.put, List.setIfInBounds_toArray, List.set_cons_zero, List.set_cons_succ, List.getElem_toArray, List.getElem_cons_zero, List.getElem_cons_succ])
          refine wpAnyH_take (i := 12) (oi := _) (v := ?va12) rfl (by kernel_rfl) (by kernel_rfl) (by kernel_rfl) (fun _ _ _ h => h) (Or.inl ⟨by rfl, ?hya12⟩) (by assumption) ?resta12
          case hya12 => (intro w hSw; (try dsimp only at hSw); (try simp only [List.getElem_toArray, List.getElem_cons_zero, List.getElem_cons_succ]); go_simp; (try with_reducible rfl))
          (try simp only [Act.put, List.setIfInBounds_toArray, List.set_cons_zero, List.set_cons_succ, List.getElem_toArray, List.getElem_cons_zero, List.getElem_cons_succ])
          refine wpAnyH_ready (rs := [13]) (by kernel_rfl) (by simp) ?_
          refine AllReadyH.cons (o := _) rfl (fun K hK => ?_) AllReadyH.nil
          (try simp only [List.getElem_toArray, List.getElem_cons_zero, List.getElem_cons_succ])
          go_simp
          refine hK.out _ _ ?_ (fun hHeld => ?_)
          · exact HS.out _
          clear hK K
          (try simp only [Act.put, List.setIfInBounds_toArray, List.set_cons_zero, List.set_cons_succ, List.getElem_toArray, List.getElem_cons_zero, List.getElem_cons_succ])
          refine wpAnyH_done (by kernel_rfl) ?_ _
          refine NoPanic.normal ?_
          go_wp2_with fail
          go_roundw
          case rel => exact ⟨j + 1, _, by go_num, by omega, HR, HKR, HBR, (fun z jt hz hjt => by
            simp only [if_neg (show z ≠ k by omega)]; exact HM2.out z jt hz hjt), (by
            show List.take _ _ = _
            simp only [if_pos]
            exact take_set_next HP2.out (by rw [HQ2.out]; exact hjl) (by rw [marksR_at _ _ _ _ hjl, Nat.zero_add])), (by show List.length _ = _; simp only [if_pos, List.length_set]; exact HQ2.out)⟩
          case measure => simp [intOf]; omega
        · have ej : j = it.n := by omega
          have HM3 : Hid (∀ (z : Nat) (jt : Item), z < k + 1 → its[z]? = some jt → g' z = marksR z 0 jt.n) := fun z jt hz hjt => by
            by_cases e : z = k
            · subst e
              rw [hit] at hjt; injection hjt with hjt; subst hjt
              have := HP2.out
              rw [ej, List.take_of_length_le (by rw [HQ2.out]; exact Nat.le_refl _), List.take_of_length_le (by rw [marksR_length]; exact Nat.le_refl _)] at this
              exact this
            · exact HM2.out z jt (by omega) hjt
          clear ej
          go_wp2_with fail
          go_roundw
          case rel => exact ⟨k + 1, g', by go_num, by omega, HT2, HK2, HM3⟩
          case measure => simp [intOf]; omega
    · have HE : Hid (∀ (j : Nat) (it : Item), its[j]? = some it → g j = marksR j 0 it.n) := fun j it hj => HM.out j it (by
        have := (List.getElem?_eq_some_iff.1 hj).1
        have := HN.out
        omega) hj
      go_wp2_with fail
      go_end0
      exact ⟨rfl, g, HT.out, HK.out, HE.out⟩

end Go.Proofs.Ytoihadjboeeglaa.Rn
