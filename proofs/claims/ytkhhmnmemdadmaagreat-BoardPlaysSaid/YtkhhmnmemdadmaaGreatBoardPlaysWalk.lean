/- Law BoardPlays: the walk. By program (boardplays.gen.py). Own work. -/
import Derived.Test.YtkhhmnmemdadmaaGreatBoardKept
import Derived.IntWalk
import Derived.Deep.QuietTactic
import Derived.BigQuiet
namespace Go.Proofs.YtkhhmnmemdadmaaGreat
set_option linter.unusedVariables false
set_option linter.unusedSimpArgs false
open Go.RowKit Go.Maps

theorem bpKeys {l : List (List UInt8 × Int)} {k : Nat} {x : List UInt8 × Int} (h : l[k]? = some x) : keysL (l.take (k + 1)) = insKey x.1 (keysL (l.take k)) := by rw [take_next h, keysL_snoc]
theorem bpCnt {l : List (List UInt8 × Int)} {k : Nat} {x : List UInt8 × Int} (h : l[k]? = some x) : cnt (l.take (k + 1)) = setAt (cnt (l.take k)) x.1 (wrap64 (cnt (l.take k) x.1 + x.2)) := by rw [take_next h, cnt_snoc]
theorem bpWrap (x : Int) : IntKind.i64.wrap x = wrap64 x := IntWalk.i64_left x
theorem bpLen (l : List (List UInt8 × Int)) (k : Nat) : (keysL (l.take k)).length ≤ k := Nat.le_trans (keysL_length _) (List.length_take_le _ _)

set_option maxRecDepth 100000 in
set_option maxHeartbeats 12800000 in
theorem bplays_good (A : Option Addr) (n c : Nat) (ss : List ByteArray) (A2 : Option Addr) (m c2 : Nat) (ns : List Int) (ask : ByteArray) (w : World) (hss : Strs w A n ss) (hns : Ints w A2 m ns) (hz : ask.size ≤ maxLen) (h40 : n ≤ 40) (hmn : n ≤ m) :
    Calls Tryz.prog 3 #[.slice A n c, .slice A2 m c2, .string ask] w fun e w' => e = .returned (.bool true) ∧ Below w.heap.size w w' := by
  have hmm := @run_makeMap Tryz.prog
  obtain ⟨i0, hi0, hz0, hz1, hz2⟩ := info_parts string_info
  obtain ⟨L, hL⟩ : ∃ L : List (List UInt8 × Int), L = (ss.map fun s => s.data.toList).zip ns := ⟨_, rfl⟩
  have hLl : L.length = n := by rw [hL, List.length_zip, List.length_map, hss.1, hns.1]; omega
  have HL := Lib.hid hL
  have HLL := Lib.hid hLl
  have HS := Lib.hid hss
  have HI := Lib.hid hns
  have HA := Lib.hid hz
  clear hL hLl hss hns
  unfold maxLen at hz
  have hd1 : decide (40 < (n : Int)) = false := by simp; omega
  have hd2 : decide (m < n) = false := by simp; omega
  go_enter Tryz.func3, Tryz.ntmps3
  go_wp2_with fail
  refine (talive_any _).mono ?_
  rintro r w1 ⟨rfl, hb⟩
  have HB := Lib.hid (plays_made hb (.cells #[.int .u32 0, .int .i32 0, .int .u32 0, .int .i32 0, .int .u32 0, .map none] 40) rfl (.cells #[.slice none 0 0, .slice none 0 0, .slice none 0 0, .slice none 0 0, .slice none 0 0, .slice none 0 0, .slice none 0 0, .slice none 0 0, .slice none 0 0, .slice none 0 0, .slice none 0 0, .slice none 0 0, .slice none 0 0, .slice none 0 0, .slice none 0 0, .slice none 0 0] 52) rfl)
  clear hb
  go_wp2_with fail
  obtain ⟨p, hp⟩ : ∃ p, p = w1.heap.size := ⟨_, rfl⟩
  rw [← hp] at HB ⊢
  clear hp hmm
  go_loopw [9, 11] (fun o i wr => ∃ (k r : Nat) (O : Option Addr) (oc : Nat) (km : List (List UInt8)) (g : List UInt8 → Int), i = .int .i64 k ∧ o = .slice O r oc ∧ k ≤ n ∧ r ≤ k ∧ Hid (r = km.length) ∧ Hid (km = keysL (L.take k)) ∧ Hid (g = cnt (L.take k)) ∧ Hid (Plays w p (p + 1 + 1) (p + 1) km g km g O oc (rising km) none k wr)) (fun _ i _ => n - (intOf i).toNat)
  case atStart => exact ⟨0, 0, none, 0, [], fun _ => 0, rfl, rfl, Nat.zero_le _, Nat.le_refl _, rfl, rfl, rfl, HB⟩
  case round =>
    obtain ⟨k, r, O, oc, km, g, rfl, rfl, hk, hr, HR, HKM, HG, HP⟩ := hrel
    obtain ⟨wo, rfl⟩ : ∃ wo : World, wo = wr := ⟨_, rfl⟩
    clear HB
    by_cases hlt : k < n
    · obtain ⟨s, hs⟩ : ∃ s, ss[k]? = some s := ⟨ss[k]'(by rw [HS.out.1]; exact hlt), List.getElem?_eq_getElem _⟩
      obtain ⟨v, hv⟩ : ∃ v, ns[k]? = some v := ⟨ns[k]'(by rw [HI.out.1]; omega), List.getElem?_eq_getElem _⟩
      obtain ⟨b, off, rfl, hbl, hc⟩ := HS.out.2.1 (by omega)
      obtain ⟨b2, off2, rfl, hbl2, hc2⟩ := HI.out.2.1 (by omega)
      have hsm := HS.out.2.2.1 s (List.mem_of_getElem? hs)
      have HSM := Lib.hid hsm
      unfold maxLen at hsm
      have hvb := HI.out.2.2.1 v (List.mem_of_getElem? hv)
      have hcs := hc k s hs
      have hcv := hc2 k v hv
      have RD : Hid (∀ W, Below w.heap.size w W → W.cell? ⟨b, off + k, none⟩ = some (.string s) ∧ W.cell? ⟨b2, off2 + k, none⟩ = some (.int .i64 v)) := fun W hW => ⟨(hW.cell (p := ⟨b, off + k, none⟩) hbl).trans hcs, (hW.cell (p := ⟨b2, off2 + k, none⟩) hbl2).trans hcv⟩
      have gx : L[k]? = some (s.data.toList, v) := by rw [HL.out, List.getElem?_zip_eq_some]; exact ⟨by rw [List.getElem?_map, hs]; rfl, hv⟩
      obtain ⟨km', hkm'⟩ : ∃ km', km' = insKey s.data.toList km := ⟨_, rfl⟩
      obtain ⟨g', hg'⟩ : ∃ g', g' = setAt g s.data.toList (wrap64 (g s.data.toList + v)) := ⟨_, rfl⟩
      have K1 : Hid (km' = keysL (L.take (k + 1))) := by show _ = _; rw [hkm', HKM.out]; exact (bpKeys gx).symm
      have C1 : Hid (g' = cnt (L.take (k + 1))) := by show _ = _; rw [hg', HG.out]; exact (bpCnt gx).symm
      have hgs : g' s.data.toList = wrap64 (g s.data.toList + v) := by rw [hg', setAt_same]
      have HKM' := Lib.hid hkm'
      have HG' := Lib.hid hg'
      have HGS := Lib.hid hgs
      obtain ⟨r', hr'⟩ : ∃ r', r' = km'.length := ⟨_, rfl⟩
      have hrr : r ≤ r' ∧ r' ≤ k + 1 := by
        have h1 := bpLen L (k + 1)
        rw [← K1.out] at h1
        refine ⟨?_, by omega⟩
        rw [hr', hkm', HR.out]; unfold insKey; split <;> simp
      have HR' := Lib.hid hr'
      have r1 := (RD.out wo HP.out.below).1
      obtain ⟨hr1, hr2⟩ := hrr
      clear hc hc2 hcs hcv hs hv gx hkm' hg' hgs hr'
      by_cases hbig : 60 < s.size
      · go_wp2_with fail
        go_ret
        exact ⟨rfl, HP.out.below⟩
      · by_cases hin : s.data.toList ∈ km
        · have hl := HP.out.ask_in HSM.out hin
          have HIN := Lib.hid hin
          have HPT : Hid (Plays w p (p + 1 + 1) (p + 1) km g km g O oc (rising km') none k wo) := by
            show Plays _ _ _ _ _ _ _ _ _ _ _ _ _ _
            rw [HKM'.out, insKey_in hin]; exact HP.out
          have hro : r = r' := by rw [HR.out, HR'.out, HKM'.out, insKey_in hin]
          have HRO := Lib.hid hro
          clear hin hro
          go_wp2_with fail
          clear hl
          obtain rfl := HRO.out
          as_aux_lemma =>
            have hkm : ((k : Int) < (m : Int)) := by omega
            have hkn : ((k : Int) < (n : Int)) := by omega
            have hk0' : (0 : Int) ≤ (k : Int) := by omega
            have lk18 := HPT.out.look HSM.out
            have lk18' := HPT.out.drew.look HSM.out
            obtain ⟨c18, d18⟩ := RD.out _ HPT.out.below
            refine wp_region_noPanic ?_
            refine wp_region_held_drew (S := fun w' => w'.cell? ⟨b, off + k, none⟩ = some (.string s) ∧ w'.cell? ⟨b2, off2 + k, none⟩ = some (.int .i64 v)) (by kernel_rfl) ⟨c18, d18⟩ (fun hHeld => ?_)
            refine wpAnyH_take (i := 0) (oi := _) (v := ?vid0) rfl (by kernel_rfl) (by kernel_rfl) (by kernel_rfl) (fun _ _ _ h => h) (Or.inl ⟨by rfl, ?hyid0⟩) (by assumption) ?restid0
            case hyid0 => (intro w hSw; (try dsimp only at hSw); (try simp only [List.getElem_toArray, List.getElem_cons_zero, List.getElem_cons_succ]); go_simp; (try with_reducible rfl))
            (try simp only [Act.put, List.setIfInBounds_toArray, List.set_cons_zero, List.set_cons_succ, List.getElem_toArray, List.getElem_cons_zero, List.getElem_cons_succ])
            refine wpAnyH_take (i := 1) (oi := _) (v := ?vid1) rfl (by kernel_rfl) (by kernel_rfl) (by kernel_rfl) (fun _ _ _ h => h) (Or.inl ⟨by rfl, ?hyid1⟩) (by assumption) ?restid1
            case hyid1 => (intro w hSw; (try dsimp only at hSw); (try simp only [List.getElem_toArray, List.getElem_cons_zero, List.getElem_cons_succ]); go_simp; (try with_reducible rfl))
            (try simp only [Act.put, List.setIfInBounds_toArray, List.set_cons_zero, List.set_cons_succ, List.getElem_toArray, List.getElem_cons_zero, List.getElem_cons_succ])
            refine wpAnyH_take (i := 2) (oi := _) (v := ?vid2) rfl (by kernel_rfl) (by kernel_rfl) (by kernel_rfl) (fun _ _ _ h => h) (Or.inl ⟨by rfl, ?hyid2⟩) (by assumption) ?restid2
            case hyid2 => (intro w hSw; (try dsimp only at hSw); (try simp only [List.getElem_toArray, List.getElem_cons_zero, List.getElem_cons_succ]); go_simp; (try with_reducible rfl))
            (try simp only [Act.put, List.setIfInBounds_toArray, List.set_cons_zero, List.set_cons_succ, List.getElem_toArray, List.getElem_cons_zero, List.getElem_cons_succ])
            refine wpAnyH_take (i := 3) (oi := _) (v := ?vid3) rfl (by kernel_rfl) (by kernel_rfl) (by kernel_rfl) (fun _ _ _ h => h) (Or.inl ⟨by rfl, ?hyid3⟩) (by assumption) ?restid3
            case hyid3 => (intro w hSw; (try dsimp only at hSw); (try simp only [List.getElem_toArray, List.getElem_cons_zero, List.getElem_cons_succ]); go_simp; (try with_reducible rfl))
            (try simp only [Act.put, List.setIfInBounds_toArray, List.set_cons_zero, List.set_cons_succ, List.getElem_toArray, List.getElem_cons_zero, List.getElem_cons_succ])
            refine wpAnyH_take (i := 4) (oi := _) (v := ?vid4) rfl (by kernel_rfl) (by kernel_rfl) (by kernel_rfl) (fun _ _ _ h => h) (Or.inl ⟨by rfl, ?hyid4⟩) (by assumption) ?restid4
            case hyid4 => (intro w hSw; (try dsimp only at hSw); (try simp only [List.getElem_toArray, List.getElem_cons_zero, List.getElem_cons_succ]); go_simp; (try with_reducible rfl))
            (try simp only [Act.put, List.setIfInBounds_toArray, List.set_cons_zero, List.set_cons_succ, List.getElem_toArray, List.getElem_cons_zero, List.getElem_cons_succ])
            refine wpAnyH_take (i := 6) (oi := _) (v := ?vid6) rfl (by kernel_rfl) (by kernel_rfl) (by kernel_rfl) (fun _ _ _ h => h) (Or.inl ⟨by rfl, ?hyid6⟩) (by assumption) ?restid6
            case hyid6 => (intro w hSw; (try dsimp only at hSw); (try simp only [List.getElem_toArray, List.getElem_cons_zero, List.getElem_cons_succ]); go_simp; (try with_reducible rfl))
            (try simp only [Act.put, List.setIfInBounds_toArray, List.set_cons_zero, List.set_cons_succ, List.getElem_toArray, List.getElem_cons_zero, List.getElem_cons_succ])
            refine wpAnyH_take (i := 7) (oi := _) (v := ?vid7) rfl (by kernel_rfl) (by kernel_rfl) (by kernel_rfl) (fun _ _ _ h => h) (Or.inl ⟨by rfl, ?hyid7⟩) (by assumption) ?restid7
            case hyid7 => (intro w hSw; (try dsimp only at hSw); (try simp only [List.getElem_toArray, List.getElem_cons_zero, List.getElem_cons_succ]); go_simp; (try with_reducible rfl))
            (try simp only [Act.put, List.setIfInBounds_toArray, List.set_cons_zero, List.set_cons_succ, List.getElem_toArray, List.getElem_cons_zero, List.getElem_cons_succ])
            refine wpAnyH_take (i := 8) (oi := _) (v := ?vid8) rfl (by kernel_rfl) (by kernel_rfl) (by kernel_rfl) (fun _ _ _ h => h) (Or.inl ⟨by rfl, ?hyid8⟩) (by assumption) ?restid8
            case hyid8 => (intro w hSw; (try dsimp only at hSw); (try simp only [List.getElem_toArray, List.getElem_cons_zero, List.getElem_cons_succ]); go_simp; (try with_reducible rfl))
            (try simp only [Act.put, List.setIfInBounds_toArray, List.set_cons_zero, List.set_cons_succ, List.getElem_toArray, List.getElem_cons_zero, List.getElem_cons_succ])
            refine wpAnyH_take (i := 9) (oi := _) (v := ?vid9) rfl (by kernel_rfl) (by kernel_rfl) (by kernel_rfl) (fun _ _ _ h => h) (Or.inl ⟨by rfl, ?hyid9⟩) (by assumption) ?restid9
            case hyid9 => (intro w hSw; (try dsimp only at hSw); (try simp only [List.getElem_toArray, List.getElem_cons_zero, List.getElem_cons_succ]); go_simp; (try with_reducible rfl))
            (try simp only [Act.put, List.setIfInBounds_toArray, List.set_cons_zero, List.set_cons_succ, List.getElem_toArray, List.getElem_cons_zero, List.getElem_cons_succ])
            refine wpAnyH_ready (rs := [5]) (by kernel_rfl) (by simp) ?_
            refine AllReadyH.cons (o := _) rfl (fun K hK => ?_) AllReadyH.nil
            (try simp only [List.getElem_toArray, List.getElem_cons_zero, List.getElem_cons_succ])
            go_simp
            refine hK.out _ _ ?_ (fun hHeld => ?_)
            · exact ⟨c18, d18⟩
            clear hK K
            (try simp only [Act.put, List.setIfInBounds_toArray, List.set_cons_zero, List.set_cons_succ, List.getElem_toArray, List.getElem_cons_zero, List.getElem_cons_succ])
            refine wpAnyH_take (i := 10) (oi := _) (v := ?vid10) rfl (by kernel_rfl) (by kernel_rfl) (by kernel_rfl) (fun _ _ _ h => h) (Or.inl ⟨by rfl, ?hyid10⟩) (by assumption) ?restid10
            case hyid10 => (intro w hSw; (try dsimp only at hSw); (try simp only [List.getElem_toArray, List.getElem_cons_zero, List.getElem_cons_succ]); go_simp; (try with_reducible rfl))
            (try simp only [Act.put, List.setIfInBounds_toArray, List.set_cons_zero, List.set_cons_succ, List.getElem_toArray, List.getElem_cons_zero, List.getElem_cons_succ])
            refine wpAnyH_ready (rs := [11]) (by kernel_rfl) (by simp) ?_
            refine AllReadyH.cons (o := _) rfl (fun K hK => ?_) AllReadyH.nil
            (try simp only [List.getElem_toArray, List.getElem_cons_zero, List.getElem_cons_succ])
            (rw [if_pos (by rfl)]; refine wp_update_S _ (.tmp 91) (.tmp 95) (.tmp 101) 41 rfl 9 3 Tryz.underlying9 Tryz.underlying41 (p + 1) km (fun x => .int .i64 (g x)) rfl (by first | exact HPT.out.map | exact HPT.out.drew.map) (by rw [← HR.out]; unfold maxLen; omega) s HSM.out rfl ?_; intro w3 hm hg; have HP3 : Hid (Plays w p (p + 1 + 1) (p + 1) km g km' g' O oc (rising km') none k w3) := (by show Plays _ _ _ _ _ _ _ _ _ _ _ _ _ _; have q : Plays w p (p + 1 + 1) (p + 1) km g (insKey s.data.toList km) (setAt g s.data.toList (IntKind.i64.wrap (g s.data.toList + v))) O oc (rising km') none k w3 := (by first | exact HPT.out.put hm hg | exact HPT.out.drew.put hm hg); rw [bpWrap, ← HG'.out, ← HKM'.out] at q; exact q); clear hm hg)
            refine hK.out _ _ ?_ (fun hHeld => ?_)
            · exact RD.out _ HP3.out.below
            clear hK K
            (try simp only [Act.put, List.setIfInBounds_toArray, List.set_cons_zero, List.set_cons_succ, List.getElem_toArray, List.getElem_cons_zero, List.getElem_cons_succ])
            refine wpAnyH_done (by kernel_rfl) ?_ _
            refine NoPanic.normal ?_
            clear lk18 lk18' c18 d18
            have hN := HP3.out.isNames (by rw [← HR.out]; omega)
            rw [← HR.out] at hN
            have HN := Lib.hid hN
            clear hN
            go_wp2_with fail
            refine HN.out.mono ?_
            rintro e w4 ⟨Y, yc, rfl, q4, -⟩
            have HP4 := Lib.hid q4.forget
            clear q4 HN
            go_wp2_with fail
            have SF : Hid (∀ (w' : World) (ks : List (List UInt8)) (h : List UInt8 → Int), Plays w p (p + 1 + 1) (p + 1) ks h km' g' O oc (rising km') none k w' → w'.cell? ⟨b, off + k, none⟩ = some (.string s) ∧ w'.cell? ⟨b2, off2 + k, none⟩ = some (.int .i64 v) ∧ (Instr.lookup 41 (.map (some (p + 1))) (.string s) false).run Tryz.prog w' = .ok (.int .i64 (g' s.data.toList)) w' ∧ (Instr.lookup 41 (.map (some (p + 1))) (.string ask) false).run Tryz.prog w' = .ok (.int .i64 (g' ask.data.toList)) w') := fun W ks h hW => ⟨(RD.out W hW.below).1, (RD.out W hW.below).2, hW.look HSM.out, hW.look HA.out⟩
            have HAD : Hid (∀ W, Plays w p (p + 1 + 1) (p + 1) km g km' g' O oc (rising km') none k W → Calls Tryz.prog 6 #[.pointer (some ⟨p, 0, none⟩), .string s, .int .i64 v] W fun e w' => e = .returned (.int .i64 (g' s.data.toList)) ∧ Plays w p (p + 1 + 1) (p + 1) km' g' km' g' O oc (rising km') none k w') := fun W hW => by
              have q := hW.isAdd s v HSM.out (by rw [← HR.out]; omega) hvb
              rw [← HG'.out, ← HKM'.out, ← HGS.out] at q
              exact q
            have HNW : Hid (∀ (x : ByteArray) W, x.size ≤ maxLen → Plays w p (p + 1 + 1) (p + 1) km' g' km' g' O oc (rising km') none k W → Calls Tryz.prog 7 #[.pointer (some ⟨p, 0, none⟩), .string x] W fun e w' => e = .returned (.int .i64 (g' x.data.toList)) ∧ Plays w p (p + 1 + 1) (p + 1) km' g' km' g' O oc (rising km') none k w') := fun x W hx hW => hW.isNow x hx
            have s20 := SF.out w4 _ _ HP4.out
            have hgt : decide (r < r) = false := decide_eq_false (by omega)
            refine wp_region_noPanic ?_
            refine wp_region_held_drew (S := fun w' => w'.cell? ⟨b, off + k, none⟩ = some (.string s) ∧ w'.cell? ⟨b2, off2 + k, none⟩ = some (.int .i64 v) ∧ (Instr.lookup 41 (.map (some (p + 1))) (.string s) false).run Tryz.prog w' = .ok (.int .i64 (g' s.data.toList)) w' ∧ (Instr.lookup 41 (.map (some (p + 1))) (.string ask) false).run Tryz.prog w' = .ok (.int .i64 (g' ask.data.toList)) w') (by kernel_rfl) (by first | exact s20 | exact SF.out _ _ _ HP4.out.drew) (fun hHeld => ?_)
            clear s20
            refine wpAnyH_take (i := 0) (oi := _) (v := ?vie0) rfl (by kernel_rfl) (by kernel_rfl) (by kernel_rfl) (fun _ _ _ h => h) (Or.inl ⟨by rfl, ?hyie0⟩) (by assumption) ?restie0
            case hyie0 => (intro w hSw; (try dsimp only at hSw); (try simp only [List.getElem_toArray, List.getElem_cons_zero, List.getElem_cons_succ]); go_simp; (try with_reducible rfl))
            (try simp only [Act.put, List.setIfInBounds_toArray, List.set_cons_zero, List.set_cons_succ, List.getElem_toArray, List.getElem_cons_zero, List.getElem_cons_succ])
            refine wpAnyH_take (i := 1) (oi := _) (v := ?vie1) rfl (by kernel_rfl) (by kernel_rfl) (by kernel_rfl) (fun _ _ _ h => h) (Or.inl ⟨by rfl, ?hyie1⟩) (by assumption) ?restie1
            case hyie1 => (intro w hSw; (try dsimp only at hSw); (try simp only [List.getElem_toArray, List.getElem_cons_zero, List.getElem_cons_succ]); go_simp; (try with_reducible rfl))
            (try simp only [Act.put, List.setIfInBounds_toArray, List.set_cons_zero, List.set_cons_succ, List.getElem_toArray, List.getElem_cons_zero, List.getElem_cons_succ])
            refine wpAnyH_take (i := 2) (oi := _) (v := ?vie2) rfl (by kernel_rfl) (by kernel_rfl) (by kernel_rfl) (fun _ _ _ h => h) (Or.inl ⟨by rfl, ?hyie2⟩) (by assumption) ?restie2
            case hyie2 => (intro w hSw; (try dsimp only at hSw); (try simp only [List.getElem_toArray, List.getElem_cons_zero, List.getElem_cons_succ]); go_simp; (try with_reducible rfl))
            (try simp only [Act.put, List.setIfInBounds_toArray, List.set_cons_zero, List.set_cons_succ, List.getElem_toArray, List.getElem_cons_zero, List.getElem_cons_succ])
            refine wpAnyH_take (i := 3) (oi := _) (v := ?vie3) rfl (by kernel_rfl) (by kernel_rfl) (by kernel_rfl) (fun _ _ _ h => h) (Or.inl ⟨by rfl, ?hyie3⟩) (by assumption) ?restie3
            case hyie3 => (intro w hSw; (try dsimp only at hSw); (try simp only [List.getElem_toArray, List.getElem_cons_zero, List.getElem_cons_succ]); go_simp; (try with_reducible rfl))
            (try simp only [Act.put, List.setIfInBounds_toArray, List.set_cons_zero, List.set_cons_succ, List.getElem_toArray, List.getElem_cons_zero, List.getElem_cons_succ])
            refine wpAnyH_take (i := 4) (oi := _) (v := ?vie4) rfl (by kernel_rfl) (by kernel_rfl) (by kernel_rfl) (fun _ _ _ h => h) (Or.inl ⟨by rfl, ?hyie4⟩) (by assumption) ?restie4
            case hyie4 => (intro w hSw; (try dsimp only at hSw); (try simp only [List.getElem_toArray, List.getElem_cons_zero, List.getElem_cons_succ]); go_simp; (try with_reducible rfl))
            (try simp only [Act.put, List.setIfInBounds_toArray, List.set_cons_zero, List.set_cons_succ, List.getElem_toArray, List.getElem_cons_zero, List.getElem_cons_succ])
            refine wpAnyH_take (i := 5) (oi := _) (v := ?vie5) rfl (by kernel_rfl) (by kernel_rfl) (by kernel_rfl) (fun _ _ _ h => h) (Or.inl ⟨by rfl, ?hyie5⟩) (by assumption) ?restie5
            case hyie5 => (intro w hSw; (try dsimp only at hSw); (try simp only [List.getElem_toArray, List.getElem_cons_zero, List.getElem_cons_succ]); go_simp; (try with_reducible rfl))
            (try simp only [Act.put, List.setIfInBounds_toArray, List.set_cons_zero, List.set_cons_succ, List.getElem_toArray, List.getElem_cons_zero, List.getElem_cons_succ])
            refine wpAnyH_take (i := 6) (oi := _) (v := ?vie6) rfl (by kernel_rfl) (by kernel_rfl) (by kernel_rfl) (fun _ _ _ h => h) (Or.inl ⟨by rfl, ?hyie6⟩) (by assumption) ?restie6
            case hyie6 => (intro w hSw; (try dsimp only at hSw); (try simp only [List.getElem_toArray, List.getElem_cons_zero, List.getElem_cons_succ]); go_simp; (try with_reducible rfl))
            (try simp only [Act.put, List.setIfInBounds_toArray, List.set_cons_zero, List.set_cons_succ, List.getElem_toArray, List.getElem_cons_zero, List.getElem_cons_succ])
            refine wpAnyH_take (i := 7) (oi := _) (v := ?vie7) rfl (by kernel_rfl) (by kernel_rfl) (by kernel_rfl) (fun _ _ _ h => h) (Or.inl ⟨by rfl, ?hyie7⟩) (by assumption) ?restie7
            case hyie7 => (intro w hSw; (try dsimp only at hSw); (try simp only [List.getElem_toArray, List.getElem_cons_zero, List.getElem_cons_succ]); go_simp; (try with_reducible rfl))
            (try simp only [Act.put, List.setIfInBounds_toArray, List.set_cons_zero, List.set_cons_succ, List.getElem_toArray, List.getElem_cons_zero, List.getElem_cons_succ])
            refine wpAnyH_take (i := 8) (oi := _) (v := ?vie8) rfl (by kernel_rfl) (by kernel_rfl) (by kernel_rfl) (fun _ _ _ h => h) (Or.inl ⟨by rfl, ?hyie8⟩) (by assumption) ?restie8
            case hyie8 => (intro w hSw; (try dsimp only at hSw); (try simp only [List.getElem_toArray, List.getElem_cons_zero, List.getElem_cons_succ]); go_simp; (try with_reducible rfl))
            (try simp only [Act.put, List.setIfInBounds_toArray, List.set_cons_zero, List.set_cons_succ, List.getElem_toArray, List.getElem_cons_zero, List.getElem_cons_succ])
            refine wpAnyH_take (i := 10) (oi := _) (v := ?vie10) rfl (by kernel_rfl) (by kernel_rfl) (by kernel_rfl) (fun _ _ _ h => h) (Or.inl ⟨by rfl, ?hyie10⟩) (by assumption) ?restie10
            case hyie10 => (intro w hSw; (try dsimp only at hSw); (try simp only [List.getElem_toArray, List.getElem_cons_zero, List.getElem_cons_succ]); go_simp; (try with_reducible rfl))
            (try simp only [Act.put, List.setIfInBounds_toArray, List.set_cons_zero, List.set_cons_succ, List.getElem_toArray, List.getElem_cons_zero, List.getElem_cons_succ])
            refine wpAnyH_take (i := 11) (oi := _) (v := ?vie11) rfl (by kernel_rfl) (by kernel_rfl) (by kernel_rfl) (fun _ _ _ h => h) (Or.inl ⟨by rfl, ?hyie11⟩) (by assumption) ?restie11
            case hyie11 => (intro w hSw; (try dsimp only at hSw); (try simp only [List.getElem_toArray, List.getElem_cons_zero, List.getElem_cons_succ]); go_simp; (try with_reducible rfl))
            (try simp only [Act.put, List.setIfInBounds_toArray, List.set_cons_zero, List.set_cons_succ, List.getElem_toArray, List.getElem_cons_zero, List.getElem_cons_succ])
            refine wpAnyH_take (i := 12) (oi := _) (v := ?vie12) rfl (by kernel_rfl) (by kernel_rfl) (by kernel_rfl) (fun _ _ _ h => h) (Or.inl ⟨by rfl, ?hyie12⟩) (by assumption) ?restie12
            case hyie12 => (intro w hSw; (try dsimp only at hSw); (try simp only [List.getElem_toArray, List.getElem_cons_zero, List.getElem_cons_succ]); go_simp; (try with_reducible rfl))
            (try simp only [Act.put, List.setIfInBounds_toArray, List.set_cons_zero, List.set_cons_succ, List.getElem_toArray, List.getElem_cons_zero, List.getElem_cons_succ])
            refine wpAnyH_take (i := 13) (oi := _) (v := ?vie13) rfl (by kernel_rfl) (by kernel_rfl) (by kernel_rfl) (fun _ _ _ h => h) (Or.inl ⟨by rfl, ?hyie13⟩) (by assumption) ?restie13
            case hyie13 => (intro w hSw; (try dsimp only at hSw); (try simp only [List.getElem_toArray, List.getElem_cons_zero, List.getElem_cons_succ]); go_simp; (try with_reducible rfl))
            (try simp only [Act.put, List.setIfInBounds_toArray, List.set_cons_zero, List.set_cons_succ, List.getElem_toArray, List.getElem_cons_zero, List.getElem_cons_succ])
            refine wpAnyH_take (i := 14) (oi := _) (v := ?vie14) rfl (by kernel_rfl) (by kernel_rfl) (by kernel_rfl) (fun _ _ _ h => h) (Or.inl ⟨by rfl, ?hyie14⟩) (by assumption) ?restie14
            case hyie14 => (intro w hSw; (try dsimp only at hSw); (try simp only [List.getElem_toArray, List.getElem_cons_zero, List.getElem_cons_succ]); go_simp; (try with_reducible rfl))
            (try simp only [Act.put, List.setIfInBounds_toArray, List.set_cons_zero, List.set_cons_succ, List.getElem_toArray, List.getElem_cons_zero, List.getElem_cons_succ])
            refine wpAnyH_take (i := 15) (oi := _) (v := ?vie15) rfl (by kernel_rfl) (by kernel_rfl) (by kernel_rfl) (fun _ _ _ h => h) (Or.inl ⟨by rfl, ?hyie15⟩) (by assumption) ?restie15
            case hyie15 => (intro w hSw; (try dsimp only at hSw); (try simp only [List.getElem_toArray, List.getElem_cons_zero, List.getElem_cons_succ]); go_simp; (try with_reducible rfl))
            (try simp only [Act.put, List.setIfInBounds_toArray, List.set_cons_zero, List.set_cons_succ, List.getElem_toArray, List.getElem_cons_zero, List.getElem_cons_succ])
            refine wpAnyH_ready (rs := [9]) (by kernel_rfl) (by simp) ?_
            refine AllReadyH.cons (o := _) rfl (fun K hK => ?_) AllReadyH.nil
            (try simp only [List.getElem_toArray, List.getElem_cons_zero, List.getElem_cons_succ])
            go_simp
            (refine (HAD.out _ (by first | exact HP4.out | exact HP4.out.drew)).mono ?_; rintro e w5 ⟨rfl, qq⟩; have HP5 := Lib.hid qq; clear qq)
            refine hK.out _ _ ?_ (fun hHeld => ?_)
            · exact SF.out _ _ _ HP5.out
            clear hK K
            (try simp only [Act.put, List.setIfInBounds_toArray, List.set_cons_zero, List.set_cons_succ, List.getElem_toArray, List.getElem_cons_zero, List.getElem_cons_succ])
            refine wpAnyH_take (i := 16) (oi := _) (v := ?vie16) rfl (by kernel_rfl) (by kernel_rfl) (by kernel_rfl) (fun _ _ _ h => h) (Or.inl ⟨by rfl, ?hyie16⟩) (by assumption) ?restie16
            case hyie16 => (intro w hSw; (try dsimp only at hSw); (try simp only [List.getElem_toArray, List.getElem_cons_zero, List.getElem_cons_succ]); go_simp; (try with_reducible rfl))
            (try simp only [Act.put, List.setIfInBounds_toArray, List.set_cons_zero, List.set_cons_succ, List.getElem_toArray, List.getElem_cons_zero, List.getElem_cons_succ])
            refine wpAnyH_take (i := 17) (oi := _) (v := ?vie17) rfl (by kernel_rfl) (by kernel_rfl) (by kernel_rfl) (fun _ _ _ h => h) (Or.inl ⟨by rfl, ?hyie17⟩) (by assumption) ?restie17
            case hyie17 => (intro w hSw; (try dsimp only at hSw); (try simp only [List.getElem_toArray, List.getElem_cons_zero, List.getElem_cons_succ]); go_simp; (try with_reducible rfl))
            (try simp only [Act.put, List.setIfInBounds_toArray, List.set_cons_zero, List.set_cons_succ, List.getElem_toArray, List.getElem_cons_zero, List.getElem_cons_succ])
            refine wpAnyH_take (i := 18) (oi := _) (v := ?vie18) rfl (by kernel_rfl) (by kernel_rfl) (by kernel_rfl) (fun _ _ _ h => h) (Or.inl ⟨by rfl, ?hyie18⟩) (by assumption) ?restie18
            case hyie18 => (intro w hSw; (try dsimp only at hSw); (try simp only [List.getElem_toArray, List.getElem_cons_zero, List.getElem_cons_succ]); go_simp; (try with_reducible rfl))
            (try simp only [Act.put, List.setIfInBounds_toArray, List.set_cons_zero, List.set_cons_succ, List.getElem_toArray, List.getElem_cons_zero, List.getElem_cons_succ])
            refine wpAnyH_take (i := 19) (oi := _) (v := ?vie19) rfl (by kernel_rfl) (by kernel_rfl) (by kernel_rfl) (fun _ _ _ h => h) (Or.inl ⟨by rfl, ?hyie19⟩) (by assumption) ?restie19
            case hyie19 => (intro w hSw; (try dsimp only at hSw); (try simp only [List.getElem_toArray, List.getElem_cons_zero, List.getElem_cons_succ]); go_simp; (try with_reducible rfl))
            (try simp only [Act.put, List.setIfInBounds_toArray, List.set_cons_zero, List.set_cons_succ, List.getElem_toArray, List.getElem_cons_zero, List.getElem_cons_succ])
            refine wpAnyH_take (i := 20) (oi := _) (v := ?vie20) rfl (by kernel_rfl) (by kernel_rfl) (by kernel_rfl) (fun _ _ _ h => h) (Or.inl ⟨by rfl, ?hyie20⟩) (by assumption) ?restie20
            case hyie20 => (intro w hSw; (try dsimp only at hSw); (try simp only [List.getElem_toArray, List.getElem_cons_zero, List.getElem_cons_succ]); go_simp; (try with_reducible rfl))
            (try simp only [Act.put, List.setIfInBounds_toArray, List.set_cons_zero, List.set_cons_succ, List.getElem_toArray, List.getElem_cons_zero, List.getElem_cons_succ])
            refine wpAnyH_take (i := 21) (oi := _) (v := ?vie21) rfl (by kernel_rfl) (by kernel_rfl) (by kernel_rfl) (fun _ _ _ h => h) (Or.inl ⟨by rfl, ?hyie21⟩) (by assumption) ?restie21
            case hyie21 => (intro w hSw; (try dsimp only at hSw); (try simp only [List.getElem_toArray, List.getElem_cons_zero, List.getElem_cons_succ]); go_simp; (try with_reducible rfl))
            (try simp only [Act.put, List.setIfInBounds_toArray, List.set_cons_zero, List.set_cons_succ, List.getElem_toArray, List.getElem_cons_zero, List.getElem_cons_succ])
            refine wpAnyH_take (i := 22) (oi := _) (v := ?vie22) rfl (by kernel_rfl) (by kernel_rfl) (by kernel_rfl) (fun _ _ _ h => h) (Or.inl ⟨by rfl, ?hyie22⟩) (by assumption) ?restie22
            case hyie22 => (intro w hSw; (try dsimp only at hSw); (try simp only [List.getElem_toArray, List.getElem_cons_zero, List.getElem_cons_succ]); go_simp; (try with_reducible rfl))
            (try simp only [Act.put, List.setIfInBounds_toArray, List.set_cons_zero, List.set_cons_succ, List.getElem_toArray, List.getElem_cons_zero, List.getElem_cons_succ])
            refine wpAnyH_take (i := 24) (oi := _) (v := ?vie24) rfl (by kernel_rfl) (by kernel_rfl) (by kernel_rfl) (fun _ _ _ h => h) (Or.inl ⟨by rfl, ?hyie24⟩) (by assumption) ?restie24
            case hyie24 => (intro w hSw; (try dsimp only at hSw); (try simp only [List.getElem_toArray, List.getElem_cons_zero, List.getElem_cons_succ]); go_simp; (try with_reducible rfl))
            (try simp only [Act.put, List.setIfInBounds_toArray, List.set_cons_zero, List.set_cons_succ, List.getElem_toArray, List.getElem_cons_zero, List.getElem_cons_succ])
            refine wpAnyH_take (i := 25) (oi := _) (v := ?vie25) rfl (by kernel_rfl) (by kernel_rfl) (by kernel_rfl) (fun _ _ _ h => h) (Or.inl ⟨by rfl, ?hyie25⟩) (by assumption) ?restie25
            case hyie25 => (intro w hSw; (try dsimp only at hSw); (try simp only [List.getElem_toArray, List.getElem_cons_zero, List.getElem_cons_succ]); go_simp; (try with_reducible rfl))
            (try simp only [Act.put, List.setIfInBounds_toArray, List.set_cons_zero, List.set_cons_succ, List.getElem_toArray, List.getElem_cons_zero, List.getElem_cons_succ])
            refine wpAnyH_take (i := 26) (oi := _) (v := ?vie26) rfl (by kernel_rfl) (by kernel_rfl) (by kernel_rfl) (fun _ _ _ h => h) (Or.inl ⟨by rfl, ?hyie26⟩) (by assumption) ?restie26
            case hyie26 => (intro w hSw; (try dsimp only at hSw); (try simp only [List.getElem_toArray, List.getElem_cons_zero, List.getElem_cons_succ]); go_simp; (try with_reducible rfl))
            (try simp only [Act.put, List.setIfInBounds_toArray, List.set_cons_zero, List.set_cons_succ, List.getElem_toArray, List.getElem_cons_zero, List.getElem_cons_succ])
            refine wpAnyH_take (i := 27) (oi := _) (v := ?vie27) rfl (by kernel_rfl) (by kernel_rfl) (by kernel_rfl) (fun _ _ _ h => h) (Or.inl ⟨by rfl, ?hyie27⟩) (by assumption) ?restie27
            case hyie27 => (intro w hSw; (try dsimp only at hSw); (try simp only [List.getElem_toArray, List.getElem_cons_zero, List.getElem_cons_succ]); go_simp; (try with_reducible rfl))
            (try simp only [Act.put, List.setIfInBounds_toArray, List.set_cons_zero, List.set_cons_succ, List.getElem_toArray, List.getElem_cons_zero, List.getElem_cons_succ])
            refine wpAnyH_take (i := 28) (oi := _) (v := ?vie28) rfl (by kernel_rfl) (by kernel_rfl) (by kernel_rfl) (fun _ _ _ h => h) (Or.inl ⟨by rfl, ?hyie28⟩) (by assumption) ?restie28
            case hyie28 => (intro w hSw; (try dsimp only at hSw); (try simp only [List.getElem_toArray, List.getElem_cons_zero, List.getElem_cons_succ]); go_simp; (try with_reducible rfl))
            (try simp only [Act.put, List.setIfInBounds_toArray, List.set_cons_zero, List.set_cons_succ, List.getElem_toArray, List.getElem_cons_zero, List.getElem_cons_succ])
            refine wpAnyH_take (i := 29) (oi := _) (v := ?vie29) rfl (by kernel_rfl) (by kernel_rfl) (by kernel_rfl) (fun _ _ _ h => h) (Or.inl ⟨by rfl, ?hyie29⟩) (by assumption) ?restie29
            case hyie29 => (intro w hSw; (try dsimp only at hSw); (try simp only [List.getElem_toArray, List.getElem_cons_zero, List.getElem_cons_succ]); go_simp; (try with_reducible rfl))
            (try simp only [Act.put, List.setIfInBounds_toArray, List.set_cons_zero, List.set_cons_succ, List.getElem_toArray, List.getElem_cons_zero, List.getElem_cons_succ])
            refine wpAnyH_ready (rs := [23]) (by kernel_rfl) (by simp) ?_
            refine AllReadyH.cons (o := _) rfl (fun K hK => ?_) AllReadyH.nil
            (try simp only [List.getElem_toArray, List.getElem_cons_zero, List.getElem_cons_succ])
            go_simp
            (refine (HNW.out s _ HSM.out (by first | exact HP5.out | exact HP5.out.drew)).mono ?_; rintro e w6 ⟨rfl, qq⟩; have HP6 := Lib.hid qq; clear qq)
            refine hK.out _ _ ?_ (fun hHeld => ?_)
            · exact SF.out _ _ _ HP6.out
            clear hK K
            (try simp only [Act.put, List.setIfInBounds_toArray, List.set_cons_zero, List.set_cons_succ, List.getElem_toArray, List.getElem_cons_zero, List.getElem_cons_succ])
            refine wpAnyH_take (i := 30) (oi := _) (v := ?vie30) rfl (by kernel_rfl) (by kernel_rfl) (by kernel_rfl) (fun _ _ _ h => h) (Or.inl ⟨by rfl, ?hyie30⟩) (by assumption) ?restie30
            case hyie30 => (intro w hSw; (try dsimp only at hSw); (try simp only [List.getElem_toArray, List.getElem_cons_zero, List.getElem_cons_succ]); go_simp; (try with_reducible rfl))
            (try simp only [Act.put, List.setIfInBounds_toArray, List.set_cons_zero, List.set_cons_succ, List.getElem_toArray, List.getElem_cons_zero, List.getElem_cons_succ])
            refine wpAnyH_take (i := 31) (oi := _) (v := ?vie31) rfl (by kernel_rfl) (by kernel_rfl) (by kernel_rfl) (fun _ _ _ h => h) (Or.inl ⟨by rfl, ?hyie31⟩) (by assumption) ?restie31
            case hyie31 => (intro w hSw; (try dsimp only at hSw); (try simp only [List.getElem_toArray, List.getElem_cons_zero, List.getElem_cons_succ]); go_simp; (try with_reducible rfl))
            (try simp only [Act.put, List.setIfInBounds_toArray, List.set_cons_zero, List.set_cons_succ, List.getElem_toArray, List.getElem_cons_zero, List.getElem_cons_succ])
            refine wpAnyH_take (i := 32) (oi := _) (v := ?vie32) rfl (by kernel_rfl) (by kernel_rfl) (by kernel_rfl) (fun _ _ _ h => h) (Or.inl ⟨by rfl, ?hyie32⟩) (by assumption) ?restie32
            case hyie32 => (intro w hSw; (try dsimp only at hSw); (try simp only [List.getElem_toArray, List.getElem_cons_zero, List.getElem_cons_succ]); go_simp; (try with_reducible rfl))
            (try simp only [Act.put, List.setIfInBounds_toArray, List.set_cons_zero, List.set_cons_succ, List.getElem_toArray, List.getElem_cons_zero, List.getElem_cons_succ])
            refine wpAnyH_take (i := 33) (oi := _) (v := ?vie33) rfl (by kernel_rfl) (by kernel_rfl) (by kernel_rfl) (fun _ _ _ h => h) (Or.inl ⟨by rfl, ?hyie33⟩) (by assumption) ?restie33
            case hyie33 => (intro w hSw; (try dsimp only at hSw); (try simp only [List.getElem_toArray, List.getElem_cons_zero, List.getElem_cons_succ]); go_simp; (try with_reducible rfl))
            (try simp only [Act.put, List.setIfInBounds_toArray, List.set_cons_zero, List.set_cons_succ, List.getElem_toArray, List.getElem_cons_zero, List.getElem_cons_succ])
            refine wpAnyH_take (i := 34) (oi := _) (v := ?vie34) rfl (by kernel_rfl) (by kernel_rfl) (by kernel_rfl) (fun _ _ _ h => h) (Or.inl ⟨by rfl, ?hyie34⟩) (by assumption) ?restie34
            case hyie34 => (intro w hSw; (try dsimp only at hSw); (try simp only [List.getElem_toArray, List.getElem_cons_zero, List.getElem_cons_succ]); go_simp; (try with_reducible rfl))
            (try simp only [Act.put, List.setIfInBounds_toArray, List.set_cons_zero, List.set_cons_succ, List.getElem_toArray, List.getElem_cons_zero, List.getElem_cons_succ])
            refine wpAnyH_take (i := 36) (oi := _) (v := ?vie36) rfl (by kernel_rfl) (by kernel_rfl) (by kernel_rfl) (fun _ _ _ h => h) (Or.inl ⟨by rfl, ?hyie36⟩) (by assumption) ?restie36
            case hyie36 => (intro w hSw; (try dsimp only at hSw); (try simp only [List.getElem_toArray, List.getElem_cons_zero, List.getElem_cons_succ]); go_simp; (try with_reducible rfl))
            (try simp only [Act.put, List.setIfInBounds_toArray, List.set_cons_zero, List.set_cons_succ, List.getElem_toArray, List.getElem_cons_zero, List.getElem_cons_succ])
            refine wpAnyH_take (i := 37) (oi := _) (v := ?vie37) rfl (by kernel_rfl) (by kernel_rfl) (by kernel_rfl) (fun _ _ _ h => h) (Or.inl ⟨by rfl, ?hyie37⟩) (by assumption) ?restie37
            case hyie37 => (intro w hSw; (try dsimp only at hSw); (try simp only [List.getElem_toArray, List.getElem_cons_zero, List.getElem_cons_succ]); go_simp; (try with_reducible rfl))
            (try simp only [Act.put, List.setIfInBounds_toArray, List.set_cons_zero, List.set_cons_succ, List.getElem_toArray, List.getElem_cons_zero, List.getElem_cons_succ])
            refine wpAnyH_take (i := 38) (oi := _) (v := ?vie38) rfl (by kernel_rfl) (by kernel_rfl) (by kernel_rfl) (fun _ _ _ h => h) (Or.inl ⟨by rfl, ?hyie38⟩) (by assumption) ?restie38
            case hyie38 => (intro w hSw; (try dsimp only at hSw); (try simp only [List.getElem_toArray, List.getElem_cons_zero, List.getElem_cons_succ]); go_simp; (try with_reducible rfl))
            (try simp only [Act.put, List.setIfInBounds_toArray, List.set_cons_zero, List.set_cons_succ, List.getElem_toArray, List.getElem_cons_zero, List.getElem_cons_succ])
            refine wpAnyH_ready (rs := [35]) (by kernel_rfl) (by simp) ?_
            refine AllReadyH.cons (o := _) rfl (fun K hK => ?_) AllReadyH.nil
            (try simp only [List.getElem_toArray, List.getElem_cons_zero, List.getElem_cons_succ])
            go_simp
            (refine (HNW.out ask _ HA.out (by first | exact HP6.out | exact HP6.out.drew)).mono ?_; rintro e w7 ⟨rfl, qq⟩; have HP7 := Lib.hid qq; clear qq)
            refine hK.out _ _ ?_ (fun hHeld => ?_)
            · exact SF.out _ _ _ HP7.out
            clear hK K
            (try simp only [Act.put, List.setIfInBounds_toArray, List.set_cons_zero, List.set_cons_succ, List.getElem_toArray, List.getElem_cons_zero, List.getElem_cons_succ])
            refine wpAnyH_take (i := 39) (oi := _) (v := ?vie39) rfl (by kernel_rfl) (by kernel_rfl) (by kernel_rfl) (fun _ _ _ h => h) (Or.inl ⟨by rfl, ?hyie39⟩) (by assumption) ?restie39
            case hyie39 => (intro w hSw; (try dsimp only at hSw); (try simp only [List.getElem_toArray, List.getElem_cons_zero, List.getElem_cons_succ]); go_simp; (try with_reducible rfl))
            (try simp only [Act.put, List.setIfInBounds_toArray, List.set_cons_zero, List.set_cons_succ, List.getElem_toArray, List.getElem_cons_zero, List.getElem_cons_succ])
            refine wpAnyH_take (i := 40) (oi := _) (v := ?vie40) rfl (by kernel_rfl) (by kernel_rfl) (by kernel_rfl) (fun _ _ _ h => h) (Or.inl ⟨by rfl, ?hyie40⟩) (by assumption) ?restie40
            case hyie40 => (intro w hSw; (try dsimp only at hSw); (try simp only [List.getElem_toArray, List.getElem_cons_zero, List.getElem_cons_succ]); go_simp; (try with_reducible rfl))
            (try simp only [Act.put, List.setIfInBounds_toArray, List.set_cons_zero, List.set_cons_succ, List.getElem_toArray, List.getElem_cons_zero, List.getElem_cons_succ])
            refine wpAnyH_take (i := 41) (oi := _) (v := ?vie41) rfl (by kernel_rfl) (by kernel_rfl) (by kernel_rfl) (fun _ _ _ h => h) (Or.inl ⟨by rfl, ?hyie41⟩) (by assumption) ?restie41
            case hyie41 => (intro w hSw; (try dsimp only at hSw); (try simp only [List.getElem_toArray, List.getElem_cons_zero, List.getElem_cons_succ]); go_simp; (try with_reducible rfl))
            (try simp only [Act.put, List.setIfInBounds_toArray, List.set_cons_zero, List.set_cons_succ, List.getElem_toArray, List.getElem_cons_zero, List.getElem_cons_succ])
            refine wpAnyH_take (i := 42) (oi := _) (v := ?vie42) rfl (by kernel_rfl) (by kernel_rfl) (by kernel_rfl) (fun _ _ _ h => h) (Or.inl ⟨by rfl, ?hyie42⟩) (by assumption) ?restie42
            case hyie42 => (intro w hSw; (try dsimp only at hSw); (try simp only [List.getElem_toArray, List.getElem_cons_zero, List.getElem_cons_succ]); go_simp; (try with_reducible rfl))
            (try simp only [Act.put, List.setIfInBounds_toArray, List.set_cons_zero, List.set_cons_succ, List.getElem_toArray, List.getElem_cons_zero, List.getElem_cons_succ])
            refine wpAnyH_take (i := 43) (oi := _) (v := ?vie43) rfl (by kernel_rfl) (by kernel_rfl) (by kernel_rfl) (fun _ _ _ h => h) (Or.inl ⟨by rfl, ?hyie43⟩) (by assumption) ?restie43
            case hyie43 => (intro w hSw; (try dsimp only at hSw); (try simp only [List.getElem_toArray, List.getElem_cons_zero, List.getElem_cons_succ]); go_simp; (try with_reducible rfl))
            (try simp only [Act.put, List.setIfInBounds_toArray, List.set_cons_zero, List.set_cons_succ, List.getElem_toArray, List.getElem_cons_zero, List.getElem_cons_succ])
            refine wpAnyH_take (i := 44) (oi := _) (v := ?vie44) rfl (by kernel_rfl) (by kernel_rfl) (by kernel_rfl) (fun _ _ _ h => h) (Or.inl ⟨by rfl, ?hyie44⟩) (by assumption) ?restie44
            case hyie44 => (intro w hSw; (try dsimp only at hSw); (try simp only [List.getElem_toArray, List.getElem_cons_zero, List.getElem_cons_succ]); go_simp; (try with_reducible rfl))
            (try simp only [Act.put, List.setIfInBounds_toArray, List.set_cons_zero, List.set_cons_succ, List.getElem_toArray, List.getElem_cons_zero, List.getElem_cons_succ])
            refine wpAnyH_take (i := 45) (oi := _) (v := ?vie45) rfl (by kernel_rfl) (by kernel_rfl) (by kernel_rfl) (fun _ _ _ h => h) (Or.inl ⟨by rfl, ?hyie45⟩) (by assumption) ?restie45
            case hyie45 => (intro w hSw; (try dsimp only at hSw); (try simp only [List.getElem_toArray, List.getElem_cons_zero, List.getElem_cons_succ]); go_simp; (try with_reducible rfl))
            (try simp only [Act.put, List.setIfInBounds_toArray, List.set_cons_zero, List.set_cons_succ, List.getElem_toArray, List.getElem_cons_zero, List.getElem_cons_succ])
            refine wpAnyH_take (i := 46) (oi := _) (v := ?vie46) rfl (by kernel_rfl) (by kernel_rfl) (by kernel_rfl) (fun _ _ _ h => h) (Or.inl ⟨by rfl, ?hyie46⟩) (by assumption) ?restie46
            case hyie46 => (intro w hSw; (try dsimp only at hSw); (try simp only [List.getElem_toArray, List.getElem_cons_zero, List.getElem_cons_succ]); go_simp; (try with_reducible rfl))
            (try simp only [Act.put, List.setIfInBounds_toArray, List.set_cons_zero, List.set_cons_succ, List.getElem_toArray, List.getElem_cons_zero, List.getElem_cons_succ])
            refine wpAnyH_take (i := 47) (oi := _) (v := ?vie47) rfl (by kernel_rfl) (by kernel_rfl) (by kernel_rfl) (fun _ _ _ h => h) (Or.inl ⟨by rfl, ?hyie47⟩) (by assumption) ?restie47
            case hyie47 => (intro w hSw; (try dsimp only at hSw); (try simp only [List.getElem_toArray, List.getElem_cons_zero, List.getElem_cons_succ]); go_simp; (try with_reducible rfl))
            (try simp only [Act.put, List.setIfInBounds_toArray, List.set_cons_zero, List.set_cons_succ, List.getElem_toArray, List.getElem_cons_zero, List.getElem_cons_succ])
            refine wpAnyH_done (by kernel_rfl) ?_ _
            refine NoPanic.normal ?_
            clear SF HAD HNW hgt
            have hN := HP7.out.isNames (by rw [← HR'.out]; omega)
            rw [← HR'.out] at hN
            have HN := Lib.hid hN
            clear hN
            go_wp2_with fail
            refine HN.out.mono ?_
            rintro e w8 ⟨Y8, yc8, rfl, q8, b8⟩
            have HP8 := Lib.hid q8
            have HB8 := Lib.hid b8
            clear q8 b8 HN
            go_wp2_with fail
            refine (HP8.out.isTexts r yc8 (rising km') HB8.out (by omega) (by omega)).mono ?_
            rintro e w9 ⟨rfl, q9, b9⟩
            have HP9 := Lib.hid q9
            have HB9 := Lib.hid b9
            clear q9 b9
            have HSA : Hid (Calls Tryz.prog 9 #[.slice Y8 r yc8, .slice O r oc] w9 fun e w' => e = .returned (.bool true) ∧ ∃ k, w' = w9.drewN k) := by
              have q1 := HB9.out.src
              have q2 := HP9.out.ord.src
              rw [rising_length, ← HR'.out] at q2
              exact same_Texts Y8 O r yc8 oc ((rising km').map fun x => ⟨x.toArray⟩) w9 (by rw [List.map_map]; exact q1) (by rw [List.map_map]; exact q2) (by omega)
            go_wp2_with fail
            refine HSA.out.mono ?_
            rintro e w10 ⟨rfl, kq, rfl⟩
            have HPE := Lib.hid (HP9.out.drewN kq)
            go_wp2_with fail
            go_roundw
            case rel => exact ⟨k + 1, r, O, oc, km', g', by go_num, rfl, by omega, by omega, HR', K1, C1, HPE⟩
            case measure => simp [intOf]; omega
        · have hl := HP.out.ask_out HSM.out hin
          have HIN := Lib.hid hin
          clear hin
          have HOB : Hid (Buf wo O r oc ((rising km).map encStr)) := by
            have := HP.out.ord
            rw [rising_length, ← HR.out] at this
            exact this
          go_wp2_with fail
          clear hl
          go_loopw [14] (fun x wr => ∃ j q : Nat, x = .int .i64 j ∧ j ≤ r ∧ Hid (wr = wo.drewN q) ∧ Hid (∀ (i : Nat) (y : List UInt8), i < j → (rising km)[i]? = some y → y < s.data.toList)) (fun x _ => r - (intOf x).toNat)
          case atStart => exact ⟨0, 0, rfl, Nat.zero_le _, rfl, fun i y hi => absurd hi (by omega)⟩
          case round =>
            obtain ⟨j, qd, rfl, hj, HW, HLO⟩ := hrel
            have HPJ : Hid (Plays w p (p + 1 + 1) (p + 1) km g km g O oc (rising km) none k wr) := by
              show Plays _ _ _ _ _ _ _ _ _ _ _ _ _ _
              rw [HW.out]; exact HP.out.drewN qd
            have r1 := (RD.out wr HPJ.out.below).1
            by_cases hjr : j < r
            · obtain ⟨y, hy⟩ : ∃ y, (rising km)[j]? = some y := ⟨(rising km)[j]'(by rw [rising_length, ← HR.out]; exact hjr), List.getElem?_eq_getElem _⟩
              obtain ⟨ob, oo, rfl, hobl, orow⟩ := HOB.out.some_of (by omega)
              have HOC : Hid (∀ q, (wo.drewN q).cell? ⟨ob, oo + j, none⟩ = some (.string ⟨y.toArray⟩)) := fun q => by
                have := orow.val j (.string ⟨y.toArray⟩) (by rw [List.getElem?_map, hy]; rfl)
                exact this
              have r2 : wr.cell? ⟨ob, oo + j, none⟩ = some (.string ⟨y.toArray⟩) := by rw [HW.out]; exact HOC.out qd
              by_cases hys : y < s.data.toList
              · have hbs : Op.bytesLess y s.toList = true := by rw [Lib.toList_data, bytesLess_eq, decide_eq_true_eq]; exact hys
                have HLO2 : Hid (∀ (i : Nat) (z : List UInt8), i < j + 1 → (rising km)[i]? = some z → z < s.data.toList) := fun i z hi hz => by
                  rcases Nat.lt_or_ge i j with q | q
                  · exact HLO.out i z q hz
                  · have : i = j := by omega
                    subst this
                    rw [hy] at hz; injection hz with hz; exact hz ▸ hys
                have hki : ((j : Int) < (r : Int)) := by omega
                have hd3 : decide (j < r) = true := by simpa using hjr
                have hk0 : (0 : Int) ≤ (j : Int) := by omega
                clear hy orow hys
                go_wp2_with fail
                go_quiet (fail)
                go_wp2_with fail
                go_roundw
                case rel => exact ⟨j + 1, qd + nq, by go_num, by omega, by show _ = _; rw [HW.out]; exact drew_drew wo qd nq, HLO2⟩
                case measure => simp [intOf]; omega
              · have hbs : Op.bytesLess y s.toList = false := by rw [Lib.toList_data, bytesLess_eq, decide_eq_false_iff_not]; exact hys
                have HHI : Hid (∀ z, (rising km)[j]? = some z → ¬ z < s.data.toList) := fun z hz => by rw [hy] at hz; injection hz with hz; exact hz ▸ hys
                have hki : ((j : Int) < (r : Int)) := by omega
                have hd3 : decide (j < r) = true := by simpa using hjr
                have hk0 : (0 : Int) ≤ (j : Int) := by omega
                clear hy orow hys
                go_wp2_with fail
                go_quiet (fail)
                go_wp2_with fail
                obtain ⟨wq, hwq⟩ : ∃ wq, wq = wr.drewN nq := ⟨_, rfl⟩
                have HPQ : Hid (Plays w p (p + 1 + 1) (p + 1) km g km g (some ⟨ob, oo, none⟩) oc (rising km) none k wq) := by show Plays _ _ _ _ _ _ _ _ _ _ _ _ _ _; rw [hwq]; exact HPJ.out.drewN nq
                have HOJ : Hid (Buf wq (some ⟨ob, oo, none⟩) r oc ((rising km).map encStr)) := by have := HPQ.out.ord; rw [rising_length, ← HR.out] at this; exact this
                rw [← hwq]
                clear hwq
                have r1 := (RD.out wq HPQ.out.below).1
                have hjr2 : j ≤ r := by omega
                have SLO := Lib.hid (buf_start HOJ.out j hjr2)
                obtain ⟨OC, hOC⟩ : ∃ x : Option Addr, x = (if oc = j then (some ⟨ob, oo, none⟩) else Option.map (fun x : Addr => x.add j) ((some ⟨ob, oo, none⟩) : Option Addr)) := ⟨_, rfl⟩
                have SHI : Hid (Src wq OC (r - j) (((rising km).drop j).map encStr)) := by show Src _ _ _ _; rw [hOC]; exact buf_end HOJ.out j hjr2
                have HOC := Lib.hid hOC
                clear hOC
                have hjo : ((j : Int) ≤ (r : Int)) := by omega
                have hjc : ((j : Int) ≤ (oc : Int)) := by have := HOJ.out.le; omega
                have hj0' : (0 : Int) ≤ (j : Int) := by omega
                have hlk : ((rising km).take j).length = j := by rw [List.length_take, rising_length, ← HR.out]; omega
                have hld : ((rising km).drop j).length = r - j := by rw [List.length_drop, rising_length, ← HR.out]
                have HLK := Lib.hid hlk
                have HLD := Lib.hid hld
                have hoc := HOJ.out.cm
                clear hlk hld
                refine wp_region_noPanic ?_
                refine wp_region_held_drew (S := fun w' => w'.cell? ⟨b, off + k, none⟩ = some (.string s) ∧ w'.cell? ⟨b, off + k, none⟩ = some (.string s)) (by kernel_rfl) ⟨r1, r1⟩ (fun hHeld => ?_)
                refine wpAnyH_take (i := 0) (oi := _) (v := ?vo1a0) rfl (by kernel_rfl) (by kernel_rfl) (by kernel_rfl) (fun _ _ _ h => h) (Or.inl ⟨by rfl, ?hyo1a0⟩) (by assumption) ?resto1a0
                case hyo1a0 => (intro w hSw; (try dsimp only at hSw); (try simp only [List.getElem_toArray, List.getElem_cons_zero, List.getElem_cons_succ]); go_simp; (try with_reducible rfl))
                (try simp only [Act.put, List.setIfInBounds_toArray, List.set_cons_zero, List.set_cons_succ, List.getElem_toArray, List.getElem_cons_zero, List.getElem_cons_succ])
                refine wpAnyH_take (i := 1) (oi := _) (v := ?vo1a1) rfl (by kernel_rfl) (by kernel_rfl) (by kernel_rfl) (fun _ _ _ h => h) (Or.inl ⟨by rfl, ?hyo1a1⟩) (by assumption) ?resto1a1
                case hyo1a1 => (intro w hSw; (try dsimp only at hSw); (try simp only [List.getElem_toArray, List.getElem_cons_zero, List.getElem_cons_succ]); go_simp; (try with_reducible rfl))
                (try simp only [Act.put, List.setIfInBounds_toArray, List.set_cons_zero, List.set_cons_succ, List.getElem_toArray, List.getElem_cons_zero, List.getElem_cons_succ])
                refine wpAnyH_take (i := 2) (oi := _) (v := ?vo1a2) rfl (by kernel_rfl) (by kernel_rfl) (by kernel_rfl) (fun _ _ _ h => h) (Or.inl ⟨by rfl, ?hyo1a2⟩) (by assumption) ?resto1a2
                case hyo1a2 => (intro w hSw; (try dsimp only at hSw); (try simp only [List.getElem_toArray, List.getElem_cons_zero, List.getElem_cons_succ]); go_simp; (try with_reducible rfl))
                (try simp only [Act.put, List.setIfInBounds_toArray, List.set_cons_zero, List.set_cons_succ, List.getElem_toArray, List.getElem_cons_zero, List.getElem_cons_succ])
                refine wpAnyH_take (i := 4) (oi := _) (v := ?vo1a4) rfl (by kernel_rfl) (by kernel_rfl) (by kernel_rfl) (fun _ _ _ h => h) (Or.inl ⟨by rfl, ?hyo1a4⟩) (by assumption) ?resto1a4
                case hyo1a4 => (intro w hSw; (try dsimp only at hSw); (try simp only [List.getElem_toArray, List.getElem_cons_zero, List.getElem_cons_succ]); go_simp; (try with_reducible rfl))
                (try simp only [Act.put, List.setIfInBounds_toArray, List.set_cons_zero, List.set_cons_succ, List.getElem_toArray, List.getElem_cons_zero, List.getElem_cons_succ])
                refine wpAnyH_take (i := 5) (oi := _) (v := ?vo1a5) rfl (by kernel_rfl) (by kernel_rfl) (by kernel_rfl) (fun _ _ _ h => h) (Or.inl ⟨by rfl, ?hyo1a5⟩) (by assumption) ?resto1a5
                case hyo1a5 => (intro w hSw; (try dsimp only at hSw); (try simp only [List.getElem_toArray, List.getElem_cons_zero, List.getElem_cons_succ]); go_simp; (try with_reducible rfl))
                (try simp only [Act.put, List.setIfInBounds_toArray, List.set_cons_zero, List.set_cons_succ, List.getElem_toArray, List.getElem_cons_zero, List.getElem_cons_succ])
                refine wpAnyH_take (i := 6) (oi := _) (v := ?vo1a6) rfl (by kernel_rfl) (by kernel_rfl) (by kernel_rfl) (fun _ _ _ h => h) (Or.inl ⟨by rfl, ?hyo1a6⟩) (by assumption) ?resto1a6
                case hyo1a6 => (intro w hSw; (try dsimp only at hSw); (try simp only [List.getElem_toArray, List.getElem_cons_zero, List.getElem_cons_succ]); go_simp; (try with_reducible rfl))
                (try simp only [Act.put, List.setIfInBounds_toArray, List.set_cons_zero, List.set_cons_succ, List.getElem_toArray, List.getElem_cons_zero, List.getElem_cons_succ])
                refine wpAnyH_take (i := 7) (oi := _) (v := ?vo1a7) rfl (by kernel_rfl) (by kernel_rfl) (by kernel_rfl) (fun _ _ _ h => h) (Or.inl ⟨by rfl, ?hyo1a7⟩) (by assumption) ?resto1a7
                case hyo1a7 => (intro w hSw; (try dsimp only at hSw); (try simp only [List.getElem_toArray, List.getElem_cons_zero, List.getElem_cons_succ]); go_simp; (try with_reducible rfl))
                (try simp only [Act.put, List.setIfInBounds_toArray, List.set_cons_zero, List.set_cons_succ, List.getElem_toArray, List.getElem_cons_zero, List.getElem_cons_succ])
                refine wpAnyH_take (i := 10) (oi := _) (v := ?vo1a10) rfl (by kernel_rfl) (by kernel_rfl) (by kernel_rfl) (fun _ _ _ h => h) (Or.inl ⟨by rfl, ?hyo1a10⟩) (by assumption) ?resto1a10
                case hyo1a10 => (intro w hSw; (try dsimp only at hSw); (try simp only [List.getElem_toArray, List.getElem_cons_zero, List.getElem_cons_succ]); go_simp; (try with_reducible rfl))
                (try simp only [Act.put, List.setIfInBounds_toArray, List.set_cons_zero, List.set_cons_succ, List.getElem_toArray, List.getElem_cons_zero, List.getElem_cons_succ])
                refine wpAnyH_take (i := 11) (oi := _) (v := ?vo1a11) rfl (by kernel_rfl) (by kernel_rfl) (by kernel_rfl) (fun _ _ _ h => h) (Or.inl ⟨by rfl, ?hyo1a11⟩) (by assumption) ?resto1a11
                case hyo1a11 => (intro w hSw; (try dsimp only at hSw); (try simp only [List.getElem_toArray, List.getElem_cons_zero, List.getElem_cons_succ]); go_simp; (try with_reducible rfl))
                (try simp only [Act.put, List.setIfInBounds_toArray, List.set_cons_zero, List.set_cons_succ, List.getElem_toArray, List.getElem_cons_zero, List.getElem_cons_succ])
                refine wpAnyH_take (i := 12) (oi := _) (v := .slice OC (r - j) (oc - j)) rfl (by kernel_rfl) (by kernel_rfl) (by kernel_rfl) (fun _ _ _ h => h) (Or.inl ⟨by rfl, ?hyo1a12⟩) (by assumption) ?resto1a12
                case hyo1a12 => (intro w hSw; (try dsimp only at hSw); (try simp only [List.getElem_toArray, List.getElem_cons_zero, List.getElem_cons_succ]); go_simp; (first | rfl | (simp [HOC.out]; done) | (simp [HOC.out, add_mk]; done)))
                (try simp only [Act.put, List.setIfInBounds_toArray, List.set_cons_zero, List.set_cons_succ, List.getElem_toArray, List.getElem_cons_zero, List.getElem_cons_succ])
                refine wpAnyH_ready (rs := [3, 8]) (by kernel_rfl) (by simp) ?_
                refine AllReadyH.cons (o := _) rfl (fun K hK => ?_) (AllReadyH.cons (o := _) rfl (fun K hK => ?_) AllReadyH.nil)
                · (try simp only [List.getElem_toArray, List.getElem_cons_zero, List.getElem_cons_succ])
                  (rw [if_pos (by rfl)]; refine wp_append_buf _ (.const (.slice none 0 0)) (.tmp 79) 22 rfl 9 i0 (.string .empty) 16 Tryz.underlying22 hi0 hz0 hz1 hz2 rfl rfl (Buf.nil _) (((rising km).take j).map encStr) rfl (SLO.out.of_keep ((Keep.refl (fun _ => False) wq).drew) (fun _ _ x => x)) (one_enc _) (by unfold maxLen; omega) (by omega) ?_; intro A3 c3 w3 a3 k3 p3; have Q3 : Hid (Buf w3 A3 j c3 (((rising km).take j).map encStr)) := (by have := a3; rw [Nat.zero_add, List.nil_append] at this; exact this); have KP3 := Lib.hid k3; have P3 := Lib.hid p3; clear a3 k3 p3)
                  refine hK.out _ _ ?_ (fun hHeld => ?_)
                  · exact ⟨(RD.out _ (HPQ.out.keep (((Keep.refl (fun _ => False) wq).drew).trans KP3.out (fun _ _ x => by simp [blk] at x))).below).1, (RD.out _ (HPQ.out.keep (((Keep.refl (fun _ => False) wq).drew).trans KP3.out (fun _ _ x => by simp [blk] at x))).below).1⟩
                  clear hK K
                  (try simp only [Act.put, List.setIfInBounds_toArray, List.set_cons_zero, List.set_cons_succ, List.getElem_toArray, List.getElem_cons_zero, List.getElem_cons_succ])
                  refine wpAnyH_ready (rs := [8]) (by kernel_rfl) (by simp) ?_
                  refine AllReadyH.cons (o := _) rfl (fun K hK => ?_) AllReadyH.nil
                  (try simp only [List.getElem_toArray, List.getElem_cons_zero, List.getElem_cons_succ])
                  go_simp
                  refine hK.out _ _ ?_ (fun hHeld => ?_)
                  · exact ⟨(RD.out _ (HPQ.out.keep ((((Keep.refl (fun _ => False) wq).drew).trans KP3.out (fun _ _ x => by simp [blk] at x)).alloc _)).below).1, (RD.out _ (HPQ.out.keep ((((Keep.refl (fun _ => False) wq).drew).trans KP3.out (fun _ _ x => by simp [blk] at x)).alloc _)).below).1⟩
                  clear hK K
                  (try simp only [Act.put, List.setIfInBounds_toArray, List.set_cons_zero, List.set_cons_succ, List.getElem_toArray, List.getElem_cons_zero, List.getElem_cons_succ])
                  refine wpAnyH_ready (rs := [9]) (by kernel_rfl) (by simp) ?_
                  refine AllReadyH.cons (o := _) rfl (fun K hK => ?_) AllReadyH.nil
                  (try simp only [List.getElem_toArray, List.getElem_cons_zero, List.getElem_cons_succ])
                  (rw [if_pos (by rfl)]; refine wp_append_buf _ (.tmp 80) (.tmp 85) 22 rfl 9 i0 (.string .empty) 16 Tryz.underlying22 hi0 hz0 hz1 hz2 rfl rfl (by first | exact Q3.out.keep ((Keep.refl (fun _ => False) _).alloc _) (fun _ _ x => x) | (rw [Nat.zero_add]; exact Q3.out.keep ((Keep.refl (fun _ => False) _).alloc _) (fun _ _ x => x))) [.string s] rfl (src_one _ _ _ rfl) (by simp [Value.oneCell']) (by unfold maxLen; omega) (by omega) ?_; intro A4 c4 w4 a4 k4 p4; have Q4 := Lib.hid a4; have KP4 := Lib.hid k4; have P4 := Lib.hid p4; clear a4 k4 p4)
                  refine hK.out _ _ ?_ (fun hHeld => ?_)
                  · exact ⟨(RD.out _ (HPQ.out.keep (three_appends ((Keep.refl (fun _ => False) wq).drew) KP3.out P3.out ((Keep.refl (fun _ => False) _).alloc _) KP4.out P4.out).1.2).below).1, (RD.out _ (HPQ.out.keep (three_appends ((Keep.refl (fun _ => False) wq).drew) KP3.out P3.out ((Keep.refl (fun _ => False) _).alloc _) KP4.out P4.out).1.2).below).1⟩
                  clear hK K
                  (try simp only [Act.put, List.setIfInBounds_toArray, List.set_cons_zero, List.set_cons_succ, List.getElem_toArray, List.getElem_cons_zero, List.getElem_cons_succ])
                  refine wpAnyH_ready (rs := [13]) (by kernel_rfl) (by simp) ?_
                  refine AllReadyH.cons (o := _) rfl (fun K hK => ?_) AllReadyH.nil
                  (try simp only [List.getElem_toArray, List.getElem_cons_zero, List.getElem_cons_succ])
                  (rw [if_pos (by rfl)]; refine wp_append_buf _ (.tmp 86) (.tmp 89) 22 rfl 9 i0 (.string .empty) 16 Tryz.underlying22 hi0 hz0 hz1 hz2 rfl rfl Q4.out (((rising km).drop j).map encStr) rfl (by have q := SHI.out.of_keep (three_appends ((Keep.refl (fun _ => False) wq).drew) KP3.out P3.out ((Keep.refl (fun _ => False) _).alloc _) KP4.out P4.out).1.2 (fun _ _ x => x); first | exact q | simpa [add_mk] using q) (one_enc _) (by unfold maxLen; omega) (by omega) ?_; intro A5 c5 w5 a5 k5 p5; have F5 := Lib.hid ((three_appends ((Keep.refl (fun _ => False) wq).drew) KP3.out P3.out ((Keep.refl (fun _ => False) _).alloc _) KP4.out P4.out).2 _ _ k5 p5); have Q5 := Lib.hid a5; clear a5 k5 p5)
                  refine hK.out _ _ ?_ (fun hHeld => ?_)
                  · exact ⟨(RD.out _ (HPQ.out.keep F5.out.1).below).1, (RD.out _ (HPQ.out.keep F5.out.1).below).1⟩
                  clear hK K
                  (try simp only [Act.put, List.setIfInBounds_toArray, List.set_cons_zero, List.set_cons_succ, List.getElem_toArray, List.getElem_cons_zero, List.getElem_cons_succ])
                  refine wpAnyH_take (i := 14) (oi := _) (v := ?vo1b14) rfl (by kernel_rfl) (by kernel_rfl) (by kernel_rfl) (fun _ _ _ h => h) (Or.inl ⟨by rfl, ?hyo1b14⟩) (by assumption) ?resto1b14
                  case hyo1b14 => (intro w hSw; (try dsimp only at hSw); (try simp only [List.getElem_toArray, List.getElem_cons_zero, List.getElem_cons_succ]); go_simp; (try with_reducible rfl))
                  (try simp only [Act.put, List.setIfInBounds_toArray, List.set_cons_zero, List.set_cons_succ, List.getElem_toArray, List.getElem_cons_zero, List.getElem_cons_succ])
                  refine wpAnyH_done (by kernel_rfl) ?_ _
                  have eL : ((rising km').map encStr) = (((rising km).take j).map encStr) ++ [.string s] ++ (((rising km).drop j).map encStr) := by
                    rw [HKM'.out, rising_insert HIN.out HLO.out HHI.out, List.map_append, List.map_append]
                    simp [encStr]
                  have q5 := Q5.out
                  rw [← eL] at q5
                  have n5 := q5.len
                  rw [List.length_map, rising_length, ← HR'.out] at n5
                  have HPT : Hid (Plays w p (p + 1 + 1) (p + 1) km g km g A5 c5 (rising km') none k w5) := HPQ.out.order F5.out.1 (by rw [rising_length, ← HR'.out, n5]; exact q5) F5.out.2
                  have n6 : j + 1 + (r - j) = r' := by omega
                  refine NoPanic.normal ?_
                  (try rw [n6])
                  (try rw [← n5])
                  clear eL q5 n5 n6 r1 hjr2 hjo hjc hj0' hoc
                  go_wp2_with fail
                  as_aux_lemma =>
                    have hkm : ((k : Int) < (m : Int)) := by omega
                    have hkn : ((k : Int) < (n : Int)) := by omega
                    have hk0' : (0 : Int) ≤ (k : Int) := by omega
                    have lk18 := HPT.out.look HSM.out
                    have lk18' := HPT.out.drew.look HSM.out
                    obtain ⟨c18, d18⟩ := RD.out _ HPT.out.below
                    refine wp_region_noPanic ?_
                    refine wp_region_held_drew (S := fun w' => w'.cell? ⟨b, off + k, none⟩ = some (.string s) ∧ w'.cell? ⟨b2, off2 + k, none⟩ = some (.int .i64 v)) (by kernel_rfl) ⟨c18, d18⟩ (fun hHeld => ?_)
                    refine wpAnyH_take (i := 0) (oi := _) (v := ?vo1bd0) rfl (by kernel_rfl) (by kernel_rfl) (by kernel_rfl) (fun _ _ _ h => h) (Or.inl ⟨by rfl, ?hyo1bd0⟩) (by assumption) ?resto1bd0
                    case hyo1bd0 => (intro w hSw; (try dsimp only at hSw); (try simp only [List.getElem_toArray, List.getElem_cons_zero, List.getElem_cons_succ]); go_simp; (try with_reducible rfl))
                    (try simp only [Act.put, List.setIfInBounds_toArray, List.set_cons_zero, List.set_cons_succ, List.getElem_toArray, List.getElem_cons_zero, List.getElem_cons_succ])
                    refine wpAnyH_take (i := 1) (oi := _) (v := ?vo1bd1) rfl (by kernel_rfl) (by kernel_rfl) (by kernel_rfl) (fun _ _ _ h => h) (Or.inl ⟨by rfl, ?hyo1bd1⟩) (by assumption) ?resto1bd1
                    case hyo1bd1 => (intro w hSw; (try dsimp only at hSw); (try simp only [List.getElem_toArray, List.getElem_cons_zero, List.getElem_cons_succ]); go_simp; (try with_reducible rfl))
                    (try simp only [Act.put, List.setIfInBounds_toArray, List.set_cons_zero, List.set_cons_succ, List.getElem_toArray, List.getElem_cons_zero, List.getElem_cons_succ])
                    refine wpAnyH_take (i := 2) (oi := _) (v := ?vo1bd2) rfl (by kernel_rfl) (by kernel_rfl) (by kernel_rfl) (fun _ _ _ h => h) (Or.inl ⟨by rfl, ?hyo1bd2⟩) (by assumption) ?resto1bd2
                    case hyo1bd2 => (intro w hSw; (try dsimp only at hSw); (try simp only [List.getElem_toArray, List.getElem_cons_zero, List.getElem_cons_succ]); go_simp; (try with_reducible rfl))
                    (try simp only [Act.put, List.setIfInBounds_toArray, List.set_cons_zero, List.set_cons_succ, List.getElem_toArray, List.getElem_cons_zero, List.getElem_cons_succ])
                    refine wpAnyH_take (i := 3) (oi := _) (v := ?vo1bd3) rfl (by kernel_rfl) (by kernel_rfl) (by kernel_rfl) (fun _ _ _ h => h) (Or.inl ⟨by rfl, ?hyo1bd3⟩) (by assumption) ?resto1bd3
                    case hyo1bd3 => (intro w hSw; (try dsimp only at hSw); (try simp only [List.getElem_toArray, List.getElem_cons_zero, List.getElem_cons_succ]); go_simp; (try with_reducible rfl))
                    (try simp only [Act.put, List.setIfInBounds_toArray, List.set_cons_zero, List.set_cons_succ, List.getElem_toArray, List.getElem_cons_zero, List.getElem_cons_succ])
                    refine wpAnyH_take (i := 4) (oi := _) (v := ?vo1bd4) rfl (by kernel_rfl) (by kernel_rfl) (by kernel_rfl) (fun _ _ _ h => h) (Or.inl ⟨by rfl, ?hyo1bd4⟩) (by assumption) ?resto1bd4
                    case hyo1bd4 => (intro w hSw; (try dsimp only at hSw); (try simp only [List.getElem_toArray, List.getElem_cons_zero, List.getElem_cons_succ]); go_simp; (try with_reducible rfl))
                    (try simp only [Act.put, List.setIfInBounds_toArray, List.set_cons_zero, List.set_cons_succ, List.getElem_toArray, List.getElem_cons_zero, List.getElem_cons_succ])
                    refine wpAnyH_take (i := 6) (oi := _) (v := ?vo1bd6) rfl (by kernel_rfl) (by kernel_rfl) (by kernel_rfl) (fun _ _ _ h => h) (Or.inl ⟨by rfl, ?hyo1bd6⟩) (by assumption) ?resto1bd6
                    case hyo1bd6 => (intro w hSw; (try dsimp only at hSw); (try simp only [List.getElem_toArray, List.getElem_cons_zero, List.getElem_cons_succ]); go_simp; (try with_reducible rfl))
                    (try simp only [Act.put, List.setIfInBounds_toArray, List.set_cons_zero, List.set_cons_succ, List.getElem_toArray, List.getElem_cons_zero, List.getElem_cons_succ])
                    refine wpAnyH_take (i := 7) (oi := _) (v := ?vo1bd7) rfl (by kernel_rfl) (by kernel_rfl) (by kernel_rfl) (fun _ _ _ h => h) (Or.inl ⟨by rfl, ?hyo1bd7⟩) (by assumption) ?resto1bd7
                    case hyo1bd7 => (intro w hSw; (try dsimp only at hSw); (try simp only [List.getElem_toArray, List.getElem_cons_zero, List.getElem_cons_succ]); go_simp; (try with_reducible rfl))
                    (try simp only [Act.put, List.setIfInBounds_toArray, List.set_cons_zero, List.set_cons_succ, List.getElem_toArray, List.getElem_cons_zero, List.getElem_cons_succ])
                    refine wpAnyH_take (i := 8) (oi := _) (v := ?vo1bd8) rfl (by kernel_rfl) (by kernel_rfl) (by kernel_rfl) (fun _ _ _ h => h) (Or.inl ⟨by rfl, ?hyo1bd8⟩) (by assumption) ?resto1bd8
                    case hyo1bd8 => (intro w hSw; (try dsimp only at hSw); (try simp only [List.getElem_toArray, List.getElem_cons_zero, List.getElem_cons_succ]); go_simp; (try with_reducible rfl))
                    (try simp only [Act.put, List.setIfInBounds_toArray, List.set_cons_zero, List.set_cons_succ, List.getElem_toArray, List.getElem_cons_zero, List.getElem_cons_succ])
                    refine wpAnyH_take (i := 9) (oi := _) (v := ?vo1bd9) rfl (by kernel_rfl) (by kernel_rfl) (by kernel_rfl) (fun _ _ _ h => h) (Or.inl ⟨by rfl, ?hyo1bd9⟩) (by assumption) ?resto1bd9
                    case hyo1bd9 => (intro w hSw; (try dsimp only at hSw); (try simp only [List.getElem_toArray, List.getElem_cons_zero, List.getElem_cons_succ]); go_simp; (try with_reducible rfl))
                    (try simp only [Act.put, List.setIfInBounds_toArray, List.set_cons_zero, List.set_cons_succ, List.getElem_toArray, List.getElem_cons_zero, List.getElem_cons_succ])
                    refine wpAnyH_ready (rs := [5]) (by kernel_rfl) (by simp) ?_
                    refine AllReadyH.cons (o := _) rfl (fun K hK => ?_) AllReadyH.nil
                    (try simp only [List.getElem_toArray, List.getElem_cons_zero, List.getElem_cons_succ])
                    go_simp
                    refine hK.out _ _ ?_ (fun hHeld => ?_)
                    · exact ⟨c18, d18⟩
                    clear hK K
                    (try simp only [Act.put, List.setIfInBounds_toArray, List.set_cons_zero, List.set_cons_succ, List.getElem_toArray, List.getElem_cons_zero, List.getElem_cons_succ])
                    refine wpAnyH_take (i := 10) (oi := _) (v := ?vo1bd10) rfl (by kernel_rfl) (by kernel_rfl) (by kernel_rfl) (fun _ _ _ h => h) (Or.inl ⟨by rfl, ?hyo1bd10⟩) (by assumption) ?resto1bd10
                    case hyo1bd10 => (intro w hSw; (try dsimp only at hSw); (try simp only [List.getElem_toArray, List.getElem_cons_zero, List.getElem_cons_succ]); go_simp; (try with_reducible rfl))
                    (try simp only [Act.put, List.setIfInBounds_toArray, List.set_cons_zero, List.set_cons_succ, List.getElem_toArray, List.getElem_cons_zero, List.getElem_cons_succ])
                    refine wpAnyH_ready (rs := [11]) (by kernel_rfl) (by simp) ?_
                    refine AllReadyH.cons (o := _) rfl (fun K hK => ?_) AllReadyH.nil
                    (try simp only [List.getElem_toArray, List.getElem_cons_zero, List.getElem_cons_succ])
                    (rw [if_pos (by rfl)]; refine wp_update_S _ (.tmp 91) (.tmp 95) (.tmp 101) 41 rfl 9 3 Tryz.underlying9 Tryz.underlying41 (p + 1) km (fun x => .int .i64 (g x)) rfl (by first | exact HPT.out.map | exact HPT.out.drew.map) (by rw [← HR.out]; unfold maxLen; omega) s HSM.out rfl ?_; intro w3 hm hg; have HP3 : Hid (Plays w p (p + 1 + 1) (p + 1) km g km' g' A5 c5 (rising km') none k w3) := (by show Plays _ _ _ _ _ _ _ _ _ _ _ _ _ _; have q : Plays w p (p + 1 + 1) (p + 1) km g (insKey s.data.toList km) (setAt g s.data.toList (IntKind.i64.wrap (g s.data.toList + v))) A5 c5 (rising km') none k w3 := (by first | exact HPT.out.put hm hg | exact HPT.out.drew.put hm hg); rw [bpWrap, ← HG'.out, ← HKM'.out] at q; exact q); clear hm hg)
                    refine hK.out _ _ ?_ (fun hHeld => ?_)
                    · exact RD.out _ HP3.out.below
                    clear hK K
                    (try simp only [Act.put, List.setIfInBounds_toArray, List.set_cons_zero, List.set_cons_succ, List.getElem_toArray, List.getElem_cons_zero, List.getElem_cons_succ])
                    refine wpAnyH_done (by kernel_rfl) ?_ _
                    refine NoPanic.normal ?_
                    clear lk18 lk18' c18 d18
                    have hN := HP3.out.isNames (by rw [← HR.out]; omega)
                    rw [← HR.out] at hN
                    have HN := Lib.hid hN
                    clear hN
                    go_wp2_with fail
                    refine HN.out.mono ?_
                    rintro e w4 ⟨Y, yc, rfl, q4, -⟩
                    have HP4 := Lib.hid q4.forget
                    clear q4 HN
                    go_wp2_with fail
                    have SF : Hid (∀ (w' : World) (ks : List (List UInt8)) (h : List UInt8 → Int), Plays w p (p + 1 + 1) (p + 1) ks h km' g' A5 c5 (rising km') none k w' → w'.cell? ⟨b, off + k, none⟩ = some (.string s) ∧ w'.cell? ⟨b2, off2 + k, none⟩ = some (.int .i64 v) ∧ (Instr.lookup 41 (.map (some (p + 1))) (.string s) false).run Tryz.prog w' = .ok (.int .i64 (g' s.data.toList)) w' ∧ (Instr.lookup 41 (.map (some (p + 1))) (.string ask) false).run Tryz.prog w' = .ok (.int .i64 (g' ask.data.toList)) w') := fun W ks h hW => ⟨(RD.out W hW.below).1, (RD.out W hW.below).2, hW.look HSM.out, hW.look HA.out⟩
                    have HAD : Hid (∀ W, Plays w p (p + 1 + 1) (p + 1) km g km' g' A5 c5 (rising km') none k W → Calls Tryz.prog 6 #[.pointer (some ⟨p, 0, none⟩), .string s, .int .i64 v] W fun e w' => e = .returned (.int .i64 (g' s.data.toList)) ∧ Plays w p (p + 1 + 1) (p + 1) km' g' km' g' A5 c5 (rising km') none k w') := fun W hW => by
                      have q := hW.isAdd s v HSM.out (by rw [← HR.out]; omega) hvb
                      rw [← HG'.out, ← HKM'.out, ← HGS.out] at q
                      exact q
                    have HNW : Hid (∀ (x : ByteArray) W, x.size ≤ maxLen → Plays w p (p + 1 + 1) (p + 1) km' g' km' g' A5 c5 (rising km') none k W → Calls Tryz.prog 7 #[.pointer (some ⟨p, 0, none⟩), .string x] W fun e w' => e = .returned (.int .i64 (g' x.data.toList)) ∧ Plays w p (p + 1 + 1) (p + 1) km' g' km' g' A5 c5 (rising km') none k w') := fun x W hx hW => hW.isNow x hx
                    have s20 := SF.out w4 _ _ HP4.out
                    have hgt : decide (r' < r) = false := decide_eq_false (by omega)
                    refine wp_region_noPanic ?_
                    refine wp_region_held_drew (S := fun w' => w'.cell? ⟨b, off + k, none⟩ = some (.string s) ∧ w'.cell? ⟨b2, off2 + k, none⟩ = some (.int .i64 v) ∧ (Instr.lookup 41 (.map (some (p + 1))) (.string s) false).run Tryz.prog w' = .ok (.int .i64 (g' s.data.toList)) w' ∧ (Instr.lookup 41 (.map (some (p + 1))) (.string ask) false).run Tryz.prog w' = .ok (.int .i64 (g' ask.data.toList)) w') (by kernel_rfl) (by first | exact s20 | exact SF.out _ _ _ HP4.out.drew) (fun hHeld => ?_)
                    clear s20
                    refine wpAnyH_take (i := 0) (oi := _) (v := ?vo1be0) rfl (by kernel_rfl) (by kernel_rfl) (by kernel_rfl) (fun _ _ _ h => h) (Or.inl ⟨by rfl, ?hyo1be0⟩) (by assumption) ?resto1be0
                    case hyo1be0 => (intro w hSw; (try dsimp only at hSw); (try simp only [List.getElem_toArray, List.getElem_cons_zero, List.getElem_cons_succ]); go_simp; (try with_reducible rfl))
                    (try simp only [Act.put, List.setIfInBounds_toArray, List.set_cons_zero, List.set_cons_succ, List.getElem_toArray, List.getElem_cons_zero, List.getElem_cons_succ])
                    refine wpAnyH_take (i := 1) (oi := _) (v := ?vo1be1) rfl (by kernel_rfl) (by kernel_rfl) (by kernel_rfl) (fun _ _ _ h => h) (Or.inl ⟨by rfl, ?hyo1be1⟩) (by assumption) ?resto1be1
                    case hyo1be1 => (intro w hSw; (try dsimp only at hSw); (try simp only [List.getElem_toArray, List.getElem_cons_zero, List.getElem_cons_succ]); go_simp; (try with_reducible rfl))
                    (try simp only [Act.put, List.setIfInBounds_toArray, List.set_cons_zero, List.set_cons_succ, List.getElem_toArray, List.getElem_cons_zero, List.getElem_cons_succ])
                    refine wpAnyH_take (i := 2) (oi := _) (v := ?vo1be2) rfl (by kernel_rfl) (by kernel_rfl) (by kernel_rfl) (fun _ _ _ h => h) (Or.inl ⟨by rfl, ?hyo1be2⟩) (by assumption) ?resto1be2
                    case hyo1be2 => (intro w hSw; (try dsimp only at hSw); (try simp only [List.getElem_toArray, List.getElem_cons_zero, List.getElem_cons_succ]); go_simp; (try with_reducible rfl))
                    (try simp only [Act.put, List.setIfInBounds_toArray, List.set_cons_zero, List.set_cons_succ, List.getElem_toArray, List.getElem_cons_zero, List.getElem_cons_succ])
                    refine wpAnyH_take (i := 3) (oi := _) (v := ?vo1be3) rfl (by kernel_rfl) (by kernel_rfl) (by kernel_rfl) (fun _ _ _ h => h) (Or.inl ⟨by rfl, ?hyo1be3⟩) (by assumption) ?resto1be3
                    case hyo1be3 => (intro w hSw; (try dsimp only at hSw); (try simp only [List.getElem_toArray, List.getElem_cons_zero, List.getElem_cons_succ]); go_simp; (try with_reducible rfl))
                    (try simp only [Act.put, List.setIfInBounds_toArray, List.set_cons_zero, List.set_cons_succ, List.getElem_toArray, List.getElem_cons_zero, List.getElem_cons_succ])
                    refine wpAnyH_take (i := 4) (oi := _) (v := ?vo1be4) rfl (by kernel_rfl) (by kernel_rfl) (by kernel_rfl) (fun _ _ _ h => h) (Or.inl ⟨by rfl, ?hyo1be4⟩) (by assumption) ?resto1be4
                    case hyo1be4 => (intro w hSw; (try dsimp only at hSw); (try simp only [List.getElem_toArray, List.getElem_cons_zero, List.getElem_cons_succ]); go_simp; (try with_reducible rfl))
                    (try simp only [Act.put, List.setIfInBounds_toArray, List.set_cons_zero, List.set_cons_succ, List.getElem_toArray, List.getElem_cons_zero, List.getElem_cons_succ])
                    refine wpAnyH_take (i := 5) (oi := _) (v := ?vo1be5) rfl (by kernel_rfl) (by kernel_rfl) (by kernel_rfl) (fun _ _ _ h => h) (Or.inl ⟨by rfl, ?hyo1be5⟩) (by assumption) ?resto1be5
                    case hyo1be5 => (intro w hSw; (try dsimp only at hSw); (try simp only [List.getElem_toArray, List.getElem_cons_zero, List.getElem_cons_succ]); go_simp; (try with_reducible rfl))
                    (try simp only [Act.put, List.setIfInBounds_toArray, List.set_cons_zero, List.set_cons_succ, List.getElem_toArray, List.getElem_cons_zero, List.getElem_cons_succ])
                    refine wpAnyH_take (i := 6) (oi := _) (v := ?vo1be6) rfl (by kernel_rfl) (by kernel_rfl) (by kernel_rfl) (fun _ _ _ h => h) (Or.inl ⟨by rfl, ?hyo1be6⟩) (by assumption) ?resto1be6
                    case hyo1be6 => (intro w hSw; (try dsimp only at hSw); (try simp only [List.getElem_toArray, List.getElem_cons_zero, List.getElem_cons_succ]); go_simp; (try with_reducible rfl))
                    (try simp only [Act.put, List.setIfInBounds_toArray, List.set_cons_zero, List.set_cons_succ, List.getElem_toArray, List.getElem_cons_zero, List.getElem_cons_succ])
                    refine wpAnyH_take (i := 7) (oi := _) (v := ?vo1be7) rfl (by kernel_rfl) (by kernel_rfl) (by kernel_rfl) (fun _ _ _ h => h) (Or.inl ⟨by rfl, ?hyo1be7⟩) (by assumption) ?resto1be7
                    case hyo1be7 => (intro w hSw; (try dsimp only at hSw); (try simp only [List.getElem_toArray, List.getElem_cons_zero, List.getElem_cons_succ]); go_simp; (try with_reducible rfl))
                    (try simp only [Act.put, List.setIfInBounds_toArray, List.set_cons_zero, List.set_cons_succ, List.getElem_toArray, List.getElem_cons_zero, List.getElem_cons_succ])
                    refine wpAnyH_take (i := 8) (oi := _) (v := ?vo1be8) rfl (by kernel_rfl) (by kernel_rfl) (by kernel_rfl) (fun _ _ _ h => h) (Or.inl ⟨by rfl, ?hyo1be8⟩) (by assumption) ?resto1be8
                    case hyo1be8 => (intro w hSw; (try dsimp only at hSw); (try simp only [List.getElem_toArray, List.getElem_cons_zero, List.getElem_cons_succ]); go_simp; (try with_reducible rfl))
                    (try simp only [Act.put, List.setIfInBounds_toArray, List.set_cons_zero, List.set_cons_succ, List.getElem_toArray, List.getElem_cons_zero, List.getElem_cons_succ])
                    refine wpAnyH_take (i := 10) (oi := _) (v := ?vo1be10) rfl (by kernel_rfl) (by kernel_rfl) (by kernel_rfl) (fun _ _ _ h => h) (Or.inl ⟨by rfl, ?hyo1be10⟩) (by assumption) ?resto1be10
                    case hyo1be10 => (intro w hSw; (try dsimp only at hSw); (try simp only [List.getElem_toArray, List.getElem_cons_zero, List.getElem_cons_succ]); go_simp; (try with_reducible rfl))
                    (try simp only [Act.put, List.setIfInBounds_toArray, List.set_cons_zero, List.set_cons_succ, List.getElem_toArray, List.getElem_cons_zero, List.getElem_cons_succ])
                    refine wpAnyH_take (i := 11) (oi := _) (v := ?vo1be11) rfl (by kernel_rfl) (by kernel_rfl) (by kernel_rfl) (fun _ _ _ h => h) (Or.inl ⟨by rfl, ?hyo1be11⟩) (by assumption) ?resto1be11
                    case hyo1be11 => (intro w hSw; (try dsimp only at hSw); (try simp only [List.getElem_toArray, List.getElem_cons_zero, List.getElem_cons_succ]); go_simp; (try with_reducible rfl))
                    (try simp only [Act.put, List.setIfInBounds_toArray, List.set_cons_zero, List.set_cons_succ, List.getElem_toArray, List.getElem_cons_zero, List.getElem_cons_succ])
                    refine wpAnyH_take (i := 12) (oi := _) (v := ?vo1be12) rfl (by kernel_rfl) (by kernel_rfl) (by kernel_rfl) (fun _ _ _ h => h) (Or.inl ⟨by rfl, ?hyo1be12⟩) (by assumption) ?resto1be12
                    case hyo1be12 => (intro w hSw; (try dsimp only at hSw); (try simp only [List.getElem_toArray, List.getElem_cons_zero, List.getElem_cons_succ]); go_simp; (try with_reducible rfl))
                    (try simp only [Act.put, List.setIfInBounds_toArray, List.set_cons_zero, List.set_cons_succ, List.getElem_toArray, List.getElem_cons_zero, List.getElem_cons_succ])
                    refine wpAnyH_take (i := 13) (oi := _) (v := ?vo1be13) rfl (by kernel_rfl) (by kernel_rfl) (by kernel_rfl) (fun _ _ _ h => h) (Or.inl ⟨by rfl, ?hyo1be13⟩) (by assumption) ?resto1be13
                    case hyo1be13 => (intro w hSw; (try dsimp only at hSw); (try simp only [List.getElem_toArray, List.getElem_cons_zero, List.getElem_cons_succ]); go_simp; (try with_reducible rfl))
                    (try simp only [Act.put, List.setIfInBounds_toArray, List.set_cons_zero, List.set_cons_succ, List.getElem_toArray, List.getElem_cons_zero, List.getElem_cons_succ])
                    refine wpAnyH_take (i := 14) (oi := _) (v := ?vo1be14) rfl (by kernel_rfl) (by kernel_rfl) (by kernel_rfl) (fun _ _ _ h => h) (Or.inl ⟨by rfl, ?hyo1be14⟩) (by assumption) ?resto1be14
                    case hyo1be14 => (intro w hSw; (try dsimp only at hSw); (try simp only [List.getElem_toArray, List.getElem_cons_zero, List.getElem_cons_succ]); go_simp; (try with_reducible rfl))
                    (try simp only [Act.put, List.setIfInBounds_toArray, List.set_cons_zero, List.set_cons_succ, List.getElem_toArray, List.getElem_cons_zero, List.getElem_cons_succ])
                    refine wpAnyH_take (i := 15) (oi := _) (v := ?vo1be15) rfl (by kernel_rfl) (by kernel_rfl) (by kernel_rfl) (fun _ _ _ h => h) (Or.inl ⟨by rfl, ?hyo1be15⟩) (by assumption) ?resto1be15
                    case hyo1be15 => (intro w hSw; (try dsimp only at hSw); (try simp only [List.getElem_toArray, List.getElem_cons_zero, List.getElem_cons_succ]); go_simp; (try with_reducible rfl))
                    (try simp only [Act.put, List.setIfInBounds_toArray, List.set_cons_zero, List.set_cons_succ, List.getElem_toArray, List.getElem_cons_zero, List.getElem_cons_succ])
                    refine wpAnyH_ready (rs := [9]) (by kernel_rfl) (by simp) ?_
                    refine AllReadyH.cons (o := _) rfl (fun K hK => ?_) AllReadyH.nil
                    (try simp only [List.getElem_toArray, List.getElem_cons_zero, List.getElem_cons_succ])
                    go_simp
                    (refine (HAD.out _ (by first | exact HP4.out | exact HP4.out.drew)).mono ?_; rintro e w5 ⟨rfl, qq⟩; have HP5 := Lib.hid qq; clear qq)
                    refine hK.out _ _ ?_ (fun hHeld => ?_)
                    · exact SF.out _ _ _ HP5.out
                    clear hK K
                    (try simp only [Act.put, List.setIfInBounds_toArray, List.set_cons_zero, List.set_cons_succ, List.getElem_toArray, List.getElem_cons_zero, List.getElem_cons_succ])
                    refine wpAnyH_take (i := 16) (oi := _) (v := ?vo1be16) rfl (by kernel_rfl) (by kernel_rfl) (by kernel_rfl) (fun _ _ _ h => h) (Or.inl ⟨by rfl, ?hyo1be16⟩) (by assumption) ?resto1be16
                    case hyo1be16 => (intro w hSw; (try dsimp only at hSw); (try simp only [List.getElem_toArray, List.getElem_cons_zero, List.getElem_cons_succ]); go_simp; (try with_reducible rfl))
                    (try simp only [Act.put, List.setIfInBounds_toArray, List.set_cons_zero, List.set_cons_succ, List.getElem_toArray, List.getElem_cons_zero, List.getElem_cons_succ])
                    refine wpAnyH_take (i := 17) (oi := _) (v := ?vo1be17) rfl (by kernel_rfl) (by kernel_rfl) (by kernel_rfl) (fun _ _ _ h => h) (Or.inl ⟨by rfl, ?hyo1be17⟩) (by assumption) ?resto1be17
                    case hyo1be17 => (intro w hSw; (try dsimp only at hSw); (try simp only [List.getElem_toArray, List.getElem_cons_zero, List.getElem_cons_succ]); go_simp; (try with_reducible rfl))
                    (try simp only [Act.put, List.setIfInBounds_toArray, List.set_cons_zero, List.set_cons_succ, List.getElem_toArray, List.getElem_cons_zero, List.getElem_cons_succ])
                    refine wpAnyH_take (i := 18) (oi := _) (v := ?vo1be18) rfl (by kernel_rfl) (by kernel_rfl) (by kernel_rfl) (fun _ _ _ h => h) (Or.inl ⟨by rfl, ?hyo1be18⟩) (by assumption) ?resto1be18
                    case hyo1be18 => (intro w hSw; (try dsimp only at hSw); (try simp only [List.getElem_toArray, List.getElem_cons_zero, List.getElem_cons_succ]); go_simp; (try with_reducible rfl))
                    (try simp only [Act.put, List.setIfInBounds_toArray, List.set_cons_zero, List.set_cons_succ, List.getElem_toArray, List.getElem_cons_zero, List.getElem_cons_succ])
                    refine wpAnyH_take (i := 19) (oi := _) (v := ?vo1be19) rfl (by kernel_rfl) (by kernel_rfl) (by kernel_rfl) (fun _ _ _ h => h) (Or.inl ⟨by rfl, ?hyo1be19⟩) (by assumption) ?resto1be19
                    case hyo1be19 => (intro w hSw; (try dsimp only at hSw); (try simp only [List.getElem_toArray, List.getElem_cons_zero, List.getElem_cons_succ]); go_simp; (try with_reducible rfl))
                    (try simp only [Act.put, List.setIfInBounds_toArray, List.set_cons_zero, List.set_cons_succ, List.getElem_toArray, List.getElem_cons_zero, List.getElem_cons_succ])
                    refine wpAnyH_take (i := 20) (oi := _) (v := ?vo1be20) rfl (by kernel_rfl) (by kernel_rfl) (by kernel_rfl) (fun _ _ _ h => h) (Or.inl ⟨by rfl, ?hyo1be20⟩) (by assumption) ?resto1be20
                    case hyo1be20 => (intro w hSw; (try dsimp only at hSw); (try simp only [List.getElem_toArray, List.getElem_cons_zero, List.getElem_cons_succ]); go_simp; (try with_reducible rfl))
                    (try simp only [Act.put, List.setIfInBounds_toArray, List.set_cons_zero, List.set_cons_succ, List.getElem_toArray, List.getElem_cons_zero, List.getElem_cons_succ])
                    refine wpAnyH_take (i := 21) (oi := _) (v := ?vo1be21) rfl (by kernel_rfl) (by kernel_rfl) (by kernel_rfl) (fun _ _ _ h => h) (Or.inl ⟨by rfl, ?hyo1be21⟩) (by assumption) ?resto1be21
                    case hyo1be21 => (intro w hSw; (try dsimp only at hSw); (try simp only [List.getElem_toArray, List.getElem_cons_zero, List.getElem_cons_succ]); go_simp; (try with_reducible rfl))
                    (try simp only [Act.put, List.setIfInBounds_toArray, List.set_cons_zero, List.set_cons_succ, List.getElem_toArray, List.getElem_cons_zero, List.getElem_cons_succ])
                    refine wpAnyH_take (i := 22) (oi := _) (v := ?vo1be22) rfl (by kernel_rfl) (by kernel_rfl) (by kernel_rfl) (fun _ _ _ h => h) (Or.inl ⟨by rfl, ?hyo1be22⟩) (by assumption) ?resto1be22
                    case hyo1be22 => (intro w hSw; (try dsimp only at hSw); (try simp only [List.getElem_toArray, List.getElem_cons_zero, List.getElem_cons_succ]); go_simp; (try with_reducible rfl))
                    (try simp only [Act.put, List.setIfInBounds_toArray, List.set_cons_zero, List.set_cons_succ, List.getElem_toArray, List.getElem_cons_zero, List.getElem_cons_succ])
                    refine wpAnyH_take (i := 24) (oi := _) (v := ?vo1be24) rfl (by kernel_rfl) (by kernel_rfl) (by kernel_rfl) (fun _ _ _ h => h) (Or.inl ⟨by rfl, ?hyo1be24⟩) (by assumption) ?resto1be24
                    case hyo1be24 => (intro w hSw; (try dsimp only at hSw); (try simp only [List.getElem_toArray, List.getElem_cons_zero, List.getElem_cons_succ]); go_simp; (try with_reducible rfl))
                    (try simp only [Act.put, List.setIfInBounds_toArray, List.set_cons_zero, List.set_cons_succ, List.getElem_toArray, List.getElem_cons_zero, List.getElem_cons_succ])
                    refine wpAnyH_take (i := 25) (oi := _) (v := ?vo1be25) rfl (by kernel_rfl) (by kernel_rfl) (by kernel_rfl) (fun _ _ _ h => h) (Or.inl ⟨by rfl, ?hyo1be25⟩) (by assumption) ?resto1be25
                    case hyo1be25 => (intro w hSw; (try dsimp only at hSw); (try simp only [List.getElem_toArray, List.getElem_cons_zero, List.getElem_cons_succ]); go_simp; (try with_reducible rfl))
                    (try simp only [Act.put, List.setIfInBounds_toArray, List.set_cons_zero, List.set_cons_succ, List.getElem_toArray, List.getElem_cons_zero, List.getElem_cons_succ])
                    refine wpAnyH_take (i := 26) (oi := _) (v := ?vo1be26) rfl (by kernel_rfl) (by kernel_rfl) (by kernel_rfl) (fun _ _ _ h => h) (Or.inl ⟨by rfl, ?hyo1be26⟩) (by assumption) ?resto1be26
                    case hyo1be26 => (intro w hSw; (try dsimp only at hSw); (try simp only [List.getElem_toArray, List.getElem_cons_zero, List.getElem_cons_succ]); go_simp; (try with_reducible rfl))
                    (try simp only [Act.put, List.setIfInBounds_toArray, List.set_cons_zero, List.set_cons_succ, List.getElem_toArray, List.getElem_cons_zero, List.getElem_cons_succ])
                    refine wpAnyH_take (i := 27) (oi := _) (v := ?vo1be27) rfl (by kernel_rfl) (by kernel_rfl) (by kernel_rfl) (fun _ _ _ h => h) (Or.inl ⟨by rfl, ?hyo1be27⟩) (by assumption) ?resto1be27
                    case hyo1be27 => (intro w hSw; (try dsimp only at hSw); (try simp only [List.getElem_toArray, List.getElem_cons_zero, List.getElem_cons_succ]); go_simp; (try with_reducible rfl))
                    (try simp only [Act.put, List.setIfInBounds_toArray, List.set_cons_zero, List.set_cons_succ, List.getElem_toArray, List.getElem_cons_zero, List.getElem_cons_succ])
                    refine wpAnyH_take (i := 28) (oi := _) (v := ?vo1be28) rfl (by kernel_rfl) (by kernel_rfl) (by kernel_rfl) (fun _ _ _ h => h) (Or.inl ⟨by rfl, ?hyo1be28⟩) (by assumption) ?resto1be28
                    case hyo1be28 => (intro w hSw; (try dsimp only at hSw); (try simp only [List.getElem_toArray, List.getElem_cons_zero, List.getElem_cons_succ]); go_simp; (try with_reducible rfl))
                    (try simp only [Act.put, List.setIfInBounds_toArray, List.set_cons_zero, List.set_cons_succ, List.getElem_toArray, List.getElem_cons_zero, List.getElem_cons_succ])
                    refine wpAnyH_take (i := 29) (oi := _) (v := ?vo1be29) rfl (by kernel_rfl) (by kernel_rfl) (by kernel_rfl) (fun _ _ _ h => h) (Or.inl ⟨by rfl, ?hyo1be29⟩) (by assumption) ?resto1be29
                    case hyo1be29 => (intro w hSw; (try dsimp only at hSw); (try simp only [List.getElem_toArray, List.getElem_cons_zero, List.getElem_cons_succ]); go_simp; (try with_reducible rfl))
                    (try simp only [Act.put, List.setIfInBounds_toArray, List.set_cons_zero, List.set_cons_succ, List.getElem_toArray, List.getElem_cons_zero, List.getElem_cons_succ])
                    refine wpAnyH_ready (rs := [23]) (by kernel_rfl) (by simp) ?_
                    refine AllReadyH.cons (o := _) rfl (fun K hK => ?_) AllReadyH.nil
                    (try simp only [List.getElem_toArray, List.getElem_cons_zero, List.getElem_cons_succ])
                    go_simp
                    (refine (HNW.out s _ HSM.out (by first | exact HP5.out | exact HP5.out.drew)).mono ?_; rintro e w6 ⟨rfl, qq⟩; have HP6 := Lib.hid qq; clear qq)
                    refine hK.out _ _ ?_ (fun hHeld => ?_)
                    · exact SF.out _ _ _ HP6.out
                    clear hK K
                    (try simp only [Act.put, List.setIfInBounds_toArray, List.set_cons_zero, List.set_cons_succ, List.getElem_toArray, List.getElem_cons_zero, List.getElem_cons_succ])
                    refine wpAnyH_take (i := 30) (oi := _) (v := ?vo1be30) rfl (by kernel_rfl) (by kernel_rfl) (by kernel_rfl) (fun _ _ _ h => h) (Or.inl ⟨by rfl, ?hyo1be30⟩) (by assumption) ?resto1be30
                    case hyo1be30 => (intro w hSw; (try dsimp only at hSw); (try simp only [List.getElem_toArray, List.getElem_cons_zero, List.getElem_cons_succ]); go_simp; (try with_reducible rfl))
                    (try simp only [Act.put, List.setIfInBounds_toArray, List.set_cons_zero, List.set_cons_succ, List.getElem_toArray, List.getElem_cons_zero, List.getElem_cons_succ])
                    refine wpAnyH_take (i := 31) (oi := _) (v := ?vo1be31) rfl (by kernel_rfl) (by kernel_rfl) (by kernel_rfl) (fun _ _ _ h => h) (Or.inl ⟨by rfl, ?hyo1be31⟩) (by assumption) ?resto1be31
                    case hyo1be31 => (intro w hSw; (try dsimp only at hSw); (try simp only [List.getElem_toArray, List.getElem_cons_zero, List.getElem_cons_succ]); go_simp; (try with_reducible rfl))
                    (try simp only [Act.put, List.setIfInBounds_toArray, List.set_cons_zero, List.set_cons_succ, List.getElem_toArray, List.getElem_cons_zero, List.getElem_cons_succ])
                    refine wpAnyH_take (i := 32) (oi := _) (v := ?vo1be32) rfl (by kernel_rfl) (by kernel_rfl) (by kernel_rfl) (fun _ _ _ h => h) (Or.inl ⟨by rfl, ?hyo1be32⟩) (by assumption) ?resto1be32
                    case hyo1be32 => (intro w hSw; (try dsimp only at hSw); (try simp only [List.getElem_toArray, List.getElem_cons_zero, List.getElem_cons_succ]); go_simp; (try with_reducible rfl))
                    (try simp only [Act.put, List.setIfInBounds_toArray, List.set_cons_zero, List.set_cons_succ, List.getElem_toArray, List.getElem_cons_zero, List.getElem_cons_succ])
                    refine wpAnyH_take (i := 33) (oi := _) (v := ?vo1be33) rfl (by kernel_rfl) (by kernel_rfl) (by kernel_rfl) (fun _ _ _ h => h) (Or.inl ⟨by rfl, ?hyo1be33⟩) (by assumption) ?resto1be33
                    case hyo1be33 => (intro w hSw; (try dsimp only at hSw); (try simp only [List.getElem_toArray, List.getElem_cons_zero, List.getElem_cons_succ]); go_simp; (try with_reducible rfl))
                    (try simp only [Act.put, List.setIfInBounds_toArray, List.set_cons_zero, List.set_cons_succ, List.getElem_toArray, List.getElem_cons_zero, List.getElem_cons_succ])
                    refine wpAnyH_take (i := 34) (oi := _) (v := ?vo1be34) rfl (by kernel_rfl) (by kernel_rfl) (by kernel_rfl) (fun _ _ _ h => h) (Or.inl ⟨by rfl, ?hyo1be34⟩) (by assumption) ?resto1be34
                    case hyo1be34 => (intro w hSw; (try dsimp only at hSw); (try simp only [List.getElem_toArray, List.getElem_cons_zero, List.getElem_cons_succ]); go_simp; (try with_reducible rfl))
                    (try simp only [Act.put, List.setIfInBounds_toArray, List.set_cons_zero, List.set_cons_succ, List.getElem_toArray, List.getElem_cons_zero, List.getElem_cons_succ])
                    refine wpAnyH_take (i := 36) (oi := _) (v := ?vo1be36) rfl (by kernel_rfl) (by kernel_rfl) (by kernel_rfl) (fun _ _ _ h => h) (Or.inl ⟨by rfl, ?hyo1be36⟩) (by assumption) ?resto1be36
                    case hyo1be36 => (intro w hSw; (try dsimp only at hSw); (try simp only [List.getElem_toArray, List.getElem_cons_zero, List.getElem_cons_succ]); go_simp; (try with_reducible rfl))
                    (try simp only [Act.put, List.setIfInBounds_toArray, List.set_cons_zero, List.set_cons_succ, List.getElem_toArray, List.getElem_cons_zero, List.getElem_cons_succ])
                    refine wpAnyH_take (i := 37) (oi := _) (v := ?vo1be37) rfl (by kernel_rfl) (by kernel_rfl) (by kernel_rfl) (fun _ _ _ h => h) (Or.inl ⟨by rfl, ?hyo1be37⟩) (by assumption) ?resto1be37
                    case hyo1be37 => (intro w hSw; (try dsimp only at hSw); (try simp only [List.getElem_toArray, List.getElem_cons_zero, List.getElem_cons_succ]); go_simp; (try with_reducible rfl))
                    (try simp only [Act.put, List.setIfInBounds_toArray, List.set_cons_zero, List.set_cons_succ, List.getElem_toArray, List.getElem_cons_zero, List.getElem_cons_succ])
                    refine wpAnyH_take (i := 38) (oi := _) (v := ?vo1be38) rfl (by kernel_rfl) (by kernel_rfl) (by kernel_rfl) (fun _ _ _ h => h) (Or.inl ⟨by rfl, ?hyo1be38⟩) (by assumption) ?resto1be38
                    case hyo1be38 => (intro w hSw; (try dsimp only at hSw); (try simp only [List.getElem_toArray, List.getElem_cons_zero, List.getElem_cons_succ]); go_simp; (try with_reducible rfl))
                    (try simp only [Act.put, List.setIfInBounds_toArray, List.set_cons_zero, List.set_cons_succ, List.getElem_toArray, List.getElem_cons_zero, List.getElem_cons_succ])
                    refine wpAnyH_ready (rs := [35]) (by kernel_rfl) (by simp) ?_
                    refine AllReadyH.cons (o := _) rfl (fun K hK => ?_) AllReadyH.nil
                    (try simp only [List.getElem_toArray, List.getElem_cons_zero, List.getElem_cons_succ])
                    go_simp
                    (refine (HNW.out ask _ HA.out (by first | exact HP6.out | exact HP6.out.drew)).mono ?_; rintro e w7 ⟨rfl, qq⟩; have HP7 := Lib.hid qq; clear qq)
                    refine hK.out _ _ ?_ (fun hHeld => ?_)
                    · exact SF.out _ _ _ HP7.out
                    clear hK K
                    (try simp only [Act.put, List.setIfInBounds_toArray, List.set_cons_zero, List.set_cons_succ, List.getElem_toArray, List.getElem_cons_zero, List.getElem_cons_succ])
                    refine wpAnyH_take (i := 39) (oi := _) (v := ?vo1be39) rfl (by kernel_rfl) (by kernel_rfl) (by kernel_rfl) (fun _ _ _ h => h) (Or.inl ⟨by rfl, ?hyo1be39⟩) (by assumption) ?resto1be39
                    case hyo1be39 => (intro w hSw; (try dsimp only at hSw); (try simp only [List.getElem_toArray, List.getElem_cons_zero, List.getElem_cons_succ]); go_simp; (try with_reducible rfl))
                    (try simp only [Act.put, List.setIfInBounds_toArray, List.set_cons_zero, List.set_cons_succ, List.getElem_toArray, List.getElem_cons_zero, List.getElem_cons_succ])
                    refine wpAnyH_take (i := 40) (oi := _) (v := ?vo1be40) rfl (by kernel_rfl) (by kernel_rfl) (by kernel_rfl) (fun _ _ _ h => h) (Or.inl ⟨by rfl, ?hyo1be40⟩) (by assumption) ?resto1be40
                    case hyo1be40 => (intro w hSw; (try dsimp only at hSw); (try simp only [List.getElem_toArray, List.getElem_cons_zero, List.getElem_cons_succ]); go_simp; (try with_reducible rfl))
                    (try simp only [Act.put, List.setIfInBounds_toArray, List.set_cons_zero, List.set_cons_succ, List.getElem_toArray, List.getElem_cons_zero, List.getElem_cons_succ])
                    refine wpAnyH_take (i := 41) (oi := _) (v := ?vo1be41) rfl (by kernel_rfl) (by kernel_rfl) (by kernel_rfl) (fun _ _ _ h => h) (Or.inl ⟨by rfl, ?hyo1be41⟩) (by assumption) ?resto1be41
                    case hyo1be41 => (intro w hSw; (try dsimp only at hSw); (try simp only [List.getElem_toArray, List.getElem_cons_zero, List.getElem_cons_succ]); go_simp; (try with_reducible rfl))
                    (try simp only [Act.put, List.setIfInBounds_toArray, List.set_cons_zero, List.set_cons_succ, List.getElem_toArray, List.getElem_cons_zero, List.getElem_cons_succ])
                    refine wpAnyH_take (i := 42) (oi := _) (v := ?vo1be42) rfl (by kernel_rfl) (by kernel_rfl) (by kernel_rfl) (fun _ _ _ h => h) (Or.inl ⟨by rfl, ?hyo1be42⟩) (by assumption) ?resto1be42
                    case hyo1be42 => (intro w hSw; (try dsimp only at hSw); (try simp only [List.getElem_toArray, List.getElem_cons_zero, List.getElem_cons_succ]); go_simp; (try with_reducible rfl))
                    (try simp only [Act.put, List.setIfInBounds_toArray, List.set_cons_zero, List.set_cons_succ, List.getElem_toArray, List.getElem_cons_zero, List.getElem_cons_succ])
                    refine wpAnyH_take (i := 43) (oi := _) (v := ?vo1be43) rfl (by kernel_rfl) (by kernel_rfl) (by kernel_rfl) (fun _ _ _ h => h) (Or.inl ⟨by rfl, ?hyo1be43⟩) (by assumption) ?resto1be43
                    case hyo1be43 => (intro w hSw; (try dsimp only at hSw); (try simp only [List.getElem_toArray, List.getElem_cons_zero, List.getElem_cons_succ]); go_simp; (try with_reducible rfl))
                    (try simp only [Act.put, List.setIfInBounds_toArray, List.set_cons_zero, List.set_cons_succ, List.getElem_toArray, List.getElem_cons_zero, List.getElem_cons_succ])
                    refine wpAnyH_take (i := 44) (oi := _) (v := ?vo1be44) rfl (by kernel_rfl) (by kernel_rfl) (by kernel_rfl) (fun _ _ _ h => h) (Or.inl ⟨by rfl, ?hyo1be44⟩) (by assumption) ?resto1be44
                    case hyo1be44 => (intro w hSw; (try dsimp only at hSw); (try simp only [List.getElem_toArray, List.getElem_cons_zero, List.getElem_cons_succ]); go_simp; (try with_reducible rfl))
                    (try simp only [Act.put, List.setIfInBounds_toArray, List.set_cons_zero, List.set_cons_succ, List.getElem_toArray, List.getElem_cons_zero, List.getElem_cons_succ])
                    refine wpAnyH_take (i := 45) (oi := _) (v := ?vo1be45) rfl (by kernel_rfl) (by kernel_rfl) (by kernel_rfl) (fun _ _ _ h => h) (Or.inl ⟨by rfl, ?hyo1be45⟩) (by assumption) ?resto1be45
                    case hyo1be45 => (intro w hSw; (try dsimp only at hSw); (try simp only [List.getElem_toArray, List.getElem_cons_zero, List.getElem_cons_succ]); go_simp; (try with_reducible rfl))
                    (try simp only [Act.put, List.setIfInBounds_toArray, List.set_cons_zero, List.set_cons_succ, List.getElem_toArray, List.getElem_cons_zero, List.getElem_cons_succ])
                    refine wpAnyH_take (i := 46) (oi := _) (v := ?vo1be46) rfl (by kernel_rfl) (by kernel_rfl) (by kernel_rfl) (fun _ _ _ h => h) (Or.inl ⟨by rfl, ?hyo1be46⟩) (by assumption) ?resto1be46
                    case hyo1be46 => (intro w hSw; (try dsimp only at hSw); (try simp only [List.getElem_toArray, List.getElem_cons_zero, List.getElem_cons_succ]); go_simp; (try with_reducible rfl))
                    (try simp only [Act.put, List.setIfInBounds_toArray, List.set_cons_zero, List.set_cons_succ, List.getElem_toArray, List.getElem_cons_zero, List.getElem_cons_succ])
                    refine wpAnyH_take (i := 47) (oi := _) (v := ?vo1be47) rfl (by kernel_rfl) (by kernel_rfl) (by kernel_rfl) (fun _ _ _ h => h) (Or.inl ⟨by rfl, ?hyo1be47⟩) (by assumption) ?resto1be47
                    case hyo1be47 => (intro w hSw; (try dsimp only at hSw); (try simp only [List.getElem_toArray, List.getElem_cons_zero, List.getElem_cons_succ]); go_simp; (try with_reducible rfl))
                    (try simp only [Act.put, List.setIfInBounds_toArray, List.set_cons_zero, List.set_cons_succ, List.getElem_toArray, List.getElem_cons_zero, List.getElem_cons_succ])
                    refine wpAnyH_done (by kernel_rfl) ?_ _
                    refine NoPanic.normal ?_
                    clear SF HAD HNW hgt
                    have hN := HP7.out.isNames (by rw [← HR'.out]; omega)
                    rw [← HR'.out] at hN
                    have HN := Lib.hid hN
                    clear hN
                    go_wp2_with fail
                    refine HN.out.mono ?_
                    rintro e w8 ⟨Y8, yc8, rfl, q8, b8⟩
                    have HP8 := Lib.hid q8
                    have HB8 := Lib.hid b8
                    clear q8 b8 HN
                    go_wp2_with fail
                    refine (HP8.out.isTexts r' yc8 (rising km') HB8.out (by omega) (by omega)).mono ?_
                    rintro e w9 ⟨rfl, q9, b9⟩
                    have HP9 := Lib.hid q9
                    have HB9 := Lib.hid b9
                    clear q9 b9
                    have HSA : Hid (Calls Tryz.prog 9 #[.slice Y8 r' yc8, .slice A5 r' c5] w9 fun e w' => e = .returned (.bool true) ∧ ∃ k, w' = w9.drewN k) := by
                      have q1 := HB9.out.src
                      have q2 := HP9.out.ord.src
                      rw [rising_length, ← HR'.out] at q2
                      exact same_Texts Y8 A5 r' yc8 c5 ((rising km').map fun x => ⟨x.toArray⟩) w9 (by rw [List.map_map]; exact q1) (by rw [List.map_map]; exact q2) (by omega)
                    go_wp2_with fail
                    refine HSA.out.mono ?_
                    rintro e w10 ⟨rfl, kq, rfl⟩
                    have HPE := Lib.hid (HP9.out.drewN kq)
                    go_wp2_with fail
                    go_roundw
                    case rel => exact ⟨k + 1, r', A5, c5, km', g', by go_num, rfl, by omega, by omega, HR', K1, C1, HPE⟩
                    case measure => simp [intOf]; omega
                · (try simp only [List.getElem_toArray, List.getElem_cons_zero, List.getElem_cons_succ])
                  go_simp
                  refine hK.out _ _ ?_ (fun hHeld => ?_)
                  · exact ⟨(RD.out _ (HPQ.out.keep (((Keep.refl (fun _ => False) wq).alloc _).drew)).below).1, (RD.out _ (HPQ.out.keep (((Keep.refl (fun _ => False) wq).alloc _).drew)).below).1⟩
                  clear hK K
                  (try simp only [Act.put, List.setIfInBounds_toArray, List.set_cons_zero, List.set_cons_succ, List.getElem_toArray, List.getElem_cons_zero, List.getElem_cons_succ])
                  refine wpAnyH_ready (rs := [3]) (by kernel_rfl) (by simp) ?_
                  refine AllReadyH.cons (o := _) rfl (fun K hK => ?_) AllReadyH.nil
                  (try simp only [List.getElem_toArray, List.getElem_cons_zero, List.getElem_cons_succ])
                  (rw [if_pos (by rfl)]; refine wp_append_buf _ (.const (.slice none 0 0)) (.tmp 79) 22 rfl 9 i0 (.string .empty) 16 Tryz.underlying22 hi0 hz0 hz1 hz2 rfl rfl (Buf.nil _) (((rising km).take j).map encStr) rfl (SLO.out.of_keep (((Keep.refl (fun _ => False) wq).alloc _).drew) (fun _ _ x => x)) (one_enc _) (by unfold maxLen; omega) (by omega) ?_; intro A3 c3 w3 a3 k3 p3; have Q3 : Hid (Buf w3 A3 j c3 (((rising km).take j).map encStr)) := (by have := a3; rw [Nat.zero_add, List.nil_append] at this; exact this); have KP3 := Lib.hid k3; have P3 := Lib.hid p3; clear a3 k3 p3)
                  refine hK.out _ _ ?_ (fun hHeld => ?_)
                  · exact ⟨(RD.out _ (HPQ.out.keep ((((Keep.refl (fun _ => False) wq).alloc _).drew).trans KP3.out (fun _ _ x => by simp [blk] at x))).below).1, (RD.out _ (HPQ.out.keep ((((Keep.refl (fun _ => False) wq).alloc _).drew).trans KP3.out (fun _ _ x => by simp [blk] at x))).below).1⟩
                  clear hK K
                  (try simp only [Act.put, List.setIfInBounds_toArray, List.set_cons_zero, List.set_cons_succ, List.getElem_toArray, List.getElem_cons_zero, List.getElem_cons_succ])
                  refine wpAnyH_ready (rs := [9]) (by kernel_rfl) (by simp) ?_
                  refine AllReadyH.cons (o := _) rfl (fun K hK => ?_) AllReadyH.nil
                  (try simp only [List.getElem_toArray, List.getElem_cons_zero, List.getElem_cons_succ])
                  (rw [if_pos (by rfl)]; refine wp_append_buf _ (.tmp 80) (.tmp 85) 22 rfl 9 i0 (.string .empty) 16 Tryz.underlying22 hi0 hz0 hz1 hz2 rfl rfl (by first | exact Q3.out.keep (Keep.refl (fun _ => False) _) (fun _ _ x => x) | (rw [Nat.zero_add]; exact Q3.out.keep (Keep.refl (fun _ => False) _) (fun _ _ x => x))) [.string s] rfl ((src_one _ _ _ rfl).of_keep ((Keep.refl (fun _ => False) _).drew.trans KP3.out (fun _ _ x => by simp [blk] at x)) (fun _ _ x => x)) (by simp [Value.oneCell']) (by unfold maxLen; omega) (by omega) ?_; intro A4 c4 w4 a4 k4 p4; have Q4 := Lib.hid a4; have KP4 := Lib.hid k4; have P4 := Lib.hid p4; clear a4 k4 p4)
                  refine hK.out _ _ ?_ (fun hHeld => ?_)
                  · exact ⟨(RD.out _ (HPQ.out.keep (three_appends (((Keep.refl (fun _ => False) wq).alloc _).drew) KP3.out P3.out (Keep.refl (fun _ => False) _) KP4.out P4.out).1.2).below).1, (RD.out _ (HPQ.out.keep (three_appends (((Keep.refl (fun _ => False) wq).alloc _).drew) KP3.out P3.out (Keep.refl (fun _ => False) _) KP4.out P4.out).1.2).below).1⟩
                  clear hK K
                  (try simp only [Act.put, List.setIfInBounds_toArray, List.set_cons_zero, List.set_cons_succ, List.getElem_toArray, List.getElem_cons_zero, List.getElem_cons_succ])
                  refine wpAnyH_ready (rs := [13]) (by kernel_rfl) (by simp) ?_
                  refine AllReadyH.cons (o := _) rfl (fun K hK => ?_) AllReadyH.nil
                  (try simp only [List.getElem_toArray, List.getElem_cons_zero, List.getElem_cons_succ])
                  (rw [if_pos (by rfl)]; refine wp_append_buf _ (.tmp 86) (.tmp 89) 22 rfl 9 i0 (.string .empty) 16 Tryz.underlying22 hi0 hz0 hz1 hz2 rfl rfl Q4.out (((rising km).drop j).map encStr) rfl (by have q := SHI.out.of_keep (three_appends (((Keep.refl (fun _ => False) wq).alloc _).drew) KP3.out P3.out (Keep.refl (fun _ => False) _) KP4.out P4.out).1.2 (fun _ _ x => x); first | exact q | simpa [add_mk] using q) (one_enc _) (by unfold maxLen; omega) (by omega) ?_; intro A5 c5 w5 a5 k5 p5; have F5 := Lib.hid ((three_appends (((Keep.refl (fun _ => False) wq).alloc _).drew) KP3.out P3.out (Keep.refl (fun _ => False) _) KP4.out P4.out).2 _ _ k5 p5); have Q5 := Lib.hid a5; clear a5 k5 p5)
                  refine hK.out _ _ ?_ (fun hHeld => ?_)
                  · exact ⟨(RD.out _ (HPQ.out.keep F5.out.1).below).1, (RD.out _ (HPQ.out.keep F5.out.1).below).1⟩
                  clear hK K
                  (try simp only [Act.put, List.setIfInBounds_toArray, List.set_cons_zero, List.set_cons_succ, List.getElem_toArray, List.getElem_cons_zero, List.getElem_cons_succ])
                  refine wpAnyH_take (i := 14) (oi := _) (v := ?vo1c14) rfl (by kernel_rfl) (by kernel_rfl) (by kernel_rfl) (fun _ _ _ h => h) (Or.inl ⟨by rfl, ?hyo1c14⟩) (by assumption) ?resto1c14
                  case hyo1c14 => (intro w hSw; (try dsimp only at hSw); (try simp only [List.getElem_toArray, List.getElem_cons_zero, List.getElem_cons_succ]); go_simp; (try with_reducible rfl))
                  (try simp only [Act.put, List.setIfInBounds_toArray, List.set_cons_zero, List.set_cons_succ, List.getElem_toArray, List.getElem_cons_zero, List.getElem_cons_succ])
                  refine wpAnyH_done (by kernel_rfl) ?_ _
                  have eL : ((rising km').map encStr) = (((rising km).take j).map encStr) ++ [.string s] ++ (((rising km).drop j).map encStr) := by
                    rw [HKM'.out, rising_insert HIN.out HLO.out HHI.out, List.map_append, List.map_append]
                    simp [encStr]
                  have q5 := Q5.out
                  rw [← eL] at q5
                  have n5 := q5.len
                  rw [List.length_map, rising_length, ← HR'.out] at n5
                  have HPT : Hid (Plays w p (p + 1 + 1) (p + 1) km g km g A5 c5 (rising km') none k w5) := HPQ.out.order F5.out.1 (by rw [rising_length, ← HR'.out, n5]; exact q5) F5.out.2
                  have n6 : j + 1 + (r - j) = r' := by omega
                  refine NoPanic.normal ?_
                  (try rw [n6])
                  (try rw [← n5])
                  clear eL q5 n5 n6 r1 hjr2 hjo hjc hj0' hoc
                  go_wp2_with fail
                  as_aux_lemma =>
                    have hkm : ((k : Int) < (m : Int)) := by omega
                    have hkn : ((k : Int) < (n : Int)) := by omega
                    have hk0' : (0 : Int) ≤ (k : Int) := by omega
                    have lk18 := HPT.out.look HSM.out
                    have lk18' := HPT.out.drew.look HSM.out
                    obtain ⟨c18, d18⟩ := RD.out _ HPT.out.below
                    refine wp_region_noPanic ?_
                    refine wp_region_held_drew (S := fun w' => w'.cell? ⟨b, off + k, none⟩ = some (.string s) ∧ w'.cell? ⟨b2, off2 + k, none⟩ = some (.int .i64 v)) (by kernel_rfl) ⟨c18, d18⟩ (fun hHeld => ?_)
                    refine wpAnyH_take (i := 0) (oi := _) (v := ?vo1cd0) rfl (by kernel_rfl) (by kernel_rfl) (by kernel_rfl) (fun _ _ _ h => h) (Or.inl ⟨by rfl, ?hyo1cd0⟩) (by assumption) ?resto1cd0
                    case hyo1cd0 => (intro w hSw; (try dsimp only at hSw); (try simp only [List.getElem_toArray, List.getElem_cons_zero, List.getElem_cons_succ]); go_simp; (try with_reducible rfl))
                    (try simp only [Act.put, List.setIfInBounds_toArray, List.set_cons_zero, List.set_cons_succ, List.getElem_toArray, List.getElem_cons_zero, List.getElem_cons_succ])
                    refine wpAnyH_take (i := 1) (oi := _) (v := ?vo1cd1) rfl (by kernel_rfl) (by kernel_rfl) (by kernel_rfl) (fun _ _ _ h => h) (Or.inl ⟨by rfl, ?hyo1cd1⟩) (by assumption) ?resto1cd1
                    case hyo1cd1 => (intro w hSw; (try dsimp only at hSw); (try simp only [List.getElem_toArray, List.getElem_cons_zero, List.getElem_cons_succ]); go_simp; (try with_reducible rfl))
                    (try simp only [Act.put, List.setIfInBounds_toArray, List.set_cons_zero, List.set_cons_succ, List.getElem_toArray, List.getElem_cons_zero, List.getElem_cons_succ])
                    refine wpAnyH_take (i := 2) (oi := _) (v := ?vo1cd2) rfl (by kernel_rfl) (by kernel_rfl) (by kernel_rfl) (fun _ _ _ h => h) (Or.inl ⟨by rfl, ?hyo1cd2⟩) (by assumption) ?resto1cd2
                    case hyo1cd2 => (intro w hSw; (try dsimp only at hSw); (try simp only [List.getElem_toArray, List.getElem_cons_zero, List.getElem_cons_succ]); go_simp; (try with_reducible rfl))
                    (try simp only [Act.put, List.setIfInBounds_toArray, List.set_cons_zero, List.set_cons_succ, List.getElem_toArray, List.getElem_cons_zero, List.getElem_cons_succ])
                    refine wpAnyH_take (i := 3) (oi := _) (v := ?vo1cd3) rfl (by kernel_rfl) (by kernel_rfl) (by kernel_rfl) (fun _ _ _ h => h) (Or.inl ⟨by rfl, ?hyo1cd3⟩) (by assumption) ?resto1cd3
                    case hyo1cd3 => (intro w hSw; (try dsimp only at hSw); (try simp only [List.getElem_toArray, List.getElem_cons_zero, List.getElem_cons_succ]); go_simp; (try with_reducible rfl))
                    (try simp only [Act.put, List.setIfInBounds_toArray, List.set_cons_zero, List.set_cons_succ, List.getElem_toArray, List.getElem_cons_zero, List.getElem_cons_succ])
                    refine wpAnyH_take (i := 4) (oi := _) (v := ?vo1cd4) rfl (by kernel_rfl) (by kernel_rfl) (by kernel_rfl) (fun _ _ _ h => h) (Or.inl ⟨by rfl, ?hyo1cd4⟩) (by assumption) ?resto1cd4
                    case hyo1cd4 => (intro w hSw; (try dsimp only at hSw); (try simp only [List.getElem_toArray, List.getElem_cons_zero, List.getElem_cons_succ]); go_simp; (try with_reducible rfl))
                    (try simp only [Act.put, List.setIfInBounds_toArray, List.set_cons_zero, List.set_cons_succ, List.getElem_toArray, List.getElem_cons_zero, List.getElem_cons_succ])
                    refine wpAnyH_take (i := 6) (oi := _) (v := ?vo1cd6) rfl (by kernel_rfl) (by kernel_rfl) (by kernel_rfl) (fun _ _ _ h => h) (Or.inl ⟨by rfl, ?hyo1cd6⟩) (by assumption) ?resto1cd6
                    case hyo1cd6 => (intro w hSw; (try dsimp only at hSw); (try simp only [List.getElem_toArray, List.getElem_cons_zero, List.getElem_cons_succ]); go_simp; (try with_reducible rfl))
                    (try simp only [Act.put, List.setIfInBounds_toArray, List.set_cons_zero, List.set_cons_succ, List.getElem_toArray, List.getElem_cons_zero, List.getElem_cons_succ])
                    refine wpAnyH_take (i := 7) (oi := _) (v := ?vo1cd7) rfl (by kernel_rfl) (by kernel_rfl) (by kernel_rfl) (fun _ _ _ h => h) (Or.inl ⟨by rfl, ?hyo1cd7⟩) (by assumption) ?resto1cd7
                    case hyo1cd7 => (intro w hSw; (try dsimp only at hSw); (try simp only [List.getElem_toArray, List.getElem_cons_zero, List.getElem_cons_succ]); go_simp; (try with_reducible rfl))
                    (try simp only [Act.put, List.setIfInBounds_toArray, List.set_cons_zero, List.set_cons_succ, List.getElem_toArray, List.getElem_cons_zero, List.getElem_cons_succ])
                    refine wpAnyH_take (i := 8) (oi := _) (v := ?vo1cd8) rfl (by kernel_rfl) (by kernel_rfl) (by kernel_rfl) (fun _ _ _ h => h) (Or.inl ⟨by rfl, ?hyo1cd8⟩) (by assumption) ?resto1cd8
                    case hyo1cd8 => (intro w hSw; (try dsimp only at hSw); (try simp only [List.getElem_toArray, List.getElem_cons_zero, List.getElem_cons_succ]); go_simp; (try with_reducible rfl))
                    (try simp only [Act.put, List.setIfInBounds_toArray, List.set_cons_zero, List.set_cons_succ, List.getElem_toArray, List.getElem_cons_zero, List.getElem_cons_succ])
                    refine wpAnyH_take (i := 9) (oi := _) (v := ?vo1cd9) rfl (by kernel_rfl) (by kernel_rfl) (by kernel_rfl) (fun _ _ _ h => h) (Or.inl ⟨by rfl, ?hyo1cd9⟩) (by assumption) ?resto1cd9
                    case hyo1cd9 => (intro w hSw; (try dsimp only at hSw); (try simp only [List.getElem_toArray, List.getElem_cons_zero, List.getElem_cons_succ]); go_simp; (try with_reducible rfl))
                    (try simp only [Act.put, List.setIfInBounds_toArray, List.set_cons_zero, List.set_cons_succ, List.getElem_toArray, List.getElem_cons_zero, List.getElem_cons_succ])
                    refine wpAnyH_ready (rs := [5]) (by kernel_rfl) (by simp) ?_
                    refine AllReadyH.cons (o := _) rfl (fun K hK => ?_) AllReadyH.nil
                    (try simp only [List.getElem_toArray, List.getElem_cons_zero, List.getElem_cons_succ])
                    go_simp
                    refine hK.out _ _ ?_ (fun hHeld => ?_)
                    · exact ⟨c18, d18⟩
                    clear hK K
                    (try simp only [Act.put, List.setIfInBounds_toArray, List.set_cons_zero, List.set_cons_succ, List.getElem_toArray, List.getElem_cons_zero, List.getElem_cons_succ])
                    refine wpAnyH_take (i := 10) (oi := _) (v := ?vo1cd10) rfl (by kernel_rfl) (by kernel_rfl) (by kernel_rfl) (fun _ _ _ h => h) (Or.inl ⟨by rfl, ?hyo1cd10⟩) (by assumption) ?resto1cd10
                    case hyo1cd10 => (intro w hSw; (try dsimp only at hSw); (try simp only [List.getElem_toArray, List.getElem_cons_zero, List.getElem_cons_succ]); go_simp; (try with_reducible rfl))
                    (try simp only [Act.put, List.setIfInBounds_toArray, List.set_cons_zero, List.set_cons_succ, List.getElem_toArray, List.getElem_cons_zero, List.getElem_cons_succ])
                    refine wpAnyH_ready (rs := [11]) (by kernel_rfl) (by simp) ?_
                    refine AllReadyH.cons (o := _) rfl (fun K hK => ?_) AllReadyH.nil
                    (try simp only [List.getElem_toArray, List.getElem_cons_zero, List.getElem_cons_succ])
                    (rw [if_pos (by rfl)]; refine wp_update_S _ (.tmp 91) (.tmp 95) (.tmp 101) 41 rfl 9 3 Tryz.underlying9 Tryz.underlying41 (p + 1) km (fun x => .int .i64 (g x)) rfl (by first | exact HPT.out.map | exact HPT.out.drew.map) (by rw [← HR.out]; unfold maxLen; omega) s HSM.out rfl ?_; intro w3 hm hg; have HP3 : Hid (Plays w p (p + 1 + 1) (p + 1) km g km' g' A5 c5 (rising km') none k w3) := (by show Plays _ _ _ _ _ _ _ _ _ _ _ _ _ _; have q : Plays w p (p + 1 + 1) (p + 1) km g (insKey s.data.toList km) (setAt g s.data.toList (IntKind.i64.wrap (g s.data.toList + v))) A5 c5 (rising km') none k w3 := (by first | exact HPT.out.put hm hg | exact HPT.out.drew.put hm hg); rw [bpWrap, ← HG'.out, ← HKM'.out] at q; exact q); clear hm hg)
                    refine hK.out _ _ ?_ (fun hHeld => ?_)
                    · exact RD.out _ HP3.out.below
                    clear hK K
                    (try simp only [Act.put, List.setIfInBounds_toArray, List.set_cons_zero, List.set_cons_succ, List.getElem_toArray, List.getElem_cons_zero, List.getElem_cons_succ])
                    refine wpAnyH_done (by kernel_rfl) ?_ _
                    refine NoPanic.normal ?_
                    clear lk18 lk18' c18 d18
                    have hN := HP3.out.isNames (by rw [← HR.out]; omega)
                    rw [← HR.out] at hN
                    have HN := Lib.hid hN
                    clear hN
                    go_wp2_with fail
                    refine HN.out.mono ?_
                    rintro e w4 ⟨Y, yc, rfl, q4, -⟩
                    have HP4 := Lib.hid q4.forget
                    clear q4 HN
                    go_wp2_with fail
                    have SF : Hid (∀ (w' : World) (ks : List (List UInt8)) (h : List UInt8 → Int), Plays w p (p + 1 + 1) (p + 1) ks h km' g' A5 c5 (rising km') none k w' → w'.cell? ⟨b, off + k, none⟩ = some (.string s) ∧ w'.cell? ⟨b2, off2 + k, none⟩ = some (.int .i64 v) ∧ (Instr.lookup 41 (.map (some (p + 1))) (.string s) false).run Tryz.prog w' = .ok (.int .i64 (g' s.data.toList)) w' ∧ (Instr.lookup 41 (.map (some (p + 1))) (.string ask) false).run Tryz.prog w' = .ok (.int .i64 (g' ask.data.toList)) w') := fun W ks h hW => ⟨(RD.out W hW.below).1, (RD.out W hW.below).2, hW.look HSM.out, hW.look HA.out⟩
                    have HAD : Hid (∀ W, Plays w p (p + 1 + 1) (p + 1) km g km' g' A5 c5 (rising km') none k W → Calls Tryz.prog 6 #[.pointer (some ⟨p, 0, none⟩), .string s, .int .i64 v] W fun e w' => e = .returned (.int .i64 (g' s.data.toList)) ∧ Plays w p (p + 1 + 1) (p + 1) km' g' km' g' A5 c5 (rising km') none k w') := fun W hW => by
                      have q := hW.isAdd s v HSM.out (by rw [← HR.out]; omega) hvb
                      rw [← HG'.out, ← HKM'.out, ← HGS.out] at q
                      exact q
                    have HNW : Hid (∀ (x : ByteArray) W, x.size ≤ maxLen → Plays w p (p + 1 + 1) (p + 1) km' g' km' g' A5 c5 (rising km') none k W → Calls Tryz.prog 7 #[.pointer (some ⟨p, 0, none⟩), .string x] W fun e w' => e = .returned (.int .i64 (g' x.data.toList)) ∧ Plays w p (p + 1 + 1) (p + 1) km' g' km' g' A5 c5 (rising km') none k w') := fun x W hx hW => hW.isNow x hx
                    have s20 := SF.out w4 _ _ HP4.out
                    have hgt : decide (r' < r) = false := decide_eq_false (by omega)
                    refine wp_region_noPanic ?_
                    refine wp_region_held_drew (S := fun w' => w'.cell? ⟨b, off + k, none⟩ = some (.string s) ∧ w'.cell? ⟨b2, off2 + k, none⟩ = some (.int .i64 v) ∧ (Instr.lookup 41 (.map (some (p + 1))) (.string s) false).run Tryz.prog w' = .ok (.int .i64 (g' s.data.toList)) w' ∧ (Instr.lookup 41 (.map (some (p + 1))) (.string ask) false).run Tryz.prog w' = .ok (.int .i64 (g' ask.data.toList)) w') (by kernel_rfl) (by first | exact s20 | exact SF.out _ _ _ HP4.out.drew) (fun hHeld => ?_)
                    clear s20
                    refine wpAnyH_take (i := 0) (oi := _) (v := ?vo1ce0) rfl (by kernel_rfl) (by kernel_rfl) (by kernel_rfl) (fun _ _ _ h => h) (Or.inl ⟨by rfl, ?hyo1ce0⟩) (by assumption) ?resto1ce0
                    case hyo1ce0 => (intro w hSw; (try dsimp only at hSw); (try simp only [List.getElem_toArray, List.getElem_cons_zero, List.getElem_cons_succ]); go_simp; (try with_reducible rfl))
                    (try simp only [Act.put, List.setIfInBounds_toArray, List.set_cons_zero, List.set_cons_succ, List.getElem_toArray, List.getElem_cons_zero, List.getElem_cons_succ])
                    refine wpAnyH_take (i := 1) (oi := _) (v := ?vo1ce1) rfl (by kernel_rfl) (by kernel_rfl) (by kernel_rfl) (fun _ _ _ h => h) (Or.inl ⟨by rfl, ?hyo1ce1⟩) (by assumption) ?resto1ce1
                    case hyo1ce1 => (intro w hSw; (try dsimp only at hSw); (try simp only [List.getElem_toArray, List.getElem_cons_zero, List.getElem_cons_succ]); go_simp; (try with_reducible rfl))
                    (try simp only [Act.put, List.setIfInBounds_toArray, List.set_cons_zero, List.set_cons_succ, List.getElem_toArray, List.getElem_cons_zero, List.getElem_cons_succ])
                    refine wpAnyH_take (i := 2) (oi := _) (v := ?vo1ce2) rfl (by kernel_rfl) (by kernel_rfl) (by kernel_rfl) (fun _ _ _ h => h) (Or.inl ⟨by rfl, ?hyo1ce2⟩) (by assumption) ?resto1ce2
                    case hyo1ce2 => (intro w hSw; (try dsimp only at hSw); (try simp only [List.getElem_toArray, List.getElem_cons_zero, List.getElem_cons_succ]); go_simp; (try with_reducible rfl))
                    (try simp only [Act.put, List.setIfInBounds_toArray, List.set_cons_zero, List.set_cons_succ, List.getElem_toArray, List.getElem_cons_zero, List.getElem_cons_succ])
                    refine wpAnyH_take (i := 3) (oi := _) (v := ?vo1ce3) rfl (by kernel_rfl) (by kernel_rfl) (by kernel_rfl) (fun _ _ _ h => h) (Or.inl ⟨by rfl, ?hyo1ce3⟩) (by assumption) ?resto1ce3
                    case hyo1ce3 => (intro w hSw; (try dsimp only at hSw); (try simp only [List.getElem_toArray, List.getElem_cons_zero, List.getElem_cons_succ]); go_simp; (try with_reducible rfl))
                    (try simp only [Act.put, List.setIfInBounds_toArray, List.set_cons_zero, List.set_cons_succ, List.getElem_toArray, List.getElem_cons_zero, List.getElem_cons_succ])
                    refine wpAnyH_take (i := 4) (oi := _) (v := ?vo1ce4) rfl (by kernel_rfl) (by kernel_rfl) (by kernel_rfl) (fun _ _ _ h => h) (Or.inl ⟨by rfl, ?hyo1ce4⟩) (by assumption) ?resto1ce4
                    case hyo1ce4 => (intro w hSw; (try dsimp only at hSw); (try simp only [List.getElem_toArray, List.getElem_cons_zero, List.getElem_cons_succ]); go_simp; (try with_reducible rfl))
                    (try simp only [Act.put, List.setIfInBounds_toArray, List.set_cons_zero, List.set_cons_succ, List.getElem_toArray, List.getElem_cons_zero, List.getElem_cons_succ])
                    refine wpAnyH_take (i := 5) (oi := _) (v := ?vo1ce5) rfl (by kernel_rfl) (by kernel_rfl) (by kernel_rfl) (fun _ _ _ h => h) (Or.inl ⟨by rfl, ?hyo1ce5⟩) (by assumption) ?resto1ce5
                    case hyo1ce5 => (intro w hSw; (try dsimp only at hSw); (try simp only [List.getElem_toArray, List.getElem_cons_zero, List.getElem_cons_succ]); go_simp; (try with_reducible rfl))
                    (try simp only [Act.put, List.setIfInBounds_toArray, List.set_cons_zero, List.set_cons_succ, List.getElem_toArray, List.getElem_cons_zero, List.getElem_cons_succ])
                    refine wpAnyH_take (i := 6) (oi := _) (v := ?vo1ce6) rfl (by kernel_rfl) (by kernel_rfl) (by kernel_rfl) (fun _ _ _ h => h) (Or.inl ⟨by rfl, ?hyo1ce6⟩) (by assumption) ?resto1ce6
                    case hyo1ce6 => (intro w hSw; (try dsimp only at hSw); (try simp only [List.getElem_toArray, List.getElem_cons_zero, List.getElem_cons_succ]); go_simp; (try with_reducible rfl))
                    (try simp only [Act.put, List.setIfInBounds_toArray, List.set_cons_zero, List.set_cons_succ, List.getElem_toArray, List.getElem_cons_zero, List.getElem_cons_succ])
                    refine wpAnyH_take (i := 7) (oi := _) (v := ?vo1ce7) rfl (by kernel_rfl) (by kernel_rfl) (by kernel_rfl) (fun _ _ _ h => h) (Or.inl ⟨by rfl, ?hyo1ce7⟩) (by assumption) ?resto1ce7
                    case hyo1ce7 => (intro w hSw; (try dsimp only at hSw); (try simp only [List.getElem_toArray, List.getElem_cons_zero, List.getElem_cons_succ]); go_simp; (try with_reducible rfl))
                    (try simp only [Act.put, List.setIfInBounds_toArray, List.set_cons_zero, List.set_cons_succ, List.getElem_toArray, List.getElem_cons_zero, List.getElem_cons_succ])
                    refine wpAnyH_take (i := 8) (oi := _) (v := ?vo1ce8) rfl (by kernel_rfl) (by kernel_rfl) (by kernel_rfl) (fun _ _ _ h => h) (Or.inl ⟨by rfl, ?hyo1ce8⟩) (by assumption) ?resto1ce8
                    case hyo1ce8 => (intro w hSw; (try dsimp only at hSw); (try simp only [List.getElem_toArray, List.getElem_cons_zero, List.getElem_cons_succ]); go_simp; (try with_reducible rfl))
                    (try simp only [Act.put, List.setIfInBounds_toArray, List.set_cons_zero, List.set_cons_succ, List.getElem_toArray, List.getElem_cons_zero, List.getElem_cons_succ])
                    refine wpAnyH_take (i := 10) (oi := _) (v := ?vo1ce10) rfl (by kernel_rfl) (by kernel_rfl) (by kernel_rfl) (fun _ _ _ h => h) (Or.inl ⟨by rfl, ?hyo1ce10⟩) (by assumption) ?resto1ce10
                    case hyo1ce10 => (intro w hSw; (try dsimp only at hSw); (try simp only [List.getElem_toArray, List.getElem_cons_zero, List.getElem_cons_succ]); go_simp; (try with_reducible rfl))
                    (try simp only [Act.put, List.setIfInBounds_toArray, List.set_cons_zero, List.set_cons_succ, List.getElem_toArray, List.getElem_cons_zero, List.getElem_cons_succ])
                    refine wpAnyH_take (i := 11) (oi := _) (v := ?vo1ce11) rfl (by kernel_rfl) (by kernel_rfl) (by kernel_rfl) (fun _ _ _ h => h) (Or.inl ⟨by rfl, ?hyo1ce11⟩) (by assumption) ?resto1ce11
                    case hyo1ce11 => (intro w hSw; (try dsimp only at hSw); (try simp only [List.getElem_toArray, List.getElem_cons_zero, List.getElem_cons_succ]); go_simp; (try with_reducible rfl))
                    (try simp only [Act.put, List.setIfInBounds_toArray, List.set_cons_zero, List.set_cons_succ, List.getElem_toArray, List.getElem_cons_zero, List.getElem_cons_succ])
                    refine wpAnyH_take (i := 12) (oi := _) (v := ?vo1ce12) rfl (by kernel_rfl) (by kernel_rfl) (by kernel_rfl) (fun _ _ _ h => h) (Or.inl ⟨by rfl, ?hyo1ce12⟩) (by assumption) ?resto1ce12
                    case hyo1ce12 => (intro w hSw; (try dsimp only at hSw); (try simp only [List.getElem_toArray, List.getElem_cons_zero, List.getElem_cons_succ]); go_simp; (try with_reducible rfl))
                    (try simp only [Act.put, List.setIfInBounds_toArray, List.set_cons_zero, List.set_cons_succ, List.getElem_toArray, List.getElem_cons_zero, List.getElem_cons_succ])
                    refine wpAnyH_take (i := 13) (oi := _) (v := ?vo1ce13) rfl (by kernel_rfl) (by kernel_rfl) (by kernel_rfl) (fun _ _ _ h => h) (Or.inl ⟨by rfl, ?hyo1ce13⟩) (by assumption) ?resto1ce13
                    case hyo1ce13 => (intro w hSw; (try dsimp only at hSw); (try simp only [List.getElem_toArray, List.getElem_cons_zero, List.getElem_cons_succ]); go_simp; (try with_reducible rfl))
                    (try simp only [Act.put, List.setIfInBounds_toArray, List.set_cons_zero, List.set_cons_succ, List.getElem_toArray, List.getElem_cons_zero, List.getElem_cons_succ])
                    refine wpAnyH_take (i := 14) (oi := _) (v := ?vo1ce14) rfl (by kernel_rfl) (by kernel_rfl) (by kernel_rfl) (fun _ _ _ h => h) (Or.inl ⟨by rfl, ?hyo1ce14⟩) (by assumption) ?resto1ce14
                    case hyo1ce14 => (intro w hSw; (try dsimp only at hSw); (try simp only [List.getElem_toArray, List.getElem_cons_zero, List.getElem_cons_succ]); go_simp; (try with_reducible rfl))
                    (try simp only [Act.put, List.setIfInBounds_toArray, List.set_cons_zero, List.set_cons_succ, List.getElem_toArray, List.getElem_cons_zero, List.getElem_cons_succ])
                    refine wpAnyH_take (i := 15) (oi := _) (v := ?vo1ce15) rfl (by kernel_rfl) (by kernel_rfl) (by kernel_rfl) (fun _ _ _ h => h) (Or.inl ⟨by rfl, ?hyo1ce15⟩) (by assumption) ?resto1ce15
                    case hyo1ce15 => (intro w hSw; (try dsimp only at hSw); (try simp only [List.getElem_toArray, List.getElem_cons_zero, List.getElem_cons_succ]); go_simp; (try with_reducible rfl))
                    (try simp only [Act.put, List.setIfInBounds_toArray, List.set_cons_zero, List.set_cons_succ, List.getElem_toArray, List.getElem_cons_zero, List.getElem_cons_succ])
                    refine wpAnyH_ready (rs := [9]) (by kernel_rfl) (by simp) ?_
                    refine AllReadyH.cons (o := _) rfl (fun K hK => ?_) AllReadyH.nil
                    (try simp only [List.getElem_toArray, List.getElem_cons_zero, List.getElem_cons_succ])
                    go_simp
                    (refine (HAD.out _ (by first | exact HP4.out | exact HP4.out.drew)).mono ?_; rintro e w5 ⟨rfl, qq⟩; have HP5 := Lib.hid qq; clear qq)
                    refine hK.out _ _ ?_ (fun hHeld => ?_)
                    · exact SF.out _ _ _ HP5.out
                    clear hK K
                    (try simp only [Act.put, List.setIfInBounds_toArray, List.set_cons_zero, List.set_cons_succ, List.getElem_toArray, List.getElem_cons_zero, List.getElem_cons_succ])
                    refine wpAnyH_take (i := 16) (oi := _) (v := ?vo1ce16) rfl (by kernel_rfl) (by kernel_rfl) (by kernel_rfl) (fun _ _ _ h => h) (Or.inl ⟨by rfl, ?hyo1ce16⟩) (by assumption) ?resto1ce16
                    case hyo1ce16 => (intro w hSw; (try dsimp only at hSw); (try simp only [List.getElem_toArray, List.getElem_cons_zero, List.getElem_cons_succ]); go_simp; (try with_reducible rfl))
                    (try simp only [Act.put, List.setIfInBounds_toArray, List.set_cons_zero, List.set_cons_succ, List.getElem_toArray, List.getElem_cons_zero, List.getElem_cons_succ])
                    refine wpAnyH_take (i := 17) (oi := _) (v := ?vo1ce17) rfl (by kernel_rfl) (by kernel_rfl) (by kernel_rfl) (fun _ _ _ h => h) (Or.inl ⟨by rfl, ?hyo1ce17⟩) (by assumption) ?resto1ce17
                    case hyo1ce17 => (intro w hSw; (try dsimp only at hSw); (try simp only [List.getElem_toArray, List.getElem_cons_zero, List.getElem_cons_succ]); go_simp; (try with_reducible rfl))
                    (try simp only [Act.put, List.setIfInBounds_toArray, List.set_cons_zero, List.set_cons_succ, List.getElem_toArray, List.getElem_cons_zero, List.getElem_cons_succ])
                    refine wpAnyH_take (i := 18) (oi := _) (v := ?vo1ce18) rfl (by kernel_rfl) (by kernel_rfl) (by kernel_rfl) (fun _ _ _ h => h) (Or.inl ⟨by rfl, ?hyo1ce18⟩) (by assumption) ?resto1ce18
                    case hyo1ce18 => (intro w hSw; (try dsimp only at hSw); (try simp only [List.getElem_toArray, List.getElem_cons_zero, List.getElem_cons_succ]); go_simp; (try with_reducible rfl))
                    (try simp only [Act.put, List.setIfInBounds_toArray, List.set_cons_zero, List.set_cons_succ, List.getElem_toArray, List.getElem_cons_zero, List.getElem_cons_succ])
                    refine wpAnyH_take (i := 19) (oi := _) (v := ?vo1ce19) rfl (by kernel_rfl) (by kernel_rfl) (by kernel_rfl) (fun _ _ _ h => h) (Or.inl ⟨by rfl, ?hyo1ce19⟩) (by assumption) ?resto1ce19
                    case hyo1ce19 => (intro w hSw; (try dsimp only at hSw); (try simp only [List.getElem_toArray, List.getElem_cons_zero, List.getElem_cons_succ]); go_simp; (try with_reducible rfl))
                    (try simp only [Act.put, List.setIfInBounds_toArray, List.set_cons_zero, List.set_cons_succ, List.getElem_toArray, List.getElem_cons_zero, List.getElem_cons_succ])
                    refine wpAnyH_take (i := 20) (oi := _) (v := ?vo1ce20) rfl (by kernel_rfl) (by kernel_rfl) (by kernel_rfl) (fun _ _ _ h => h) (Or.inl ⟨by rfl, ?hyo1ce20⟩) (by assumption) ?resto1ce20
                    case hyo1ce20 => (intro w hSw; (try dsimp only at hSw); (try simp only [List.getElem_toArray, List.getElem_cons_zero, List.getElem_cons_succ]); go_simp; (try with_reducible rfl))
                    (try simp only [Act.put, List.setIfInBounds_toArray, List.set_cons_zero, List.set_cons_succ, List.getElem_toArray, List.getElem_cons_zero, List.getElem_cons_succ])
                    refine wpAnyH_take (i := 21) (oi := _) (v := ?vo1ce21) rfl (by kernel_rfl) (by kernel_rfl) (by kernel_rfl) (fun _ _ _ h => h) (Or.inl ⟨by rfl, ?hyo1ce21⟩) (by assumption) ?resto1ce21
                    case hyo1ce21 => (intro w hSw; (try dsimp only at hSw); (try simp only [List.getElem_toArray, List.getElem_cons_zero, List.getElem_cons_succ]); go_simp; (try with_reducible rfl))
                    (try simp only [Act.put, List.setIfInBounds_toArray, List.set_cons_zero, List.set_cons_succ, List.getElem_toArray, List.getElem_cons_zero, List.getElem_cons_succ])
                    refine wpAnyH_take (i := 22) (oi := _) (v := ?vo1ce22) rfl (by kernel_rfl) (by kernel_rfl) (by kernel_rfl) (fun _ _ _ h => h) (Or.inl ⟨by rfl, ?hyo1ce22⟩) (by assumption) ?resto1ce22
                    case hyo1ce22 => (intro w hSw; (try dsimp only at hSw); (try simp only [List.getElem_toArray, List.getElem_cons_zero, List.getElem_cons_succ]); go_simp; (try with_reducible rfl))
                    (try simp only [Act.put, List.setIfInBounds_toArray, List.set_cons_zero, List.set_cons_succ, List.getElem_toArray, List.getElem_cons_zero, List.getElem_cons_succ])
                    refine wpAnyH_take (i := 24) (oi := _) (v := ?vo1ce24) rfl (by kernel_rfl) (by kernel_rfl) (by kernel_rfl) (fun _ _ _ h => h) (Or.inl ⟨by rfl, ?hyo1ce24⟩) (by assumption) ?resto1ce24
                    case hyo1ce24 => (intro w hSw; (try dsimp only at hSw); (try simp only [List.getElem_toArray, List.getElem_cons_zero, List.getElem_cons_succ]); go_simp; (try with_reducible rfl))
                    (try simp only [Act.put, List.setIfInBounds_toArray, List.set_cons_zero, List.set_cons_succ, List.getElem_toArray, List.getElem_cons_zero, List.getElem_cons_succ])
                    refine wpAnyH_take (i := 25) (oi := _) (v := ?vo1ce25) rfl (by kernel_rfl) (by kernel_rfl) (by kernel_rfl) (fun _ _ _ h => h) (Or.inl ⟨by rfl, ?hyo1ce25⟩) (by assumption) ?resto1ce25
                    case hyo1ce25 => (intro w hSw; (try dsimp only at hSw); (try simp only [List.getElem_toArray, List.getElem_cons_zero, List.getElem_cons_succ]); go_simp; (try with_reducible rfl))
                    (try simp only [Act.put, List.setIfInBounds_toArray, List.set_cons_zero, List.set_cons_succ, List.getElem_toArray, List.getElem_cons_zero, List.getElem_cons_succ])
                    refine wpAnyH_take (i := 26) (oi := _) (v := ?vo1ce26) rfl (by kernel_rfl) (by kernel_rfl) (by kernel_rfl) (fun _ _ _ h => h) (Or.inl ⟨by rfl, ?hyo1ce26⟩) (by assumption) ?resto1ce26
                    case hyo1ce26 => (intro w hSw; (try dsimp only at hSw); (try simp only [List.getElem_toArray, List.getElem_cons_zero, List.getElem_cons_succ]); go_simp; (try with_reducible rfl))
                    (try simp only [Act.put, List.setIfInBounds_toArray, List.set_cons_zero, List.set_cons_succ, List.getElem_toArray, List.getElem_cons_zero, List.getElem_cons_succ])
                    refine wpAnyH_take (i := 27) (oi := _) (v := ?vo1ce27) rfl (by kernel_rfl) (by kernel_rfl) (by kernel_rfl) (fun _ _ _ h => h) (Or.inl ⟨by rfl, ?hyo1ce27⟩) (by assumption) ?resto1ce27
                    case hyo1ce27 => (intro w hSw; (try dsimp only at hSw); (try simp only [List.getElem_toArray, List.getElem_cons_zero, List.getElem_cons_succ]); go_simp; (try with_reducible rfl))
                    (try simp only [Act.put, List.setIfInBounds_toArray, List.set_cons_zero, List.set_cons_succ, List.getElem_toArray, List.getElem_cons_zero, List.getElem_cons_succ])
                    refine wpAnyH_take (i := 28) (oi := _) (v := ?vo1ce28) rfl (by kernel_rfl) (by kernel_rfl) (by kernel_rfl) (fun _ _ _ h => h) (Or.inl ⟨by rfl, ?hyo1ce28⟩) (by assumption) ?resto1ce28
                    case hyo1ce28 => (intro w hSw; (try dsimp only at hSw); (try simp only [List.getElem_toArray, List.getElem_cons_zero, List.getElem_cons_succ]); go_simp; (try with_reducible rfl))
                    (try simp only [Act.put, List.setIfInBounds_toArray, List.set_cons_zero, List.set_cons_succ, List.getElem_toArray, List.getElem_cons_zero, List.getElem_cons_succ])
                    refine wpAnyH_take (i := 29) (oi := _) (v := ?vo1ce29) rfl (by kernel_rfl) (by kernel_rfl) (by kernel_rfl) (fun _ _ _ h => h) (Or.inl ⟨by rfl, ?hyo1ce29⟩) (by assumption) ?resto1ce29
                    case hyo1ce29 => (intro w hSw; (try dsimp only at hSw); (try simp only [List.getElem_toArray, List.getElem_cons_zero, List.getElem_cons_succ]); go_simp; (try with_reducible rfl))
                    (try simp only [Act.put, List.setIfInBounds_toArray, List.set_cons_zero, List.set_cons_succ, List.getElem_toArray, List.getElem_cons_zero, List.getElem_cons_succ])
                    refine wpAnyH_ready (rs := [23]) (by kernel_rfl) (by simp) ?_
                    refine AllReadyH.cons (o := _) rfl (fun K hK => ?_) AllReadyH.nil
                    (try simp only [List.getElem_toArray, List.getElem_cons_zero, List.getElem_cons_succ])
                    go_simp
                    (refine (HNW.out s _ HSM.out (by first | exact HP5.out | exact HP5.out.drew)).mono ?_; rintro e w6 ⟨rfl, qq⟩; have HP6 := Lib.hid qq; clear qq)
                    refine hK.out _ _ ?_ (fun hHeld => ?_)
                    · exact SF.out _ _ _ HP6.out
                    clear hK K
                    (try simp only [Act.put, List.setIfInBounds_toArray, List.set_cons_zero, List.set_cons_succ, List.getElem_toArray, List.getElem_cons_zero, List.getElem_cons_succ])
                    refine wpAnyH_take (i := 30) (oi := _) (v := ?vo1ce30) rfl (by kernel_rfl) (by kernel_rfl) (by kernel_rfl) (fun _ _ _ h => h) (Or.inl ⟨by rfl, ?hyo1ce30⟩) (by assumption) ?resto1ce30
                    case hyo1ce30 => (intro w hSw; (try dsimp only at hSw); (try simp only [List.getElem_toArray, List.getElem_cons_zero, List.getElem_cons_succ]); go_simp; (try with_reducible rfl))
                    (try simp only [Act.put, List.setIfInBounds_toArray, List.set_cons_zero, List.set_cons_succ, List.getElem_toArray, List.getElem_cons_zero, List.getElem_cons_succ])
                    refine wpAnyH_take (i := 31) (oi := _) (v := ?vo1ce31) rfl (by kernel_rfl) (by kernel_rfl) (by kernel_rfl) (fun _ _ _ h => h) (Or.inl ⟨by rfl, ?hyo1ce31⟩) (by assumption) ?resto1ce31
                    case hyo1ce31 => (intro w hSw; (try dsimp only at hSw); (try simp only [List.getElem_toArray, List.getElem_cons_zero, List.getElem_cons_succ]); go_simp; (try with_reducible rfl))
                    (try simp only [Act.put, List.setIfInBounds_toArray, List.set_cons_zero, List.set_cons_succ, List.getElem_toArray, List.getElem_cons_zero, List.getElem_cons_succ])
                    refine wpAnyH_take (i := 32) (oi := _) (v := ?vo1ce32) rfl (by kernel_rfl) (by kernel_rfl) (by kernel_rfl) (fun _ _ _ h => h) (Or.inl ⟨by rfl, ?hyo1ce32⟩) (by assumption) ?resto1ce32
                    case hyo1ce32 => (intro w hSw; (try dsimp only at hSw); (try simp only [List.getElem_toArray, List.getElem_cons_zero, List.getElem_cons_succ]); go_simp; (try with_reducible rfl))
                    (try simp only [Act.put, List.setIfInBounds_toArray, List.set_cons_zero, List.set_cons_succ, List.getElem_toArray, List.getElem_cons_zero, List.getElem_cons_succ])
                    refine wpAnyH_take (i := 33) (oi := _) (v := ?vo1ce33) rfl (by kernel_rfl) (by kernel_rfl) (by kernel_rfl) (fun _ _ _ h => h) (Or.inl ⟨by rfl, ?hyo1ce33⟩) (by assumption) ?resto1ce33
                    case hyo1ce33 => (intro w hSw; (try dsimp only at hSw); (try simp only [List.getElem_toArray, List.getElem_cons_zero, List.getElem_cons_succ]); go_simp; (try with_reducible rfl))
                    (try simp only [Act.put, List.setIfInBounds_toArray, List.set_cons_zero, List.set_cons_succ, List.getElem_toArray, List.getElem_cons_zero, List.getElem_cons_succ])
                    refine wpAnyH_take (i := 34) (oi := _) (v := ?vo1ce34) rfl (by kernel_rfl) (by kernel_rfl) (by kernel_rfl) (fun _ _ _ h => h) (Or.inl ⟨by rfl, ?hyo1ce34⟩) (by assumption) ?resto1ce34
                    case hyo1ce34 => (intro w hSw; (try dsimp only at hSw); (try simp only [List.getElem_toArray, List.getElem_cons_zero, List.getElem_cons_succ]); go_simp; (try with_reducible rfl))
                    (try simp only [Act.put, List.setIfInBounds_toArray, List.set_cons_zero, List.set_cons_succ, List.getElem_toArray, List.getElem_cons_zero, List.getElem_cons_succ])
                    refine wpAnyH_take (i := 36) (oi := _) (v := ?vo1ce36) rfl (by kernel_rfl) (by kernel_rfl) (by kernel_rfl) (fun _ _ _ h => h) (Or.inl ⟨by rfl, ?hyo1ce36⟩) (by assumption) ?resto1ce36
                    case hyo1ce36 => (intro w hSw; (try dsimp only at hSw); (try simp only [List.getElem_toArray, List.getElem_cons_zero, List.getElem_cons_succ]); go_simp; (try with_reducible rfl))
                    (try simp only [Act.put, List.setIfInBounds_toArray, List.set_cons_zero, List.set_cons_succ, List.getElem_toArray, List.getElem_cons_zero, List.getElem_cons_succ])
                    refine wpAnyH_take (i := 37) (oi := _) (v := ?vo1ce37) rfl (by kernel_rfl) (by kernel_rfl) (by kernel_rfl) (fun _ _ _ h => h) (Or.inl ⟨by rfl, ?hyo1ce37⟩) (by assumption) ?resto1ce37
                    case hyo1ce37 => (intro w hSw; (try dsimp only at hSw); (try simp only [List.getElem_toArray, List.getElem_cons_zero, List.getElem_cons_succ]); go_simp; (try with_reducible rfl))
                    (try simp only [Act.put, List.setIfInBounds_toArray, List.set_cons_zero, List.set_cons_succ, List.getElem_toArray, List.getElem_cons_zero, List.getElem_cons_succ])
                    refine wpAnyH_take (i := 38) (oi := _) (v := ?vo1ce38) rfl (by kernel_rfl) (by kernel_rfl) (by kernel_rfl) (fun _ _ _ h => h) (Or.inl ⟨by rfl, ?hyo1ce38⟩) (by assumption) ?resto1ce38
                    case hyo1ce38 => (intro w hSw; (try dsimp only at hSw); (try simp only [List.getElem_toArray, List.getElem_cons_zero, List.getElem_cons_succ]); go_simp; (try with_reducible rfl))
                    (try simp only [Act.put, List.setIfInBounds_toArray, List.set_cons_zero, List.set_cons_succ, List.getElem_toArray, List.getElem_cons_zero, List.getElem_cons_succ])
                    refine wpAnyH_ready (rs := [35]) (by kernel_rfl) (by simp) ?_
                    refine AllReadyH.cons (o := _) rfl (fun K hK => ?_) AllReadyH.nil
                    (try simp only [List.getElem_toArray, List.getElem_cons_zero, List.getElem_cons_succ])
                    go_simp
                    (refine (HNW.out ask _ HA.out (by first | exact HP6.out | exact HP6.out.drew)).mono ?_; rintro e w7 ⟨rfl, qq⟩; have HP7 := Lib.hid qq; clear qq)
                    refine hK.out _ _ ?_ (fun hHeld => ?_)
                    · exact SF.out _ _ _ HP7.out
                    clear hK K
                    (try simp only [Act.put, List.setIfInBounds_toArray, List.set_cons_zero, List.set_cons_succ, List.getElem_toArray, List.getElem_cons_zero, List.getElem_cons_succ])
                    refine wpAnyH_take (i := 39) (oi := _) (v := ?vo1ce39) rfl (by kernel_rfl) (by kernel_rfl) (by kernel_rfl) (fun _ _ _ h => h) (Or.inl ⟨by rfl, ?hyo1ce39⟩) (by assumption) ?resto1ce39
                    case hyo1ce39 => (intro w hSw; (try dsimp only at hSw); (try simp only [List.getElem_toArray, List.getElem_cons_zero, List.getElem_cons_succ]); go_simp; (try with_reducible rfl))
                    (try simp only [Act.put, List.setIfInBounds_toArray, List.set_cons_zero, List.set_cons_succ, List.getElem_toArray, List.getElem_cons_zero, List.getElem_cons_succ])
                    refine wpAnyH_take (i := 40) (oi := _) (v := ?vo1ce40) rfl (by kernel_rfl) (by kernel_rfl) (by kernel_rfl) (fun _ _ _ h => h) (Or.inl ⟨by rfl, ?hyo1ce40⟩) (by assumption) ?resto1ce40
                    case hyo1ce40 => (intro w hSw; (try dsimp only at hSw); (try simp only [List.getElem_toArray, List.getElem_cons_zero, List.getElem_cons_succ]); go_simp; (try with_reducible rfl))
                    (try simp only [Act.put, List.setIfInBounds_toArray, List.set_cons_zero, List.set_cons_succ, List.getElem_toArray, List.getElem_cons_zero, List.getElem_cons_succ])
                    refine wpAnyH_take (i := 41) (oi := _) (v := ?vo1ce41) rfl (by kernel_rfl) (by kernel_rfl) (by kernel_rfl) (fun _ _ _ h => h) (Or.inl ⟨by rfl, ?hyo1ce41⟩) (by assumption) ?resto1ce41
                    case hyo1ce41 => (intro w hSw; (try dsimp only at hSw); (try simp only [List.getElem_toArray, List.getElem_cons_zero, List.getElem_cons_succ]); go_simp; (try with_reducible rfl))
                    (try simp only [Act.put, List.setIfInBounds_toArray, List.set_cons_zero, List.set_cons_succ, List.getElem_toArray, List.getElem_cons_zero, List.getElem_cons_succ])
                    refine wpAnyH_take (i := 42) (oi := _) (v := ?vo1ce42) rfl (by kernel_rfl) (by kernel_rfl) (by kernel_rfl) (fun _ _ _ h => h) (Or.inl ⟨by rfl, ?hyo1ce42⟩) (by assumption) ?resto1ce42
                    case hyo1ce42 => (intro w hSw; (try dsimp only at hSw); (try simp only [List.getElem_toArray, List.getElem_cons_zero, List.getElem_cons_succ]); go_simp; (try with_reducible rfl))
                    (try simp only [Act.put, List.setIfInBounds_toArray, List.set_cons_zero, List.set_cons_succ, List.getElem_toArray, List.getElem_cons_zero, List.getElem_cons_succ])
                    refine wpAnyH_take (i := 43) (oi := _) (v := ?vo1ce43) rfl (by kernel_rfl) (by kernel_rfl) (by kernel_rfl) (fun _ _ _ h => h) (Or.inl ⟨by rfl, ?hyo1ce43⟩) (by assumption) ?resto1ce43
                    case hyo1ce43 => (intro w hSw; (try dsimp only at hSw); (try simp only [List.getElem_toArray, List.getElem_cons_zero, List.getElem_cons_succ]); go_simp; (try with_reducible rfl))
                    (try simp only [Act.put, List.setIfInBounds_toArray, List.set_cons_zero, List.set_cons_succ, List.getElem_toArray, List.getElem_cons_zero, List.getElem_cons_succ])
                    refine wpAnyH_take (i := 44) (oi := _) (v := ?vo1ce44) rfl (by kernel_rfl) (by kernel_rfl) (by kernel_rfl) (fun _ _ _ h => h) (Or.inl ⟨by rfl, ?hyo1ce44⟩) (by assumption) ?resto1ce44
                    case hyo1ce44 => (intro w hSw; (try dsimp only at hSw); (try simp only [List.getElem_toArray, List.getElem_cons_zero, List.getElem_cons_succ]); go_simp; (try with_reducible rfl))
                    (try simp only [Act.put, List.setIfInBounds_toArray, List.set_cons_zero, List.set_cons_succ, List.getElem_toArray, List.getElem_cons_zero, List.getElem_cons_succ])
                    refine wpAnyH_take (i := 45) (oi := _) (v := ?vo1ce45) rfl (by kernel_rfl) (by kernel_rfl) (by kernel_rfl) (fun _ _ _ h => h) (Or.inl ⟨by rfl, ?hyo1ce45⟩) (by assumption) ?resto1ce45
                    case hyo1ce45 => (intro w hSw; (try dsimp only at hSw); (try simp only [List.getElem_toArray, List.getElem_cons_zero, List.getElem_cons_succ]); go_simp; (try with_reducible rfl))
                    (try simp only [Act.put, List.setIfInBounds_toArray, List.set_cons_zero, List.set_cons_succ, List.getElem_toArray, List.getElem_cons_zero, List.getElem_cons_succ])
                    refine wpAnyH_take (i := 46) (oi := _) (v := ?vo1ce46) rfl (by kernel_rfl) (by kernel_rfl) (by kernel_rfl) (fun _ _ _ h => h) (Or.inl ⟨by rfl, ?hyo1ce46⟩) (by assumption) ?resto1ce46
                    case hyo1ce46 => (intro w hSw; (try dsimp only at hSw); (try simp only [List.getElem_toArray, List.getElem_cons_zero, List.getElem_cons_succ]); go_simp; (try with_reducible rfl))
                    (try simp only [Act.put, List.setIfInBounds_toArray, List.set_cons_zero, List.set_cons_succ, List.getElem_toArray, List.getElem_cons_zero, List.getElem_cons_succ])
                    refine wpAnyH_take (i := 47) (oi := _) (v := ?vo1ce47) rfl (by kernel_rfl) (by kernel_rfl) (by kernel_rfl) (fun _ _ _ h => h) (Or.inl ⟨by rfl, ?hyo1ce47⟩) (by assumption) ?resto1ce47
                    case hyo1ce47 => (intro w hSw; (try dsimp only at hSw); (try simp only [List.getElem_toArray, List.getElem_cons_zero, List.getElem_cons_succ]); go_simp; (try with_reducible rfl))
                    (try simp only [Act.put, List.setIfInBounds_toArray, List.set_cons_zero, List.set_cons_succ, List.getElem_toArray, List.getElem_cons_zero, List.getElem_cons_succ])
                    refine wpAnyH_done (by kernel_rfl) ?_ _
                    refine NoPanic.normal ?_
                    clear SF HAD HNW hgt
                    have hN := HP7.out.isNames (by rw [← HR'.out]; omega)
                    rw [← HR'.out] at hN
                    have HN := Lib.hid hN
                    clear hN
                    go_wp2_with fail
                    refine HN.out.mono ?_
                    rintro e w8 ⟨Y8, yc8, rfl, q8, b8⟩
                    have HP8 := Lib.hid q8
                    have HB8 := Lib.hid b8
                    clear q8 b8 HN
                    go_wp2_with fail
                    refine (HP8.out.isTexts r' yc8 (rising km') HB8.out (by omega) (by omega)).mono ?_
                    rintro e w9 ⟨rfl, q9, b9⟩
                    have HP9 := Lib.hid q9
                    have HB9 := Lib.hid b9
                    clear q9 b9
                    have HSA : Hid (Calls Tryz.prog 9 #[.slice Y8 r' yc8, .slice A5 r' c5] w9 fun e w' => e = .returned (.bool true) ∧ ∃ k, w' = w9.drewN k) := by
                      have q1 := HB9.out.src
                      have q2 := HP9.out.ord.src
                      rw [rising_length, ← HR'.out] at q2
                      exact same_Texts Y8 A5 r' yc8 c5 ((rising km').map fun x => ⟨x.toArray⟩) w9 (by rw [List.map_map]; exact q1) (by rw [List.map_map]; exact q2) (by omega)
                    go_wp2_with fail
                    refine HSA.out.mono ?_
                    rintro e w10 ⟨rfl, kq, rfl⟩
                    have HPE := Lib.hid (HP9.out.drewN kq)
                    go_wp2_with fail
                    go_roundw
                    case rel => exact ⟨k + 1, r', A5, c5, km', g', by go_num, rfl, by omega, by omega, HR', K1, C1, HPE⟩
                    case measure => simp [intOf]; omega

            · have HHI : Hid (∀ z, (rising km)[j]? = some z → ¬ z < s.data.toList) := fun z hz => by
                rw [List.getElem?_eq_none (by rw [rising_length, ← HR.out]; omega)] at hz; cases hz
              have hd3 : decide (j < r) = false := by simpa using hjr
              go_wp2_with fail
              go_quiet (fail)
              go_wp2_with fail
              obtain ⟨wq, hwq⟩ : ∃ wq, wq = wr.drewN nq := ⟨_, rfl⟩
              have HPQ : Hid (Plays w p (p + 1 + 1) (p + 1) km g km g O oc (rising km) none k wq) := by show Plays _ _ _ _ _ _ _ _ _ _ _ _ _ _; rw [hwq]; exact HPJ.out.drewN nq
              have HOJ : Hid (Buf wq O r oc ((rising km).map encStr)) := by have := HPQ.out.ord; rw [rising_length, ← HR.out] at this; exact this
              rw [← hwq]
              clear hwq
              have r1 := (RD.out wq HPQ.out.below).1
              have hjr2 : j ≤ r := by omega
              have SLO := Lib.hid (buf_start HOJ.out j hjr2)
              obtain ⟨OC, hOC⟩ : ∃ x : Option Addr, x = (if oc = j then O else Option.map (fun x : Addr => x.add j) (O : Option Addr)) := ⟨_, rfl⟩
              have SHI : Hid (Src wq OC (r - j) (((rising km).drop j).map encStr)) := by show Src _ _ _ _; rw [hOC]; exact buf_end HOJ.out j hjr2
              have HOC := Lib.hid hOC
              clear hOC
              have hjo : ((j : Int) ≤ (r : Int)) := by omega
              have hjc : ((j : Int) ≤ (oc : Int)) := by have := HOJ.out.le; omega
              have hj0' : (0 : Int) ≤ (j : Int) := by omega
              have hlk : ((rising km).take j).length = j := by rw [List.length_take, rising_length, ← HR.out]; omega
              have hld : ((rising km).drop j).length = r - j := by rw [List.length_drop, rising_length, ← HR.out]
              have HLK := Lib.hid hlk
              have HLD := Lib.hid hld
              have hoc := HOJ.out.cm
              clear hlk hld
              refine wp_region_noPanic ?_
              refine wp_region_held_drew (S := fun w' => w'.cell? ⟨b, off + k, none⟩ = some (.string s) ∧ w'.cell? ⟨b, off + k, none⟩ = some (.string s)) (by kernel_rfl) ⟨r1, r1⟩ (fun hHeld => ?_)
              refine wpAnyH_take (i := 0) (oi := _) (v := ?vo2a0) rfl (by kernel_rfl) (by kernel_rfl) (by kernel_rfl) (fun _ _ _ h => h) (Or.inl ⟨by rfl, ?hyo2a0⟩) (by assumption) ?resto2a0
              case hyo2a0 => (intro w hSw; (try dsimp only at hSw); (try simp only [List.getElem_toArray, List.getElem_cons_zero, List.getElem_cons_succ]); go_simp; (try with_reducible rfl))
              (try simp only [Act.put, List.setIfInBounds_toArray, List.set_cons_zero, List.set_cons_succ, List.getElem_toArray, List.getElem_cons_zero, List.getElem_cons_succ])
              refine wpAnyH_take (i := 1) (oi := _) (v := ?vo2a1) rfl (by kernel_rfl) (by kernel_rfl) (by kernel_rfl) (fun _ _ _ h => h) (Or.inl ⟨by rfl, ?hyo2a1⟩) (by assumption) ?resto2a1
              case hyo2a1 => (intro w hSw; (try dsimp only at hSw); (try simp only [List.getElem_toArray, List.getElem_cons_zero, List.getElem_cons_succ]); go_simp; (try with_reducible rfl))
              (try simp only [Act.put, List.setIfInBounds_toArray, List.set_cons_zero, List.set_cons_succ, List.getElem_toArray, List.getElem_cons_zero, List.getElem_cons_succ])
              refine wpAnyH_take (i := 2) (oi := _) (v := ?vo2a2) rfl (by kernel_rfl) (by kernel_rfl) (by kernel_rfl) (fun _ _ _ h => h) (Or.inl ⟨by rfl, ?hyo2a2⟩) (by assumption) ?resto2a2
              case hyo2a2 => (intro w hSw; (try dsimp only at hSw); (try simp only [List.getElem_toArray, List.getElem_cons_zero, List.getElem_cons_succ]); go_simp; (try with_reducible rfl))
              (try simp only [Act.put, List.setIfInBounds_toArray, List.set_cons_zero, List.set_cons_succ, List.getElem_toArray, List.getElem_cons_zero, List.getElem_cons_succ])
              refine wpAnyH_take (i := 4) (oi := _) (v := ?vo2a4) rfl (by kernel_rfl) (by kernel_rfl) (by kernel_rfl) (fun _ _ _ h => h) (Or.inl ⟨by rfl, ?hyo2a4⟩) (by assumption) ?resto2a4
              case hyo2a4 => (intro w hSw; (try dsimp only at hSw); (try simp only [List.getElem_toArray, List.getElem_cons_zero, List.getElem_cons_succ]); go_simp; (try with_reducible rfl))
              (try simp only [Act.put, List.setIfInBounds_toArray, List.set_cons_zero, List.set_cons_succ, List.getElem_toArray, List.getElem_cons_zero, List.getElem_cons_succ])
              refine wpAnyH_take (i := 5) (oi := _) (v := ?vo2a5) rfl (by kernel_rfl) (by kernel_rfl) (by kernel_rfl) (fun _ _ _ h => h) (Or.inl ⟨by rfl, ?hyo2a5⟩) (by assumption) ?resto2a5
              case hyo2a5 => (intro w hSw; (try dsimp only at hSw); (try simp only [List.getElem_toArray, List.getElem_cons_zero, List.getElem_cons_succ]); go_simp; (try with_reducible rfl))
              (try simp only [Act.put, List.setIfInBounds_toArray, List.set_cons_zero, List.set_cons_succ, List.getElem_toArray, List.getElem_cons_zero, List.getElem_cons_succ])
              refine wpAnyH_take (i := 6) (oi := _) (v := ?vo2a6) rfl (by kernel_rfl) (by kernel_rfl) (by kernel_rfl) (fun _ _ _ h => h) (Or.inl ⟨by rfl, ?hyo2a6⟩) (by assumption) ?resto2a6
              case hyo2a6 => (intro w hSw; (try dsimp only at hSw); (try simp only [List.getElem_toArray, List.getElem_cons_zero, List.getElem_cons_succ]); go_simp; (try with_reducible rfl))
              (try simp only [Act.put, List.setIfInBounds_toArray, List.set_cons_zero, List.set_cons_succ, List.getElem_toArray, List.getElem_cons_zero, List.getElem_cons_succ])
              refine wpAnyH_take (i := 7) (oi := _) (v := ?vo2a7) rfl (by kernel_rfl) (by kernel_rfl) (by kernel_rfl) (fun _ _ _ h => h) (Or.inl ⟨by rfl, ?hyo2a7⟩) (by assumption) ?resto2a7
              case hyo2a7 => (intro w hSw; (try dsimp only at hSw); (try simp only [List.getElem_toArray, List.getElem_cons_zero, List.getElem_cons_succ]); go_simp; (try with_reducible rfl))
              (try simp only [Act.put, List.setIfInBounds_toArray, List.set_cons_zero, List.set_cons_succ, List.getElem_toArray, List.getElem_cons_zero, List.getElem_cons_succ])
              refine wpAnyH_take (i := 10) (oi := _) (v := ?vo2a10) rfl (by kernel_rfl) (by kernel_rfl) (by kernel_rfl) (fun _ _ _ h => h) (Or.inl ⟨by rfl, ?hyo2a10⟩) (by assumption) ?resto2a10
              case hyo2a10 => (intro w hSw; (try dsimp only at hSw); (try simp only [List.getElem_toArray, List.getElem_cons_zero, List.getElem_cons_succ]); go_simp; (try with_reducible rfl))
              (try simp only [Act.put, List.setIfInBounds_toArray, List.set_cons_zero, List.set_cons_succ, List.getElem_toArray, List.getElem_cons_zero, List.getElem_cons_succ])
              refine wpAnyH_take (i := 11) (oi := _) (v := ?vo2a11) rfl (by kernel_rfl) (by kernel_rfl) (by kernel_rfl) (fun _ _ _ h => h) (Or.inl ⟨by rfl, ?hyo2a11⟩) (by assumption) ?resto2a11
              case hyo2a11 => (intro w hSw; (try dsimp only at hSw); (try simp only [List.getElem_toArray, List.getElem_cons_zero, List.getElem_cons_succ]); go_simp; (try with_reducible rfl))
              (try simp only [Act.put, List.setIfInBounds_toArray, List.set_cons_zero, List.set_cons_succ, List.getElem_toArray, List.getElem_cons_zero, List.getElem_cons_succ])
              refine wpAnyH_take (i := 12) (oi := _) (v := .slice OC (r - j) (oc - j)) rfl (by kernel_rfl) (by kernel_rfl) (by kernel_rfl) (fun _ _ _ h => h) (Or.inl ⟨by rfl, ?hyo2a12⟩) (by assumption) ?resto2a12
              case hyo2a12 => (intro w hSw; (try dsimp only at hSw); (try simp only [List.getElem_toArray, List.getElem_cons_zero, List.getElem_cons_succ]); go_simp; (first | rfl | (simp [HOC.out]; done) | (simp [HOC.out, add_mk]; done)))
              (try simp only [Act.put, List.setIfInBounds_toArray, List.set_cons_zero, List.set_cons_succ, List.getElem_toArray, List.getElem_cons_zero, List.getElem_cons_succ])
              refine wpAnyH_ready (rs := [3, 8]) (by kernel_rfl) (by simp) ?_
              refine AllReadyH.cons (o := _) rfl (fun K hK => ?_) (AllReadyH.cons (o := _) rfl (fun K hK => ?_) AllReadyH.nil)
              · (try simp only [List.getElem_toArray, List.getElem_cons_zero, List.getElem_cons_succ])
                (rw [if_pos (by rfl)]; refine wp_append_buf _ (.const (.slice none 0 0)) (.tmp 79) 22 rfl 9 i0 (.string .empty) 16 Tryz.underlying22 hi0 hz0 hz1 hz2 rfl rfl (Buf.nil _) (((rising km).take j).map encStr) rfl (SLO.out.of_keep ((Keep.refl (fun _ => False) wq).drew) (fun _ _ x => x)) (one_enc _) (by unfold maxLen; omega) (by omega) ?_; intro A3 c3 w3 a3 k3 p3; have Q3 : Hid (Buf w3 A3 j c3 (((rising km).take j).map encStr)) := (by have := a3; rw [Nat.zero_add, List.nil_append] at this; exact this); have KP3 := Lib.hid k3; have P3 := Lib.hid p3; clear a3 k3 p3)
                refine hK.out _ _ ?_ (fun hHeld => ?_)
                · exact ⟨(RD.out _ (HPQ.out.keep (((Keep.refl (fun _ => False) wq).drew).trans KP3.out (fun _ _ x => by simp [blk] at x))).below).1, (RD.out _ (HPQ.out.keep (((Keep.refl (fun _ => False) wq).drew).trans KP3.out (fun _ _ x => by simp [blk] at x))).below).1⟩
                clear hK K
                (try simp only [Act.put, List.setIfInBounds_toArray, List.set_cons_zero, List.set_cons_succ, List.getElem_toArray, List.getElem_cons_zero, List.getElem_cons_succ])
                refine wpAnyH_ready (rs := [8]) (by kernel_rfl) (by simp) ?_
                refine AllReadyH.cons (o := _) rfl (fun K hK => ?_) AllReadyH.nil
                (try simp only [List.getElem_toArray, List.getElem_cons_zero, List.getElem_cons_succ])
                go_simp
                refine hK.out _ _ ?_ (fun hHeld => ?_)
                · exact ⟨(RD.out _ (HPQ.out.keep ((((Keep.refl (fun _ => False) wq).drew).trans KP3.out (fun _ _ x => by simp [blk] at x)).alloc _)).below).1, (RD.out _ (HPQ.out.keep ((((Keep.refl (fun _ => False) wq).drew).trans KP3.out (fun _ _ x => by simp [blk] at x)).alloc _)).below).1⟩
                clear hK K
                (try simp only [Act.put, List.setIfInBounds_toArray, List.set_cons_zero, List.set_cons_succ, List.getElem_toArray, List.getElem_cons_zero, List.getElem_cons_succ])
                refine wpAnyH_ready (rs := [9]) (by kernel_rfl) (by simp) ?_
                refine AllReadyH.cons (o := _) rfl (fun K hK => ?_) AllReadyH.nil
                (try simp only [List.getElem_toArray, List.getElem_cons_zero, List.getElem_cons_succ])
                (rw [if_pos (by rfl)]; refine wp_append_buf _ (.tmp 80) (.tmp 85) 22 rfl 9 i0 (.string .empty) 16 Tryz.underlying22 hi0 hz0 hz1 hz2 rfl rfl (by first | exact Q3.out.keep ((Keep.refl (fun _ => False) _).alloc _) (fun _ _ x => x) | (rw [Nat.zero_add]; exact Q3.out.keep ((Keep.refl (fun _ => False) _).alloc _) (fun _ _ x => x))) [.string s] rfl (src_one _ _ _ rfl) (by simp [Value.oneCell']) (by unfold maxLen; omega) (by omega) ?_; intro A4 c4 w4 a4 k4 p4; have Q4 := Lib.hid a4; have KP4 := Lib.hid k4; have P4 := Lib.hid p4; clear a4 k4 p4)
                refine hK.out _ _ ?_ (fun hHeld => ?_)
                · exact ⟨(RD.out _ (HPQ.out.keep (three_appends ((Keep.refl (fun _ => False) wq).drew) KP3.out P3.out ((Keep.refl (fun _ => False) _).alloc _) KP4.out P4.out).1.2).below).1, (RD.out _ (HPQ.out.keep (three_appends ((Keep.refl (fun _ => False) wq).drew) KP3.out P3.out ((Keep.refl (fun _ => False) _).alloc _) KP4.out P4.out).1.2).below).1⟩
                clear hK K
                (try simp only [Act.put, List.setIfInBounds_toArray, List.set_cons_zero, List.set_cons_succ, List.getElem_toArray, List.getElem_cons_zero, List.getElem_cons_succ])
                refine wpAnyH_ready (rs := [13]) (by kernel_rfl) (by simp) ?_
                refine AllReadyH.cons (o := _) rfl (fun K hK => ?_) AllReadyH.nil
                (try simp only [List.getElem_toArray, List.getElem_cons_zero, List.getElem_cons_succ])
                (rw [if_pos (by rfl)]; refine wp_append_buf _ (.tmp 86) (.tmp 89) 22 rfl 9 i0 (.string .empty) 16 Tryz.underlying22 hi0 hz0 hz1 hz2 rfl rfl Q4.out (((rising km).drop j).map encStr) rfl (by have q := SHI.out.of_keep (three_appends ((Keep.refl (fun _ => False) wq).drew) KP3.out P3.out ((Keep.refl (fun _ => False) _).alloc _) KP4.out P4.out).1.2 (fun _ _ x => x); first | exact q | simpa [add_mk] using q) (one_enc _) (by unfold maxLen; omega) (by omega) ?_; intro A5 c5 w5 a5 k5 p5; have F5 := Lib.hid ((three_appends ((Keep.refl (fun _ => False) wq).drew) KP3.out P3.out ((Keep.refl (fun _ => False) _).alloc _) KP4.out P4.out).2 _ _ k5 p5); have Q5 := Lib.hid a5; clear a5 k5 p5)
                refine hK.out _ _ ?_ (fun hHeld => ?_)
                · exact ⟨(RD.out _ (HPQ.out.keep F5.out.1).below).1, (RD.out _ (HPQ.out.keep F5.out.1).below).1⟩
                clear hK K
                (try simp only [Act.put, List.setIfInBounds_toArray, List.set_cons_zero, List.set_cons_succ, List.getElem_toArray, List.getElem_cons_zero, List.getElem_cons_succ])
                refine wpAnyH_take (i := 14) (oi := _) (v := ?vo2b14) rfl (by kernel_rfl) (by kernel_rfl) (by kernel_rfl) (fun _ _ _ h => h) (Or.inl ⟨by rfl, ?hyo2b14⟩) (by assumption) ?resto2b14
                case hyo2b14 => (intro w hSw; (try dsimp only at hSw); (try simp only [List.getElem_toArray, List.getElem_cons_zero, List.getElem_cons_succ]); go_simp; (try with_reducible rfl))
                (try simp only [Act.put, List.setIfInBounds_toArray, List.set_cons_zero, List.set_cons_succ, List.getElem_toArray, List.getElem_cons_zero, List.getElem_cons_succ])
                refine wpAnyH_done (by kernel_rfl) ?_ _
                have eL : ((rising km').map encStr) = (((rising km).take j).map encStr) ++ [.string s] ++ (((rising km).drop j).map encStr) := by
                  rw [HKM'.out, rising_insert HIN.out HLO.out HHI.out, List.map_append, List.map_append]
                  simp [encStr]
                have q5 := Q5.out
                rw [← eL] at q5
                have n5 := q5.len
                rw [List.length_map, rising_length, ← HR'.out] at n5
                have HPT : Hid (Plays w p (p + 1 + 1) (p + 1) km g km g A5 c5 (rising km') none k w5) := HPQ.out.order F5.out.1 (by rw [rising_length, ← HR'.out, n5]; exact q5) F5.out.2
                have n6 : j + 1 + (r - j) = r' := by omega
                refine NoPanic.normal ?_
                (try rw [n6])
                (try rw [← n5])
                clear eL q5 n5 n6 r1 hjr2 hjo hjc hj0' hoc
                go_wp2_with fail
                as_aux_lemma =>
                  have hkm : ((k : Int) < (m : Int)) := by omega
                  have hkn : ((k : Int) < (n : Int)) := by omega
                  have hk0' : (0 : Int) ≤ (k : Int) := by omega
                  have lk18 := HPT.out.look HSM.out
                  have lk18' := HPT.out.drew.look HSM.out
                  obtain ⟨c18, d18⟩ := RD.out _ HPT.out.below
                  refine wp_region_noPanic ?_
                  refine wp_region_held_drew (S := fun w' => w'.cell? ⟨b, off + k, none⟩ = some (.string s) ∧ w'.cell? ⟨b2, off2 + k, none⟩ = some (.int .i64 v)) (by kernel_rfl) ⟨c18, d18⟩ (fun hHeld => ?_)
                  refine wpAnyH_take (i := 0) (oi := _) (v := ?vo2bd0) rfl (by kernel_rfl) (by kernel_rfl) (by kernel_rfl) (fun _ _ _ h => h) (Or.inl ⟨by rfl, ?hyo2bd0⟩) (by assumption) ?resto2bd0
                  case hyo2bd0 => (intro w hSw; (try dsimp only at hSw); (try simp only [List.getElem_toArray, List.getElem_cons_zero, List.getElem_cons_succ]); go_simp; (try with_reducible rfl))
                  (try simp only [Act.put, List.setIfInBounds_toArray, List.set_cons_zero, List.set_cons_succ, List.getElem_toArray, List.getElem_cons_zero, List.getElem_cons_succ])
                  refine wpAnyH_take (i := 1) (oi := _) (v := ?vo2bd1) rfl (by kernel_rfl) (by kernel_rfl) (by kernel_rfl) (fun _ _ _ h => h) (Or.inl ⟨by rfl, ?hyo2bd1⟩) (by assumption) ?resto2bd1
                  case hyo2bd1 => (intro w hSw; (try dsimp only at hSw); (try simp only [List.getElem_toArray, List.getElem_cons_zero, List.getElem_cons_succ]); go_simp; (try with_reducible rfl))
                  (try simp only [Act.put, List.setIfInBounds_toArray, List.set_cons_zero, List.set_cons_succ, List.getElem_toArray, List.getElem_cons_zero, List.getElem_cons_succ])
                  refine wpAnyH_take (i := 2) (oi := _) (v := ?vo2bd2) rfl (by kernel_rfl) (by kernel_rfl) (by kernel_rfl) (fun _ _ _ h => h) (Or.inl ⟨by rfl, ?hyo2bd2⟩) (by assumption) ?resto2bd2
                  case hyo2bd2 => (intro w hSw; (try dsimp only at hSw); (try simp only [List.getElem_toArray, List.getElem_cons_zero, List.getElem_cons_succ]); go_simp; (try with_reducible rfl))
                  (try simp only [Act.put, List.setIfInBounds_toArray, List.set_cons_zero, List.set_cons_succ, List.getElem_toArray, List.getElem_cons_zero, List.getElem_cons_succ])
                  refine wpAnyH_take (i := 3) (oi := _) (v := ?vo2bd3) rfl (by kernel_rfl) (by kernel_rfl) (by kernel_rfl) (fun _ _ _ h => h) (Or.inl ⟨by rfl, ?hyo2bd3⟩) (by assumption) ?resto2bd3
                  case hyo2bd3 => (intro w hSw; (try dsimp only at hSw); (try simp only [List.getElem_toArray, List.getElem_cons_zero, List.getElem_cons_succ]); go_simp; (try with_reducible rfl))
                  (try simp only [Act.put, List.setIfInBounds_toArray, List.set_cons_zero, List.set_cons_succ, List.getElem_toArray, List.getElem_cons_zero, List.getElem_cons_succ])
                  refine wpAnyH_take (i := 4) (oi := _) (v := ?vo2bd4) rfl (by kernel_rfl) (by kernel_rfl) (by kernel_rfl) (fun _ _ _ h => h) (Or.inl ⟨by rfl, ?hyo2bd4⟩) (by assumption) ?resto2bd4
                  case hyo2bd4 => (intro w hSw; (try dsimp only at hSw); (try simp only [List.getElem_toArray, List.getElem_cons_zero, List.getElem_cons_succ]); go_simp; (try with_reducible rfl))
                  (try simp only [Act.put, List.setIfInBounds_toArray, List.set_cons_zero, List.set_cons_succ, List.getElem_toArray, List.getElem_cons_zero, List.getElem_cons_succ])
                  refine wpAnyH_take (i := 6) (oi := _) (v := ?vo2bd6) rfl (by kernel_rfl) (by kernel_rfl) (by kernel_rfl) (fun _ _ _ h => h) (Or.inl ⟨by rfl, ?hyo2bd6⟩) (by assumption) ?resto2bd6
                  case hyo2bd6 => (intro w hSw; (try dsimp only at hSw); (try simp only [List.getElem_toArray, List.getElem_cons_zero, List.getElem_cons_succ]); go_simp; (try with_reducible rfl))
                  (try simp only [Act.put, List.setIfInBounds_toArray, List.set_cons_zero, List.set_cons_succ, List.getElem_toArray, List.getElem_cons_zero, List.getElem_cons_succ])
                  refine wpAnyH_take (i := 7) (oi := _) (v := ?vo2bd7) rfl (by kernel_rfl) (by kernel_rfl) (by kernel_rfl) (fun _ _ _ h => h) (Or.inl ⟨by rfl, ?hyo2bd7⟩) (by assumption) ?resto2bd7
                  case hyo2bd7 => (intro w hSw; (try dsimp only at hSw); (try simp only [List.getElem_toArray, List.getElem_cons_zero, List.getElem_cons_succ]); go_simp; (try with_reducible rfl))
                  (try simp only [Act.put, List.setIfInBounds_toArray, List.set_cons_zero, List.set_cons_succ, List.getElem_toArray, List.getElem_cons_zero, List.getElem_cons_succ])
                  refine wpAnyH_take (i := 8) (oi := _) (v := ?vo2bd8) rfl (by kernel_rfl) (by kernel_rfl) (by kernel_rfl) (fun _ _ _ h => h) (Or.inl ⟨by rfl, ?hyo2bd8⟩) (by assumption) ?resto2bd8
                  case hyo2bd8 => (intro w hSw; (try dsimp only at hSw); (try simp only [List.getElem_toArray, List.getElem_cons_zero, List.getElem_cons_succ]); go_simp; (try with_reducible rfl))
                  (try simp only [Act.put, List.setIfInBounds_toArray, List.set_cons_zero, List.set_cons_succ, List.getElem_toArray, List.getElem_cons_zero, List.getElem_cons_succ])
                  refine wpAnyH_take (i := 9) (oi := _) (v := ?vo2bd9) rfl (by kernel_rfl) (by kernel_rfl) (by kernel_rfl) (fun _ _ _ h => h) (Or.inl ⟨by rfl, ?hyo2bd9⟩) (by assumption) ?resto2bd9
                  case hyo2bd9 => (intro w hSw; (try dsimp only at hSw); (try simp only [List.getElem_toArray, List.getElem_cons_zero, List.getElem_cons_succ]); go_simp; (try with_reducible rfl))
                  (try simp only [Act.put, List.setIfInBounds_toArray, List.set_cons_zero, List.set_cons_succ, List.getElem_toArray, List.getElem_cons_zero, List.getElem_cons_succ])
                  refine wpAnyH_ready (rs := [5]) (by kernel_rfl) (by simp) ?_
                  refine AllReadyH.cons (o := _) rfl (fun K hK => ?_) AllReadyH.nil
                  (try simp only [List.getElem_toArray, List.getElem_cons_zero, List.getElem_cons_succ])
                  go_simp
                  refine hK.out _ _ ?_ (fun hHeld => ?_)
                  · exact ⟨c18, d18⟩
                  clear hK K
                  (try simp only [Act.put, List.setIfInBounds_toArray, List.set_cons_zero, List.set_cons_succ, List.getElem_toArray, List.getElem_cons_zero, List.getElem_cons_succ])
                  refine wpAnyH_take (i := 10) (oi := _) (v := ?vo2bd10) rfl (by kernel_rfl) (by kernel_rfl) (by kernel_rfl) (fun _ _ _ h => h) (Or.inl ⟨by rfl, ?hyo2bd10⟩) (by assumption) ?resto2bd10
                  case hyo2bd10 => (intro w hSw; (try dsimp only at hSw); (try simp only [List.getElem_toArray, List.getElem_cons_zero, List.getElem_cons_succ]); go_simp; (try with_reducible rfl))
                  (try simp only [Act.put, List.setIfInBounds_toArray, List.set_cons_zero, List.set_cons_succ, List.getElem_toArray, List.getElem_cons_zero, List.getElem_cons_succ])
                  refine wpAnyH_ready (rs := [11]) (by kernel_rfl) (by simp) ?_
                  refine AllReadyH.cons (o := _) rfl (fun K hK => ?_) AllReadyH.nil
                  (try simp only [List.getElem_toArray, List.getElem_cons_zero, List.getElem_cons_succ])
                  (rw [if_pos (by rfl)]; refine wp_update_S _ (.tmp 91) (.tmp 95) (.tmp 101) 41 rfl 9 3 Tryz.underlying9 Tryz.underlying41 (p + 1) km (fun x => .int .i64 (g x)) rfl (by first | exact HPT.out.map | exact HPT.out.drew.map) (by rw [← HR.out]; unfold maxLen; omega) s HSM.out rfl ?_; intro w3 hm hg; have HP3 : Hid (Plays w p (p + 1 + 1) (p + 1) km g km' g' A5 c5 (rising km') none k w3) := (by show Plays _ _ _ _ _ _ _ _ _ _ _ _ _ _; have q : Plays w p (p + 1 + 1) (p + 1) km g (insKey s.data.toList km) (setAt g s.data.toList (IntKind.i64.wrap (g s.data.toList + v))) A5 c5 (rising km') none k w3 := (by first | exact HPT.out.put hm hg | exact HPT.out.drew.put hm hg); rw [bpWrap, ← HG'.out, ← HKM'.out] at q; exact q); clear hm hg)
                  refine hK.out _ _ ?_ (fun hHeld => ?_)
                  · exact RD.out _ HP3.out.below
                  clear hK K
                  (try simp only [Act.put, List.setIfInBounds_toArray, List.set_cons_zero, List.set_cons_succ, List.getElem_toArray, List.getElem_cons_zero, List.getElem_cons_succ])
                  refine wpAnyH_done (by kernel_rfl) ?_ _
                  refine NoPanic.normal ?_
                  clear lk18 lk18' c18 d18
                  have hN := HP3.out.isNames (by rw [← HR.out]; omega)
                  rw [← HR.out] at hN
                  have HN := Lib.hid hN
                  clear hN
                  go_wp2_with fail
                  refine HN.out.mono ?_
                  rintro e w4 ⟨Y, yc, rfl, q4, -⟩
                  have HP4 := Lib.hid q4.forget
                  clear q4 HN
                  go_wp2_with fail
                  have SF : Hid (∀ (w' : World) (ks : List (List UInt8)) (h : List UInt8 → Int), Plays w p (p + 1 + 1) (p + 1) ks h km' g' A5 c5 (rising km') none k w' → w'.cell? ⟨b, off + k, none⟩ = some (.string s) ∧ w'.cell? ⟨b2, off2 + k, none⟩ = some (.int .i64 v) ∧ (Instr.lookup 41 (.map (some (p + 1))) (.string s) false).run Tryz.prog w' = .ok (.int .i64 (g' s.data.toList)) w' ∧ (Instr.lookup 41 (.map (some (p + 1))) (.string ask) false).run Tryz.prog w' = .ok (.int .i64 (g' ask.data.toList)) w') := fun W ks h hW => ⟨(RD.out W hW.below).1, (RD.out W hW.below).2, hW.look HSM.out, hW.look HA.out⟩
                  have HAD : Hid (∀ W, Plays w p (p + 1 + 1) (p + 1) km g km' g' A5 c5 (rising km') none k W → Calls Tryz.prog 6 #[.pointer (some ⟨p, 0, none⟩), .string s, .int .i64 v] W fun e w' => e = .returned (.int .i64 (g' s.data.toList)) ∧ Plays w p (p + 1 + 1) (p + 1) km' g' km' g' A5 c5 (rising km') none k w') := fun W hW => by
                    have q := hW.isAdd s v HSM.out (by rw [← HR.out]; omega) hvb
                    rw [← HG'.out, ← HKM'.out, ← HGS.out] at q
                    exact q
                  have HNW : Hid (∀ (x : ByteArray) W, x.size ≤ maxLen → Plays w p (p + 1 + 1) (p + 1) km' g' km' g' A5 c5 (rising km') none k W → Calls Tryz.prog 7 #[.pointer (some ⟨p, 0, none⟩), .string x] W fun e w' => e = .returned (.int .i64 (g' x.data.toList)) ∧ Plays w p (p + 1 + 1) (p + 1) km' g' km' g' A5 c5 (rising km') none k w') := fun x W hx hW => hW.isNow x hx
                  have s20 := SF.out w4 _ _ HP4.out
                  have hgt : decide (r' < r) = false := decide_eq_false (by omega)
                  refine wp_region_noPanic ?_
                  refine wp_region_held_drew (S := fun w' => w'.cell? ⟨b, off + k, none⟩ = some (.string s) ∧ w'.cell? ⟨b2, off2 + k, none⟩ = some (.int .i64 v) ∧ (Instr.lookup 41 (.map (some (p + 1))) (.string s) false).run Tryz.prog w' = .ok (.int .i64 (g' s.data.toList)) w' ∧ (Instr.lookup 41 (.map (some (p + 1))) (.string ask) false).run Tryz.prog w' = .ok (.int .i64 (g' ask.data.toList)) w') (by kernel_rfl) (by first | exact s20 | exact SF.out _ _ _ HP4.out.drew) (fun hHeld => ?_)
                  clear s20
                  refine wpAnyH_take (i := 0) (oi := _) (v := ?vo2be0) rfl (by kernel_rfl) (by kernel_rfl) (by kernel_rfl) (fun _ _ _ h => h) (Or.inl ⟨by rfl, ?hyo2be0⟩) (by assumption) ?resto2be0
                  case hyo2be0 => (intro w hSw; (try dsimp only at hSw); (try simp only [List.getElem_toArray, List.getElem_cons_zero, List.getElem_cons_succ]); go_simp; (try with_reducible rfl))
                  (try simp only [Act.put, List.setIfInBounds_toArray, List.set_cons_zero, List.set_cons_succ, List.getElem_toArray, List.getElem_cons_zero, List.getElem_cons_succ])
                  refine wpAnyH_take (i := 1) (oi := _) (v := ?vo2be1) rfl (by kernel_rfl) (by kernel_rfl) (by kernel_rfl) (fun _ _ _ h => h) (Or.inl ⟨by rfl, ?hyo2be1⟩) (by assumption) ?resto2be1
                  case hyo2be1 => (intro w hSw; (try dsimp only at hSw); (try simp only [List.getElem_toArray, List.getElem_cons_zero, List.getElem_cons_succ]); go_simp; (try with_reducible rfl))
                  (try simp only [Act.put, List.setIfInBounds_toArray, List.set_cons_zero, List.set_cons_succ, List.getElem_toArray, List.getElem_cons_zero, List.getElem_cons_succ])
                  refine wpAnyH_take (i := 2) (oi := _) (v := ?vo2be2) rfl (by kernel_rfl) (by kernel_rfl) (by kernel_rfl) (fun _ _ _ h => h) (Or.inl ⟨by rfl, ?hyo2be2⟩) (by assumption) ?resto2be2
                  case hyo2be2 => (intro w hSw; (try dsimp only at hSw); (try simp only [List.getElem_toArray, List.getElem_cons_zero, List.getElem_cons_succ]); go_simp; (try with_reducible rfl))
                  (try simp only [Act.put, List.setIfInBounds_toArray, List.set_cons_zero, List.set_cons_succ, List.getElem_toArray, List.getElem_cons_zero, List.getElem_cons_succ])
                  refine wpAnyH_take (i := 3) (oi := _) (v := ?vo2be3) rfl (by kernel_rfl) (by kernel_rfl) (by kernel_rfl) (fun _ _ _ h => h) (Or.inl ⟨by rfl, ?hyo2be3⟩) (by assumption) ?resto2be3
                  case hyo2be3 => (intro w hSw; (try dsimp only at hSw); (try simp only [List.getElem_toArray, List.getElem_cons_zero, List.getElem_cons_succ]); go_simp; (try with_reducible rfl))
                  (try simp only [Act.put, List.setIfInBounds_toArray, List.set_cons_zero, List.set_cons_succ, List.getElem_toArray, List.getElem_cons_zero, List.getElem_cons_succ])
                  refine wpAnyH_take (i := 4) (oi := _) (v := ?vo2be4) rfl (by kernel_rfl) (by kernel_rfl) (by kernel_rfl) (fun _ _ _ h => h) (Or.inl ⟨by rfl, ?hyo2be4⟩) (by assumption) ?resto2be4
                  case hyo2be4 => (intro w hSw; (try dsimp only at hSw); (try simp only [List.getElem_toArray, List.getElem_cons_zero, List.getElem_cons_succ]); go_simp; (try with_reducible rfl))
                  (try simp only [Act.put, List.setIfInBounds_toArray, List.set_cons_zero, List.set_cons_succ, List.getElem_toArray, List.getElem_cons_zero, List.getElem_cons_succ])
                  refine wpAnyH_take (i := 5) (oi := _) (v := ?vo2be5) rfl (by kernel_rfl) (by kernel_rfl) (by kernel_rfl) (fun _ _ _ h => h) (Or.inl ⟨by rfl, ?hyo2be5⟩) (by assumption) ?resto2be5
                  case hyo2be5 => (intro w hSw; (try dsimp only at hSw); (try simp only [List.getElem_toArray, List.getElem_cons_zero, List.getElem_cons_succ]); go_simp; (try with_reducible rfl))
                  (try simp only [Act.put, List.setIfInBounds_toArray, List.set_cons_zero, List.set_cons_succ, List.getElem_toArray, List.getElem_cons_zero, List.getElem_cons_succ])
                  refine wpAnyH_take (i := 6) (oi := _) (v := ?vo2be6) rfl (by kernel_rfl) (by kernel_rfl) (by kernel_rfl) (fun _ _ _ h => h) (Or.inl ⟨by rfl, ?hyo2be6⟩) (by assumption) ?resto2be6
                  case hyo2be6 => (intro w hSw; (try dsimp only at hSw); (try simp only [List.getElem_toArray, List.getElem_cons_zero, List.getElem_cons_succ]); go_simp; (try with_reducible rfl))
                  (try simp only [Act.put, List.setIfInBounds_toArray, List.set_cons_zero, List.set_cons_succ, List.getElem_toArray, List.getElem_cons_zero, List.getElem_cons_succ])
                  refine wpAnyH_take (i := 7) (oi := _) (v := ?vo2be7) rfl (by kernel_rfl) (by kernel_rfl) (by kernel_rfl) (fun _ _ _ h => h) (Or.inl ⟨by rfl, ?hyo2be7⟩) (by assumption) ?resto2be7
                  case hyo2be7 => (intro w hSw; (try dsimp only at hSw); (try simp only [List.getElem_toArray, List.getElem_cons_zero, List.getElem_cons_succ]); go_simp; (try with_reducible rfl))
                  (try simp only [Act.put, List.setIfInBounds_toArray, List.set_cons_zero, List.set_cons_succ, List.getElem_toArray, List.getElem_cons_zero, List.getElem_cons_succ])
                  refine wpAnyH_take (i := 8) (oi := _) (v := ?vo2be8) rfl (by kernel_rfl) (by kernel_rfl) (by kernel_rfl) (fun _ _ _ h => h) (Or.inl ⟨by rfl, ?hyo2be8⟩) (by assumption) ?resto2be8
                  case hyo2be8 => (intro w hSw; (try dsimp only at hSw); (try simp only [List.getElem_toArray, List.getElem_cons_zero, List.getElem_cons_succ]); go_simp; (try with_reducible rfl))
                  (try simp only [Act.put, List.setIfInBounds_toArray, List.set_cons_zero, List.set_cons_succ, List.getElem_toArray, List.getElem_cons_zero, List.getElem_cons_succ])
                  refine wpAnyH_take (i := 10) (oi := _) (v := ?vo2be10) rfl (by kernel_rfl) (by kernel_rfl) (by kernel_rfl) (fun _ _ _ h => h) (Or.inl ⟨by rfl, ?hyo2be10⟩) (by assumption) ?resto2be10
                  case hyo2be10 => (intro w hSw; (try dsimp only at hSw); (try simp only [List.getElem_toArray, List.getElem_cons_zero, List.getElem_cons_succ]); go_simp; (try with_reducible rfl))
                  (try simp only [Act.put, List.setIfInBounds_toArray, List.set_cons_zero, List.set_cons_succ, List.getElem_toArray, List.getElem_cons_zero, List.getElem_cons_succ])
                  refine wpAnyH_take (i := 11) (oi := _) (v := ?vo2be11) rfl (by kernel_rfl) (by kernel_rfl) (by kernel_rfl) (fun _ _ _ h => h) (Or.inl ⟨by rfl, ?hyo2be11⟩) (by assumption) ?resto2be11
                  case hyo2be11 => (intro w hSw; (try dsimp only at hSw); (try simp only [List.getElem_toArray, List.getElem_cons_zero, List.getElem_cons_succ]); go_simp; (try with_reducible rfl))
                  (try simp only [Act.put, List.setIfInBounds_toArray, List.set_cons_zero, List.set_cons_succ, List.getElem_toArray, List.getElem_cons_zero, List.getElem_cons_succ])
                  refine wpAnyH_take (i := 12) (oi := _) (v := ?vo2be12) rfl (by kernel_rfl) (by kernel_rfl) (by kernel_rfl) (fun _ _ _ h => h) (Or.inl ⟨by rfl, ?hyo2be12⟩) (by assumption) ?resto2be12
                  case hyo2be12 => (intro w hSw; (try dsimp only at hSw); (try simp only [List.getElem_toArray, List.getElem_cons_zero, List.getElem_cons_succ]); go_simp; (try with_reducible rfl))
                  (try simp only [Act.put, List.setIfInBounds_toArray, List.set_cons_zero, List.set_cons_succ, List.getElem_toArray, List.getElem_cons_zero, List.getElem_cons_succ])
                  refine wpAnyH_take (i := 13) (oi := _) (v := ?vo2be13) rfl (by kernel_rfl) (by kernel_rfl) (by kernel_rfl) (fun _ _ _ h => h) (Or.inl ⟨by rfl, ?hyo2be13⟩) (by assumption) ?resto2be13
                  case hyo2be13 => (intro w hSw; (try dsimp only at hSw); (try simp only [List.getElem_toArray, List.getElem_cons_zero, List.getElem_cons_succ]); go_simp; (try with_reducible rfl))
                  (try simp only [Act.put, List.setIfInBounds_toArray, List.set_cons_zero, List.set_cons_succ, List.getElem_toArray, List.getElem_cons_zero, List.getElem_cons_succ])
                  refine wpAnyH_take (i := 14) (oi := _) (v := ?vo2be14) rfl (by kernel_rfl) (by kernel_rfl) (by kernel_rfl) (fun _ _ _ h => h) (Or.inl ⟨by rfl, ?hyo2be14⟩) (by assumption) ?resto2be14
                  case hyo2be14 => (intro w hSw; (try dsimp only at hSw); (try simp only [List.getElem_toArray, List.getElem_cons_zero, List.getElem_cons_succ]); go_simp; (try with_reducible rfl))
                  (try simp only [Act.put, List.setIfInBounds_toArray, List.set_cons_zero, List.set_cons_succ, List.getElem_toArray, List.getElem_cons_zero, List.getElem_cons_succ])
                  refine wpAnyH_take (i := 15) (oi := _) (v := ?vo2be15) rfl (by kernel_rfl) (by kernel_rfl) (by kernel_rfl) (fun _ _ _ h => h) (Or.inl ⟨by rfl, ?hyo2be15⟩) (by assumption) ?resto2be15
                  case hyo2be15 => (intro w hSw; (try dsimp only at hSw); (try simp only [List.getElem_toArray, List.getElem_cons_zero, List.getElem_cons_succ]); go_simp; (try with_reducible rfl))
                  (try simp only [Act.put, List.setIfInBounds_toArray, List.set_cons_zero, List.set_cons_succ, List.getElem_toArray, List.getElem_cons_zero, List.getElem_cons_succ])
                  refine wpAnyH_ready (rs := [9]) (by kernel_rfl) (by simp) ?_
                  refine AllReadyH.cons (o := _) rfl (fun K hK => ?_) AllReadyH.nil
                  (try simp only [List.getElem_toArray, List.getElem_cons_zero, List.getElem_cons_succ])
                  go_simp
                  (refine (HAD.out _ (by first | exact HP4.out | exact HP4.out.drew)).mono ?_; rintro e w5 ⟨rfl, qq⟩; have HP5 := Lib.hid qq; clear qq)
                  refine hK.out _ _ ?_ (fun hHeld => ?_)
                  · exact SF.out _ _ _ HP5.out
                  clear hK K
                  (try simp only [Act.put, List.setIfInBounds_toArray, List.set_cons_zero, List.set_cons_succ, List.getElem_toArray, List.getElem_cons_zero, List.getElem_cons_succ])
                  refine wpAnyH_take (i := 16) (oi := _) (v := ?vo2be16) rfl (by kernel_rfl) (by kernel_rfl) (by kernel_rfl) (fun _ _ _ h => h) (Or.inl ⟨by rfl, ?hyo2be16⟩) (by assumption) ?resto2be16
                  case hyo2be16 => (intro w hSw; (try dsimp only at hSw); (try simp only [List.getElem_toArray, List.getElem_cons_zero, List.getElem_cons_succ]); go_simp; (try with_reducible rfl))
                  (try simp only [Act.put, List.setIfInBounds_toArray, List.set_cons_zero, List.set_cons_succ, List.getElem_toArray, List.getElem_cons_zero, List.getElem_cons_succ])
                  refine wpAnyH_take (i := 17) (oi := _) (v := ?vo2be17) rfl (by kernel_rfl) (by kernel_rfl) (by kernel_rfl) (fun _ _ _ h => h) (Or.inl ⟨by rfl, ?hyo2be17⟩) (by assumption) ?resto2be17
                  case hyo2be17 => (intro w hSw; (try dsimp only at hSw); (try simp only [List.getElem_toArray, List.getElem_cons_zero, List.getElem_cons_succ]); go_simp; (try with_reducible rfl))
                  (try simp only [Act.put, List.setIfInBounds_toArray, List.set_cons_zero, List.set_cons_succ, List.getElem_toArray, List.getElem_cons_zero, List.getElem_cons_succ])
                  refine wpAnyH_take (i := 18) (oi := _) (v := ?vo2be18) rfl (by kernel_rfl) (by kernel_rfl) (by kernel_rfl) (fun _ _ _ h => h) (Or.inl ⟨by rfl, ?hyo2be18⟩) (by assumption) ?resto2be18
                  case hyo2be18 => (intro w hSw; (try dsimp only at hSw); (try simp only [List.getElem_toArray, List.getElem_cons_zero, List.getElem_cons_succ]); go_simp; (try with_reducible rfl))
                  (try simp only [Act.put, List.setIfInBounds_toArray, List.set_cons_zero, List.set_cons_succ, List.getElem_toArray, List.getElem_cons_zero, List.getElem_cons_succ])
                  refine wpAnyH_take (i := 19) (oi := _) (v := ?vo2be19) rfl (by kernel_rfl) (by kernel_rfl) (by kernel_rfl) (fun _ _ _ h => h) (Or.inl ⟨by rfl, ?hyo2be19⟩) (by assumption) ?resto2be19
                  case hyo2be19 => (intro w hSw; (try dsimp only at hSw); (try simp only [List.getElem_toArray, List.getElem_cons_zero, List.getElem_cons_succ]); go_simp; (try with_reducible rfl))
                  (try simp only [Act.put, List.setIfInBounds_toArray, List.set_cons_zero, List.set_cons_succ, List.getElem_toArray, List.getElem_cons_zero, List.getElem_cons_succ])
                  refine wpAnyH_take (i := 20) (oi := _) (v := ?vo2be20) rfl (by kernel_rfl) (by kernel_rfl) (by kernel_rfl) (fun _ _ _ h => h) (Or.inl ⟨by rfl, ?hyo2be20⟩) (by assumption) ?resto2be20
                  case hyo2be20 => (intro w hSw; (try dsimp only at hSw); (try simp only [List.getElem_toArray, List.getElem_cons_zero, List.getElem_cons_succ]); go_simp; (try with_reducible rfl))
                  (try simp only [Act.put, List.setIfInBounds_toArray, List.set_cons_zero, List.set_cons_succ, List.getElem_toArray, List.getElem_cons_zero, List.getElem_cons_succ])
                  refine wpAnyH_take (i := 21) (oi := _) (v := ?vo2be21) rfl (by kernel_rfl) (by kernel_rfl) (by kernel_rfl) (fun _ _ _ h => h) (Or.inl ⟨by rfl, ?hyo2be21⟩) (by assumption) ?resto2be21
                  case hyo2be21 => (intro w hSw; (try dsimp only at hSw); (try simp only [List.getElem_toArray, List.getElem_cons_zero, List.getElem_cons_succ]); go_simp; (try with_reducible rfl))
                  (try simp only [Act.put, List.setIfInBounds_toArray, List.set_cons_zero, List.set_cons_succ, List.getElem_toArray, List.getElem_cons_zero, List.getElem_cons_succ])
                  refine wpAnyH_take (i := 22) (oi := _) (v := ?vo2be22) rfl (by kernel_rfl) (by kernel_rfl) (by kernel_rfl) (fun _ _ _ h => h) (Or.inl ⟨by rfl, ?hyo2be22⟩) (by assumption) ?resto2be22
                  case hyo2be22 => (intro w hSw; (try dsimp only at hSw); (try simp only [List.getElem_toArray, List.getElem_cons_zero, List.getElem_cons_succ]); go_simp; (try with_reducible rfl))
                  (try simp only [Act.put, List.setIfInBounds_toArray, List.set_cons_zero, List.set_cons_succ, List.getElem_toArray, List.getElem_cons_zero, List.getElem_cons_succ])
                  refine wpAnyH_take (i := 24) (oi := _) (v := ?vo2be24) rfl (by kernel_rfl) (by kernel_rfl) (by kernel_rfl) (fun _ _ _ h => h) (Or.inl ⟨by rfl, ?hyo2be24⟩) (by assumption) ?resto2be24
                  case hyo2be24 => (intro w hSw; (try dsimp only at hSw); (try simp only [List.getElem_toArray, List.getElem_cons_zero, List.getElem_cons_succ]); go_simp; (try with_reducible rfl))
                  (try simp only [Act.put, List.setIfInBounds_toArray, List.set_cons_zero, List.set_cons_succ, List.getElem_toArray, List.getElem_cons_zero, List.getElem_cons_succ])
                  refine wpAnyH_take (i := 25) (oi := _) (v := ?vo2be25) rfl (by kernel_rfl) (by kernel_rfl) (by kernel_rfl) (fun _ _ _ h => h) (Or.inl ⟨by rfl, ?hyo2be25⟩) (by assumption) ?resto2be25
                  case hyo2be25 => (intro w hSw; (try dsimp only at hSw); (try simp only [List.getElem_toArray, List.getElem_cons_zero, List.getElem_cons_succ]); go_simp; (try with_reducible rfl))
                  (try simp only [Act.put, List.setIfInBounds_toArray, List.set_cons_zero, List.set_cons_succ, List.getElem_toArray, List.getElem_cons_zero, List.getElem_cons_succ])
                  refine wpAnyH_take (i := 26) (oi := _) (v := ?vo2be26) rfl (by kernel_rfl) (by kernel_rfl) (by kernel_rfl) (fun _ _ _ h => h) (Or.inl ⟨by rfl, ?hyo2be26⟩) (by assumption) ?resto2be26
                  case hyo2be26 => (intro w hSw; (try dsimp only at hSw); (try simp only [List.getElem_toArray, List.getElem_cons_zero, List.getElem_cons_succ]); go_simp; (try with_reducible rfl))
                  (try simp only [Act.put, List.setIfInBounds_toArray, List.set_cons_zero, List.set_cons_succ, List.getElem_toArray, List.getElem_cons_zero, List.getElem_cons_succ])
                  refine wpAnyH_take (i := 27) (oi := _) (v := ?vo2be27) rfl (by kernel_rfl) (by kernel_rfl) (by kernel_rfl) (fun _ _ _ h => h) (Or.inl ⟨by rfl, ?hyo2be27⟩) (by assumption) ?resto2be27
                  case hyo2be27 => (intro w hSw; (try dsimp only at hSw); (try simp only [List.getElem_toArray, List.getElem_cons_zero, List.getElem_cons_succ]); go_simp; (try with_reducible rfl))
                  (try simp only [Act.put, List.setIfInBounds_toArray, List.set_cons_zero, List.set_cons_succ, List.getElem_toArray, List.getElem_cons_zero, List.getElem_cons_succ])
                  refine wpAnyH_take (i := 28) (oi := _) (v := ?vo2be28) rfl (by kernel_rfl) (by kernel_rfl) (by kernel_rfl) (fun _ _ _ h => h) (Or.inl ⟨by rfl, ?hyo2be28⟩) (by assumption) ?resto2be28
                  case hyo2be28 => (intro w hSw; (try dsimp only at hSw); (try simp only [List.getElem_toArray, List.getElem_cons_zero, List.getElem_cons_succ]); go_simp; (try with_reducible rfl))
                  (try simp only [Act.put, List.setIfInBounds_toArray, List.set_cons_zero, List.set_cons_succ, List.getElem_toArray, List.getElem_cons_zero, List.getElem_cons_succ])
                  refine wpAnyH_take (i := 29) (oi := _) (v := ?vo2be29) rfl (by kernel_rfl) (by kernel_rfl) (by kernel_rfl) (fun _ _ _ h => h) (Or.inl ⟨by rfl, ?hyo2be29⟩) (by assumption) ?resto2be29
                  case hyo2be29 => (intro w hSw; (try dsimp only at hSw); (try simp only [List.getElem_toArray, List.getElem_cons_zero, List.getElem_cons_succ]); go_simp; (try with_reducible rfl))
                  (try simp only [Act.put, List.setIfInBounds_toArray, List.set_cons_zero, List.set_cons_succ, List.getElem_toArray, List.getElem_cons_zero, List.getElem_cons_succ])
                  refine wpAnyH_ready (rs := [23]) (by kernel_rfl) (by simp) ?_
                  refine AllReadyH.cons (o := _) rfl (fun K hK => ?_) AllReadyH.nil
                  (try simp only [List.getElem_toArray, List.getElem_cons_zero, List.getElem_cons_succ])
                  go_simp
                  (refine (HNW.out s _ HSM.out (by first | exact HP5.out | exact HP5.out.drew)).mono ?_; rintro e w6 ⟨rfl, qq⟩; have HP6 := Lib.hid qq; clear qq)
                  refine hK.out _ _ ?_ (fun hHeld => ?_)
                  · exact SF.out _ _ _ HP6.out
                  clear hK K
                  (try simp only [Act.put, List.setIfInBounds_toArray, List.set_cons_zero, List.set_cons_succ, List.getElem_toArray, List.getElem_cons_zero, List.getElem_cons_succ])
                  refine wpAnyH_take (i := 30) (oi := _) (v := ?vo2be30) rfl (by kernel_rfl) (by kernel_rfl) (by kernel_rfl) (fun _ _ _ h => h) (Or.inl ⟨by rfl, ?hyo2be30⟩) (by assumption) ?resto2be30
                  case hyo2be30 => (intro w hSw; (try dsimp only at hSw); (try simp only [List.getElem_toArray, List.getElem_cons_zero, List.getElem_cons_succ]); go_simp; (try with_reducible rfl))
                  (try simp only [Act.put, List.setIfInBounds_toArray, List.set_cons_zero, List.set_cons_succ, List.getElem_toArray, List.getElem_cons_zero, List.getElem_cons_succ])
                  refine wpAnyH_take (i := 31) (oi := _) (v := ?vo2be31) rfl (by kernel_rfl) (by kernel_rfl) (by kernel_rfl) (fun _ _ _ h => h) (Or.inl ⟨by rfl, ?hyo2be31⟩) (by assumption) ?resto2be31
                  case hyo2be31 => (intro w hSw; (try dsimp only at hSw); (try simp only [List.getElem_toArray, List.getElem_cons_zero, List.getElem_cons_succ]); go_simp; (try with_reducible rfl))
                  (try simp only [Act.put, List.setIfInBounds_toArray, List.set_cons_zero, List.set_cons_succ, List.getElem_toArray, List.getElem_cons_zero, List.getElem_cons_succ])
                  refine wpAnyH_take (i := 32) (oi := _) (v := ?vo2be32) rfl (by kernel_rfl) (by kernel_rfl) (by kernel_rfl) (fun _ _ _ h => h) (Or.inl ⟨by rfl, ?hyo2be32⟩) (by assumption) ?resto2be32
                  case hyo2be32 => (intro w hSw; (try dsimp only at hSw); (try simp only [List.getElem_toArray, List.getElem_cons_zero, List.getElem_cons_succ]); go_simp; (try with_reducible rfl))
                  (try simp only [Act.put, List.setIfInBounds_toArray, List.set_cons_zero, List.set_cons_succ, List.getElem_toArray, List.getElem_cons_zero, List.getElem_cons_succ])
                  refine wpAnyH_take (i := 33) (oi := _) (v := ?vo2be33) rfl (by kernel_rfl) (by kernel_rfl) (by kernel_rfl) (fun _ _ _ h => h) (Or.inl ⟨by rfl, ?hyo2be33⟩) (by assumption) ?resto2be33
                  case hyo2be33 => (intro w hSw; (try dsimp only at hSw); (try simp only [List.getElem_toArray, List.getElem_cons_zero, List.getElem_cons_succ]); go_simp; (try with_reducible rfl))
                  (try simp only [Act.put, List.setIfInBounds_toArray, List.set_cons_zero, List.set_cons_succ, List.getElem_toArray, List.getElem_cons_zero, List.getElem_cons_succ])
                  refine wpAnyH_take (i := 34) (oi := _) (v := ?vo2be34) rfl (by kernel_rfl) (by kernel_rfl) (by kernel_rfl) (fun _ _ _ h => h) (Or.inl ⟨by rfl, ?hyo2be34⟩) (by assumption) ?resto2be34
                  case hyo2be34 => (intro w hSw; (try dsimp only at hSw); (try simp only [List.getElem_toArray, List.getElem_cons_zero, List.getElem_cons_succ]); go_simp; (try with_reducible rfl))
                  (try simp only [Act.put, List.setIfInBounds_toArray, List.set_cons_zero, List.set_cons_succ, List.getElem_toArray, List.getElem_cons_zero, List.getElem_cons_succ])
                  refine wpAnyH_take (i := 36) (oi := _) (v := ?vo2be36) rfl (by kernel_rfl) (by kernel_rfl) (by kernel_rfl) (fun _ _ _ h => h) (Or.inl ⟨by rfl, ?hyo2be36⟩) (by assumption) ?resto2be36
                  case hyo2be36 => (intro w hSw; (try dsimp only at hSw); (try simp only [List.getElem_toArray, List.getElem_cons_zero, List.getElem_cons_succ]); go_simp; (try with_reducible rfl))
                  (try simp only [Act.put, List.setIfInBounds_toArray, List.set_cons_zero, List.set_cons_succ, List.getElem_toArray, List.getElem_cons_zero, List.getElem_cons_succ])
                  refine wpAnyH_take (i := 37) (oi := _) (v := ?vo2be37) rfl (by kernel_rfl) (by kernel_rfl) (by kernel_rfl) (fun _ _ _ h => h) (Or.inl ⟨by rfl, ?hyo2be37⟩) (by assumption) ?resto2be37
                  case hyo2be37 => (intro w hSw; (try dsimp only at hSw); (try simp only [List.getElem_toArray, List.getElem_cons_zero, List.getElem_cons_succ]); go_simp; (try with_reducible rfl))
                  (try simp only [Act.put, List.setIfInBounds_toArray, List.set_cons_zero, List.set_cons_succ, List.getElem_toArray, List.getElem_cons_zero, List.getElem_cons_succ])
                  refine wpAnyH_take (i := 38) (oi := _) (v := ?vo2be38) rfl (by kernel_rfl) (by kernel_rfl) (by kernel_rfl) (fun _ _ _ h => h) (Or.inl ⟨by rfl, ?hyo2be38⟩) (by assumption) ?resto2be38
                  case hyo2be38 => (intro w hSw; (try dsimp only at hSw); (try simp only [List.getElem_toArray, List.getElem_cons_zero, List.getElem_cons_succ]); go_simp; (try with_reducible rfl))
                  (try simp only [Act.put, List.setIfInBounds_toArray, List.set_cons_zero, List.set_cons_succ, List.getElem_toArray, List.getElem_cons_zero, List.getElem_cons_succ])
                  refine wpAnyH_ready (rs := [35]) (by kernel_rfl) (by simp) ?_
                  refine AllReadyH.cons (o := _) rfl (fun K hK => ?_) AllReadyH.nil
                  (try simp only [List.getElem_toArray, List.getElem_cons_zero, List.getElem_cons_succ])
                  go_simp
                  (refine (HNW.out ask _ HA.out (by first | exact HP6.out | exact HP6.out.drew)).mono ?_; rintro e w7 ⟨rfl, qq⟩; have HP7 := Lib.hid qq; clear qq)
                  refine hK.out _ _ ?_ (fun hHeld => ?_)
                  · exact SF.out _ _ _ HP7.out
                  clear hK K
                  (try simp only [Act.put, List.setIfInBounds_toArray, List.set_cons_zero, List.set_cons_succ, List.getElem_toArray, List.getElem_cons_zero, List.getElem_cons_succ])
                  refine wpAnyH_take (i := 39) (oi := _) (v := ?vo2be39) rfl (by kernel_rfl) (by kernel_rfl) (by kernel_rfl) (fun _ _ _ h => h) (Or.inl ⟨by rfl, ?hyo2be39⟩) (by assumption) ?resto2be39
                  case hyo2be39 => (intro w hSw; (try dsimp only at hSw); (try simp only [List.getElem_toArray, List.getElem_cons_zero, List.getElem_cons_succ]); go_simp; (try with_reducible rfl))
                  (try simp only [Act.put, List.setIfInBounds_toArray, List.set_cons_zero, List.set_cons_succ, List.getElem_toArray, List.getElem_cons_zero, List.getElem_cons_succ])
                  refine wpAnyH_take (i := 40) (oi := _) (v := ?vo2be40) rfl (by kernel_rfl) (by kernel_rfl) (by kernel_rfl) (fun _ _ _ h => h) (Or.inl ⟨by rfl, ?hyo2be40⟩) (by assumption) ?resto2be40
                  case hyo2be40 => (intro w hSw; (try dsimp only at hSw); (try simp only [List.getElem_toArray, List.getElem_cons_zero, List.getElem_cons_succ]); go_simp; (try with_reducible rfl))
                  (try simp only [Act.put, List.setIfInBounds_toArray, List.set_cons_zero, List.set_cons_succ, List.getElem_toArray, List.getElem_cons_zero, List.getElem_cons_succ])
                  refine wpAnyH_take (i := 41) (oi := _) (v := ?vo2be41) rfl (by kernel_rfl) (by kernel_rfl) (by kernel_rfl) (fun _ _ _ h => h) (Or.inl ⟨by rfl, ?hyo2be41⟩) (by assumption) ?resto2be41
                  case hyo2be41 => (intro w hSw; (try dsimp only at hSw); (try simp only [List.getElem_toArray, List.getElem_cons_zero, List.getElem_cons_succ]); go_simp; (try with_reducible rfl))
                  (try simp only [Act.put, List.setIfInBounds_toArray, List.set_cons_zero, List.set_cons_succ, List.getElem_toArray, List.getElem_cons_zero, List.getElem_cons_succ])
                  refine wpAnyH_take (i := 42) (oi := _) (v := ?vo2be42) rfl (by kernel_rfl) (by kernel_rfl) (by kernel_rfl) (fun _ _ _ h => h) (Or.inl ⟨by rfl, ?hyo2be42⟩) (by assumption) ?resto2be42
                  case hyo2be42 => (intro w hSw; (try dsimp only at hSw); (try simp only [List.getElem_toArray, List.getElem_cons_zero, List.getElem_cons_succ]); go_simp; (try with_reducible rfl))
                  (try simp only [Act.put, List.setIfInBounds_toArray, List.set_cons_zero, List.set_cons_succ, List.getElem_toArray, List.getElem_cons_zero, List.getElem_cons_succ])
                  refine wpAnyH_take (i := 43) (oi := _) (v := ?vo2be43) rfl (by kernel_rfl) (by kernel_rfl) (by kernel_rfl) (fun _ _ _ h => h) (Or.inl ⟨by rfl, ?hyo2be43⟩) (by assumption) ?resto2be43
                  case hyo2be43 => (intro w hSw; (try dsimp only at hSw); (try simp only [List.getElem_toArray, List.getElem_cons_zero, List.getElem_cons_succ]); go_simp; (try with_reducible rfl))
                  (try simp only [Act.put, List.setIfInBounds_toArray, List.set_cons_zero, List.set_cons_succ, List.getElem_toArray, List.getElem_cons_zero, List.getElem_cons_succ])
                  refine wpAnyH_take (i := 44) (oi := _) (v := ?vo2be44) rfl (by kernel_rfl) (by kernel_rfl) (by kernel_rfl) (fun _ _ _ h => h) (Or.inl ⟨by rfl, ?hyo2be44⟩) (by assumption) ?resto2be44
                  case hyo2be44 => (intro w hSw; (try dsimp only at hSw); (try simp only [List.getElem_toArray, List.getElem_cons_zero, List.getElem_cons_succ]); go_simp; (try with_reducible rfl))
                  (try simp only [Act.put, List.setIfInBounds_toArray, List.set_cons_zero, List.set_cons_succ, List.getElem_toArray, List.getElem_cons_zero, List.getElem_cons_succ])
                  refine wpAnyH_take (i := 45) (oi := _) (v := ?vo2be45) rfl (by kernel_rfl) (by kernel_rfl) (by kernel_rfl) (fun _ _ _ h => h) (Or.inl ⟨by rfl, ?hyo2be45⟩) (by assumption) ?resto2be45
                  case hyo2be45 => (intro w hSw; (try dsimp only at hSw); (try simp only [List.getElem_toArray, List.getElem_cons_zero, List.getElem_cons_succ]); go_simp; (try with_reducible rfl))
                  (try simp only [Act.put, List.setIfInBounds_toArray, List.set_cons_zero, List.set_cons_succ, List.getElem_toArray, List.getElem_cons_zero, List.getElem_cons_succ])
                  refine wpAnyH_take (i := 46) (oi := _) (v := ?vo2be46) rfl (by kernel_rfl) (by kernel_rfl) (by kernel_rfl) (fun _ _ _ h => h) (Or.inl ⟨by rfl, ?hyo2be46⟩) (by assumption) ?resto2be46
                  case hyo2be46 => (intro w hSw; (try dsimp only at hSw); (try simp only [List.getElem_toArray, List.getElem_cons_zero, List.getElem_cons_succ]); go_simp; (try with_reducible rfl))
                  (try simp only [Act.put, List.setIfInBounds_toArray, List.set_cons_zero, List.set_cons_succ, List.getElem_toArray, List.getElem_cons_zero, List.getElem_cons_succ])
                  refine wpAnyH_take (i := 47) (oi := _) (v := ?vo2be47) rfl (by kernel_rfl) (by kernel_rfl) (by kernel_rfl) (fun _ _ _ h => h) (Or.inl ⟨by rfl, ?hyo2be47⟩) (by assumption) ?resto2be47
                  case hyo2be47 => (intro w hSw; (try dsimp only at hSw); (try simp only [List.getElem_toArray, List.getElem_cons_zero, List.getElem_cons_succ]); go_simp; (try with_reducible rfl))
                  (try simp only [Act.put, List.setIfInBounds_toArray, List.set_cons_zero, List.set_cons_succ, List.getElem_toArray, List.getElem_cons_zero, List.getElem_cons_succ])
                  refine wpAnyH_done (by kernel_rfl) ?_ _
                  refine NoPanic.normal ?_
                  clear SF HAD HNW hgt
                  have hN := HP7.out.isNames (by rw [← HR'.out]; omega)
                  rw [← HR'.out] at hN
                  have HN := Lib.hid hN
                  clear hN
                  go_wp2_with fail
                  refine HN.out.mono ?_
                  rintro e w8 ⟨Y8, yc8, rfl, q8, b8⟩
                  have HP8 := Lib.hid q8
                  have HB8 := Lib.hid b8
                  clear q8 b8 HN
                  go_wp2_with fail
                  refine (HP8.out.isTexts r' yc8 (rising km') HB8.out (by omega) (by omega)).mono ?_
                  rintro e w9 ⟨rfl, q9, b9⟩
                  have HP9 := Lib.hid q9
                  have HB9 := Lib.hid b9
                  clear q9 b9
                  have HSA : Hid (Calls Tryz.prog 9 #[.slice Y8 r' yc8, .slice A5 r' c5] w9 fun e w' => e = .returned (.bool true) ∧ ∃ k, w' = w9.drewN k) := by
                    have q1 := HB9.out.src
                    have q2 := HP9.out.ord.src
                    rw [rising_length, ← HR'.out] at q2
                    exact same_Texts Y8 A5 r' yc8 c5 ((rising km').map fun x => ⟨x.toArray⟩) w9 (by rw [List.map_map]; exact q1) (by rw [List.map_map]; exact q2) (by omega)
                  go_wp2_with fail
                  refine HSA.out.mono ?_
                  rintro e w10 ⟨rfl, kq, rfl⟩
                  have HPE := Lib.hid (HP9.out.drewN kq)
                  go_wp2_with fail
                  go_roundw
                  case rel => exact ⟨k + 1, r', A5, c5, km', g', by go_num, rfl, by omega, by omega, HR', K1, C1, HPE⟩
                  case measure => simp [intOf]; omega
              · (try simp only [List.getElem_toArray, List.getElem_cons_zero, List.getElem_cons_succ])
                go_simp
                refine hK.out _ _ ?_ (fun hHeld => ?_)
                · exact ⟨(RD.out _ (HPQ.out.keep (((Keep.refl (fun _ => False) wq).alloc _).drew)).below).1, (RD.out _ (HPQ.out.keep (((Keep.refl (fun _ => False) wq).alloc _).drew)).below).1⟩
                clear hK K
                (try simp only [Act.put, List.setIfInBounds_toArray, List.set_cons_zero, List.set_cons_succ, List.getElem_toArray, List.getElem_cons_zero, List.getElem_cons_succ])
                refine wpAnyH_ready (rs := [3]) (by kernel_rfl) (by simp) ?_
                refine AllReadyH.cons (o := _) rfl (fun K hK => ?_) AllReadyH.nil
                (try simp only [List.getElem_toArray, List.getElem_cons_zero, List.getElem_cons_succ])
                (rw [if_pos (by rfl)]; refine wp_append_buf _ (.const (.slice none 0 0)) (.tmp 79) 22 rfl 9 i0 (.string .empty) 16 Tryz.underlying22 hi0 hz0 hz1 hz2 rfl rfl (Buf.nil _) (((rising km).take j).map encStr) rfl (SLO.out.of_keep (((Keep.refl (fun _ => False) wq).alloc _).drew) (fun _ _ x => x)) (one_enc _) (by unfold maxLen; omega) (by omega) ?_; intro A3 c3 w3 a3 k3 p3; have Q3 : Hid (Buf w3 A3 j c3 (((rising km).take j).map encStr)) := (by have := a3; rw [Nat.zero_add, List.nil_append] at this; exact this); have KP3 := Lib.hid k3; have P3 := Lib.hid p3; clear a3 k3 p3)
                refine hK.out _ _ ?_ (fun hHeld => ?_)
                · exact ⟨(RD.out _ (HPQ.out.keep ((((Keep.refl (fun _ => False) wq).alloc _).drew).trans KP3.out (fun _ _ x => by simp [blk] at x))).below).1, (RD.out _ (HPQ.out.keep ((((Keep.refl (fun _ => False) wq).alloc _).drew).trans KP3.out (fun _ _ x => by simp [blk] at x))).below).1⟩
                clear hK K
                (try simp only [Act.put, List.setIfInBounds_toArray, List.set_cons_zero, List.set_cons_succ, List.getElem_toArray, List.getElem_cons_zero, List.getElem_cons_succ])
                refine wpAnyH_ready (rs := [9]) (by kernel_rfl) (by simp) ?_
                refine AllReadyH.cons (o := _) rfl (fun K hK => ?_) AllReadyH.nil
                (try simp only [List.getElem_toArray, List.getElem_cons_zero, List.getElem_cons_succ])
                (rw [if_pos (by rfl)]; refine wp_append_buf _ (.tmp 80) (.tmp 85) 22 rfl 9 i0 (.string .empty) 16 Tryz.underlying22 hi0 hz0 hz1 hz2 rfl rfl (by first | exact Q3.out.keep (Keep.refl (fun _ => False) _) (fun _ _ x => x) | (rw [Nat.zero_add]; exact Q3.out.keep (Keep.refl (fun _ => False) _) (fun _ _ x => x))) [.string s] rfl ((src_one _ _ _ rfl).of_keep ((Keep.refl (fun _ => False) _).drew.trans KP3.out (fun _ _ x => by simp [blk] at x)) (fun _ _ x => x)) (by simp [Value.oneCell']) (by unfold maxLen; omega) (by omega) ?_; intro A4 c4 w4 a4 k4 p4; have Q4 := Lib.hid a4; have KP4 := Lib.hid k4; have P4 := Lib.hid p4; clear a4 k4 p4)
                refine hK.out _ _ ?_ (fun hHeld => ?_)
                · exact ⟨(RD.out _ (HPQ.out.keep (three_appends (((Keep.refl (fun _ => False) wq).alloc _).drew) KP3.out P3.out (Keep.refl (fun _ => False) _) KP4.out P4.out).1.2).below).1, (RD.out _ (HPQ.out.keep (three_appends (((Keep.refl (fun _ => False) wq).alloc _).drew) KP3.out P3.out (Keep.refl (fun _ => False) _) KP4.out P4.out).1.2).below).1⟩
                clear hK K
                (try simp only [Act.put, List.setIfInBounds_toArray, List.set_cons_zero, List.set_cons_succ, List.getElem_toArray, List.getElem_cons_zero, List.getElem_cons_succ])
                refine wpAnyH_ready (rs := [13]) (by kernel_rfl) (by simp) ?_
                refine AllReadyH.cons (o := _) rfl (fun K hK => ?_) AllReadyH.nil
                (try simp only [List.getElem_toArray, List.getElem_cons_zero, List.getElem_cons_succ])
                (rw [if_pos (by rfl)]; refine wp_append_buf _ (.tmp 86) (.tmp 89) 22 rfl 9 i0 (.string .empty) 16 Tryz.underlying22 hi0 hz0 hz1 hz2 rfl rfl Q4.out (((rising km).drop j).map encStr) rfl (by have q := SHI.out.of_keep (three_appends (((Keep.refl (fun _ => False) wq).alloc _).drew) KP3.out P3.out (Keep.refl (fun _ => False) _) KP4.out P4.out).1.2 (fun _ _ x => x); first | exact q | simpa [add_mk] using q) (one_enc _) (by unfold maxLen; omega) (by omega) ?_; intro A5 c5 w5 a5 k5 p5; have F5 := Lib.hid ((three_appends (((Keep.refl (fun _ => False) wq).alloc _).drew) KP3.out P3.out (Keep.refl (fun _ => False) _) KP4.out P4.out).2 _ _ k5 p5); have Q5 := Lib.hid a5; clear a5 k5 p5)
                refine hK.out _ _ ?_ (fun hHeld => ?_)
                · exact ⟨(RD.out _ (HPQ.out.keep F5.out.1).below).1, (RD.out _ (HPQ.out.keep F5.out.1).below).1⟩
                clear hK K
                (try simp only [Act.put, List.setIfInBounds_toArray, List.set_cons_zero, List.set_cons_succ, List.getElem_toArray, List.getElem_cons_zero, List.getElem_cons_succ])
                refine wpAnyH_take (i := 14) (oi := _) (v := ?vo2c14) rfl (by kernel_rfl) (by kernel_rfl) (by kernel_rfl) (fun _ _ _ h => h) (Or.inl ⟨by rfl, ?hyo2c14⟩) (by assumption) ?resto2c14
                case hyo2c14 => (intro w hSw; (try dsimp only at hSw); (try simp only [List.getElem_toArray, List.getElem_cons_zero, List.getElem_cons_succ]); go_simp; (try with_reducible rfl))
                (try simp only [Act.put, List.setIfInBounds_toArray, List.set_cons_zero, List.set_cons_succ, List.getElem_toArray, List.getElem_cons_zero, List.getElem_cons_succ])
                refine wpAnyH_done (by kernel_rfl) ?_ _
                have eL : ((rising km').map encStr) = (((rising km).take j).map encStr) ++ [.string s] ++ (((rising km).drop j).map encStr) := by
                  rw [HKM'.out, rising_insert HIN.out HLO.out HHI.out, List.map_append, List.map_append]
                  simp [encStr]
                have q5 := Q5.out
                rw [← eL] at q5
                have n5 := q5.len
                rw [List.length_map, rising_length, ← HR'.out] at n5
                have HPT : Hid (Plays w p (p + 1 + 1) (p + 1) km g km g A5 c5 (rising km') none k w5) := HPQ.out.order F5.out.1 (by rw [rising_length, ← HR'.out, n5]; exact q5) F5.out.2
                have n6 : j + 1 + (r - j) = r' := by omega
                refine NoPanic.normal ?_
                (try rw [n6])
                (try rw [← n5])
                clear eL q5 n5 n6 r1 hjr2 hjo hjc hj0' hoc
                go_wp2_with fail
                as_aux_lemma =>
                  have hkm : ((k : Int) < (m : Int)) := by omega
                  have hkn : ((k : Int) < (n : Int)) := by omega
                  have hk0' : (0 : Int) ≤ (k : Int) := by omega
                  have lk18 := HPT.out.look HSM.out
                  have lk18' := HPT.out.drew.look HSM.out
                  obtain ⟨c18, d18⟩ := RD.out _ HPT.out.below
                  refine wp_region_noPanic ?_
                  refine wp_region_held_drew (S := fun w' => w'.cell? ⟨b, off + k, none⟩ = some (.string s) ∧ w'.cell? ⟨b2, off2 + k, none⟩ = some (.int .i64 v)) (by kernel_rfl) ⟨c18, d18⟩ (fun hHeld => ?_)
                  refine wpAnyH_take (i := 0) (oi := _) (v := ?vo2cd0) rfl (by kernel_rfl) (by kernel_rfl) (by kernel_rfl) (fun _ _ _ h => h) (Or.inl ⟨by rfl, ?hyo2cd0⟩) (by assumption) ?resto2cd0
                  case hyo2cd0 => (intro w hSw; (try dsimp only at hSw); (try simp only [List.getElem_toArray, List.getElem_cons_zero, List.getElem_cons_succ]); go_simp; (try with_reducible rfl))
                  (try simp only [Act.put, List.setIfInBounds_toArray, List.set_cons_zero, List.set_cons_succ, List.getElem_toArray, List.getElem_cons_zero, List.getElem_cons_succ])
                  refine wpAnyH_take (i := 1) (oi := _) (v := ?vo2cd1) rfl (by kernel_rfl) (by kernel_rfl) (by kernel_rfl) (fun _ _ _ h => h) (Or.inl ⟨by rfl, ?hyo2cd1⟩) (by assumption) ?resto2cd1
                  case hyo2cd1 => (intro w hSw; (try dsimp only at hSw); (try simp only [List.getElem_toArray, List.getElem_cons_zero, List.getElem_cons_succ]); go_simp; (try with_reducible rfl))
                  (try simp only [Act.put, List.setIfInBounds_toArray, List.set_cons_zero, List.set_cons_succ, List.getElem_toArray, List.getElem_cons_zero, List.getElem_cons_succ])
                  refine wpAnyH_take (i := 2) (oi := _) (v := ?vo2cd2) rfl (by kernel_rfl) (by kernel_rfl) (by kernel_rfl) (fun _ _ _ h => h) (Or.inl ⟨by rfl, ?hyo2cd2⟩) (by assumption) ?resto2cd2
                  case hyo2cd2 => (intro w hSw; (try dsimp only at hSw); (try simp only [List.getElem_toArray, List.getElem_cons_zero, List.getElem_cons_succ]); go_simp; (try with_reducible rfl))
                  (try simp only [Act.put, List.setIfInBounds_toArray, List.set_cons_zero, List.set_cons_succ, List.getElem_toArray, List.getElem_cons_zero, List.getElem_cons_succ])
                  refine wpAnyH_take (i := 3) (oi := _) (v := ?vo2cd3) rfl (by kernel_rfl) (by kernel_rfl) (by kernel_rfl) (fun _ _ _ h => h) (Or.inl ⟨by rfl, ?hyo2cd3⟩) (by assumption) ?resto2cd3
                  case hyo2cd3 => (intro w hSw; (try dsimp only at hSw); (try simp only [List.getElem_toArray, List.getElem_cons_zero, List.getElem_cons_succ]); go_simp; (try with_reducible rfl))
                  (try simp only [Act.put, List.setIfInBounds_toArray, List.set_cons_zero, List.set_cons_succ, List.getElem_toArray, List.getElem_cons_zero, List.getElem_cons_succ])
                  refine wpAnyH_take (i := 4) (oi := _) (v := ?vo2cd4) rfl (by kernel_rfl) (by kernel_rfl) (by kernel_rfl) (fun _ _ _ h => h) (Or.inl ⟨by rfl, ?hyo2cd4⟩) (by assumption) ?resto2cd4
                  case hyo2cd4 => (intro w hSw; (try dsimp only at hSw); (try simp only [List.getElem_toArray, List.getElem_cons_zero, List.getElem_cons_succ]); go_simp; (try with_reducible rfl))
                  (try simp only [Act.put, List.setIfInBounds_toArray, List.set_cons_zero, List.set_cons_succ, List.getElem_toArray, List.getElem_cons_zero, List.getElem_cons_succ])
                  refine wpAnyH_take (i := 6) (oi := _) (v := ?vo2cd6) rfl (by kernel_rfl) (by kernel_rfl) (by kernel_rfl) (fun _ _ _ h => h) (Or.inl ⟨by rfl, ?hyo2cd6⟩) (by assumption) ?resto2cd6
                  case hyo2cd6 => (intro w hSw; (try dsimp only at hSw); (try simp only [List.getElem_toArray, List.getElem_cons_zero, List.getElem_cons_succ]); go_simp; (try with_reducible rfl))
                  (try simp only [Act.put, List.setIfInBounds_toArray, List.set_cons_zero, List.set_cons_succ, List.getElem_toArray, List.getElem_cons_zero, List.getElem_cons_succ])
                  refine wpAnyH_take (i := 7) (oi := _) (v := ?vo2cd7) rfl (by kernel_rfl) (by kernel_rfl) (by kernel_rfl) (fun _ _ _ h => h) (Or.inl ⟨by rfl, ?hyo2cd7⟩) (by assumption) ?resto2cd7
                  case hyo2cd7 => (intro w hSw; (try dsimp only at hSw); (try simp only [List.getElem_toArray, List.getElem_cons_zero, List.getElem_cons_succ]); go_simp; (try with_reducible rfl))
                  (try simp only [Act.put, List.setIfInBounds_toArray, List.set_cons_zero, List.set_cons_succ, List.getElem_toArray, List.getElem_cons_zero, List.getElem_cons_succ])
                  refine wpAnyH_take (i := 8) (oi := _) (v := ?vo2cd8) rfl (by kernel_rfl) (by kernel_rfl) (by kernel_rfl) (fun _ _ _ h => h) (Or.inl ⟨by rfl, ?hyo2cd8⟩) (by assumption) ?resto2cd8
                  case hyo2cd8 => (intro w hSw; (try dsimp only at hSw); (try simp only [List.getElem_toArray, List.getElem_cons_zero, List.getElem_cons_succ]); go_simp; (try with_reducible rfl))
                  (try simp only [Act.put, List.setIfInBounds_toArray, List.set_cons_zero, List.set_cons_succ, List.getElem_toArray, List.getElem_cons_zero, List.getElem_cons_succ])
                  refine wpAnyH_take (i := 9) (oi := _) (v := ?vo2cd9) rfl (by kernel_rfl) (by kernel_rfl) (by kernel_rfl) (fun _ _ _ h => h) (Or.inl ⟨by rfl, ?hyo2cd9⟩) (by assumption) ?resto2cd9
                  case hyo2cd9 => (intro w hSw; (try dsimp only at hSw); (try simp only [List.getElem_toArray, List.getElem_cons_zero, List.getElem_cons_succ]); go_simp; (try with_reducible rfl))
                  (try simp only [Act.put, List.setIfInBounds_toArray, List.set_cons_zero, List.set_cons_succ, List.getElem_toArray, List.getElem_cons_zero, List.getElem_cons_succ])
                  refine wpAnyH_ready (rs := [5]) (by kernel_rfl) (by simp) ?_
                  refine AllReadyH.cons (o := _) rfl (fun K hK => ?_) AllReadyH.nil
                  (try simp only [List.getElem_toArray, List.getElem_cons_zero, List.getElem_cons_succ])
                  go_simp
                  refine hK.out _ _ ?_ (fun hHeld => ?_)
                  · exact ⟨c18, d18⟩
                  clear hK K
                  (try simp only [Act.put, List.setIfInBounds_toArray, List.set_cons_zero, List.set_cons_succ, List.getElem_toArray, List.getElem_cons_zero, List.getElem_cons_succ])
                  refine wpAnyH_take (i := 10) (oi := _) (v := ?vo2cd10) rfl (by kernel_rfl) (by kernel_rfl) (by kernel_rfl) (fun _ _ _ h => h) (Or.inl ⟨by rfl, ?hyo2cd10⟩) (by assumption) ?resto2cd10
                  case hyo2cd10 => (intro w hSw; (try dsimp only at hSw); (try simp only [List.getElem_toArray, List.getElem_cons_zero, List.getElem_cons_succ]); go_simp; (try with_reducible rfl))
                  (try simp only [Act.put, List.setIfInBounds_toArray, List.set_cons_zero, List.set_cons_succ, List.getElem_toArray, List.getElem_cons_zero, List.getElem_cons_succ])
                  refine wpAnyH_ready (rs := [11]) (by kernel_rfl) (by simp) ?_
                  refine AllReadyH.cons (o := _) rfl (fun K hK => ?_) AllReadyH.nil
                  (try simp only [List.getElem_toArray, List.getElem_cons_zero, List.getElem_cons_succ])
                  (rw [if_pos (by rfl)]; refine wp_update_S _ (.tmp 91) (.tmp 95) (.tmp 101) 41 rfl 9 3 Tryz.underlying9 Tryz.underlying41 (p + 1) km (fun x => .int .i64 (g x)) rfl (by first | exact HPT.out.map | exact HPT.out.drew.map) (by rw [← HR.out]; unfold maxLen; omega) s HSM.out rfl ?_; intro w3 hm hg; have HP3 : Hid (Plays w p (p + 1 + 1) (p + 1) km g km' g' A5 c5 (rising km') none k w3) := (by show Plays _ _ _ _ _ _ _ _ _ _ _ _ _ _; have q : Plays w p (p + 1 + 1) (p + 1) km g (insKey s.data.toList km) (setAt g s.data.toList (IntKind.i64.wrap (g s.data.toList + v))) A5 c5 (rising km') none k w3 := (by first | exact HPT.out.put hm hg | exact HPT.out.drew.put hm hg); rw [bpWrap, ← HG'.out, ← HKM'.out] at q; exact q); clear hm hg)
                  refine hK.out _ _ ?_ (fun hHeld => ?_)
                  · exact RD.out _ HP3.out.below
                  clear hK K
                  (try simp only [Act.put, List.setIfInBounds_toArray, List.set_cons_zero, List.set_cons_succ, List.getElem_toArray, List.getElem_cons_zero, List.getElem_cons_succ])
                  refine wpAnyH_done (by kernel_rfl) ?_ _
                  refine NoPanic.normal ?_
                  clear lk18 lk18' c18 d18
                  have hN := HP3.out.isNames (by rw [← HR.out]; omega)
                  rw [← HR.out] at hN
                  have HN := Lib.hid hN
                  clear hN
                  go_wp2_with fail
                  refine HN.out.mono ?_
                  rintro e w4 ⟨Y, yc, rfl, q4, -⟩
                  have HP4 := Lib.hid q4.forget
                  clear q4 HN
                  go_wp2_with fail
                  have SF : Hid (∀ (w' : World) (ks : List (List UInt8)) (h : List UInt8 → Int), Plays w p (p + 1 + 1) (p + 1) ks h km' g' A5 c5 (rising km') none k w' → w'.cell? ⟨b, off + k, none⟩ = some (.string s) ∧ w'.cell? ⟨b2, off2 + k, none⟩ = some (.int .i64 v) ∧ (Instr.lookup 41 (.map (some (p + 1))) (.string s) false).run Tryz.prog w' = .ok (.int .i64 (g' s.data.toList)) w' ∧ (Instr.lookup 41 (.map (some (p + 1))) (.string ask) false).run Tryz.prog w' = .ok (.int .i64 (g' ask.data.toList)) w') := fun W ks h hW => ⟨(RD.out W hW.below).1, (RD.out W hW.below).2, hW.look HSM.out, hW.look HA.out⟩
                  have HAD : Hid (∀ W, Plays w p (p + 1 + 1) (p + 1) km g km' g' A5 c5 (rising km') none k W → Calls Tryz.prog 6 #[.pointer (some ⟨p, 0, none⟩), .string s, .int .i64 v] W fun e w' => e = .returned (.int .i64 (g' s.data.toList)) ∧ Plays w p (p + 1 + 1) (p + 1) km' g' km' g' A5 c5 (rising km') none k w') := fun W hW => by
                    have q := hW.isAdd s v HSM.out (by rw [← HR.out]; omega) hvb
                    rw [← HG'.out, ← HKM'.out, ← HGS.out] at q
                    exact q
                  have HNW : Hid (∀ (x : ByteArray) W, x.size ≤ maxLen → Plays w p (p + 1 + 1) (p + 1) km' g' km' g' A5 c5 (rising km') none k W → Calls Tryz.prog 7 #[.pointer (some ⟨p, 0, none⟩), .string x] W fun e w' => e = .returned (.int .i64 (g' x.data.toList)) ∧ Plays w p (p + 1 + 1) (p + 1) km' g' km' g' A5 c5 (rising km') none k w') := fun x W hx hW => hW.isNow x hx
                  have s20 := SF.out w4 _ _ HP4.out
                  have hgt : decide (r' < r) = false := decide_eq_false (by omega)
                  refine wp_region_noPanic ?_
                  refine wp_region_held_drew (S := fun w' => w'.cell? ⟨b, off + k, none⟩ = some (.string s) ∧ w'.cell? ⟨b2, off2 + k, none⟩ = some (.int .i64 v) ∧ (Instr.lookup 41 (.map (some (p + 1))) (.string s) false).run Tryz.prog w' = .ok (.int .i64 (g' s.data.toList)) w' ∧ (Instr.lookup 41 (.map (some (p + 1))) (.string ask) false).run Tryz.prog w' = .ok (.int .i64 (g' ask.data.toList)) w') (by kernel_rfl) (by first | exact s20 | exact SF.out _ _ _ HP4.out.drew) (fun hHeld => ?_)
                  clear s20
                  refine wpAnyH_take (i := 0) (oi := _) (v := ?vo2ce0) rfl (by kernel_rfl) (by kernel_rfl) (by kernel_rfl) (fun _ _ _ h => h) (Or.inl ⟨by rfl, ?hyo2ce0⟩) (by assumption) ?resto2ce0
                  case hyo2ce0 => (intro w hSw; (try dsimp only at hSw); (try simp only [List.getElem_toArray, List.getElem_cons_zero, List.getElem_cons_succ]); go_simp; (try with_reducible rfl))
                  (try simp only [Act.put, List.setIfInBounds_toArray, List.set_cons_zero, List.set_cons_succ, List.getElem_toArray, List.getElem_cons_zero, List.getElem_cons_succ])
                  refine wpAnyH_take (i := 1) (oi := _) (v := ?vo2ce1) rfl (by kernel_rfl) (by kernel_rfl) (by kernel_rfl) (fun _ _ _ h => h) (Or.inl ⟨by rfl, ?hyo2ce1⟩) (by assumption) ?resto2ce1
                  case hyo2ce1 => (intro w hSw; (try dsimp only at hSw); (try simp only [List.getElem_toArray, List.getElem_cons_zero, List.getElem_cons_succ]); go_simp; (try with_reducible rfl))
                  (try simp only [Act.put, List.setIfInBounds_toArray, List.set_cons_zero, List.set_cons_succ, List.getElem_toArray, List.getElem_cons_zero, List.getElem_cons_succ])
                  refine wpAnyH_take (i := 2) (oi := _) (v := ?vo2ce2) rfl (by kernel_rfl) (by kernel_rfl) (by kernel_rfl) (fun _ _ _ h => h) (Or.inl ⟨by rfl, ?hyo2ce2⟩) (by assumption) ?resto2ce2
                  case hyo2ce2 => (intro w hSw; (try dsimp only at hSw); (try simp only [List.getElem_toArray, List.getElem_cons_zero, List.getElem_cons_succ]); go_simp; (try with_reducible rfl))
                  (try simp only [Act.put, List.setIfInBounds_toArray, List.set_cons_zero, List.set_cons_succ, List.getElem_toArray, List.getElem_cons_zero, List.getElem_cons_succ])
                  refine wpAnyH_take (i := 3) (oi := _) (v := ?vo2ce3) rfl (by kernel_rfl) (by kernel_rfl) (by kernel_rfl) (fun _ _ _ h => h) (Or.inl ⟨by rfl, ?hyo2ce3⟩) (by assumption) ?resto2ce3
                  case hyo2ce3 => (intro w hSw; (try dsimp only at hSw); (try simp only [List.getElem_toArray, List.getElem_cons_zero, List.getElem_cons_succ]); go_simp; (try with_reducible rfl))
                  (try simp only [Act.put, List.setIfInBounds_toArray, List.set_cons_zero, List.set_cons_succ, List.getElem_toArray, List.getElem_cons_zero, List.getElem_cons_succ])
                  refine wpAnyH_take (i := 4) (oi := _) (v := ?vo2ce4) rfl (by kernel_rfl) (by kernel_rfl) (by kernel_rfl) (fun _ _ _ h => h) (Or.inl ⟨by rfl, ?hyo2ce4⟩) (by assumption) ?resto2ce4
                  case hyo2ce4 => (intro w hSw; (try dsimp only at hSw); (try simp only [List.getElem_toArray, List.getElem_cons_zero, List.getElem_cons_succ]); go_simp; (try with_reducible rfl))
                  (try simp only [Act.put, List.setIfInBounds_toArray, List.set_cons_zero, List.set_cons_succ, List.getElem_toArray, List.getElem_cons_zero, List.getElem_cons_succ])
                  refine wpAnyH_take (i := 5) (oi := _) (v := ?vo2ce5) rfl (by kernel_rfl) (by kernel_rfl) (by kernel_rfl) (fun _ _ _ h => h) (Or.inl ⟨by rfl, ?hyo2ce5⟩) (by assumption) ?resto2ce5
                  case hyo2ce5 => (intro w hSw; (try dsimp only at hSw); (try simp only [List.getElem_toArray, List.getElem_cons_zero, List.getElem_cons_succ]); go_simp; (try with_reducible rfl))
                  (try simp only [Act.put, List.setIfInBounds_toArray, List.set_cons_zero, List.set_cons_succ, List.getElem_toArray, List.getElem_cons_zero, List.getElem_cons_succ])
                  refine wpAnyH_take (i := 6) (oi := _) (v := ?vo2ce6) rfl (by kernel_rfl) (by kernel_rfl) (by kernel_rfl) (fun _ _ _ h => h) (Or.inl ⟨by rfl, ?hyo2ce6⟩) (by assumption) ?resto2ce6
                  case hyo2ce6 => (intro w hSw; (try dsimp only at hSw); (try simp only [List.getElem_toArray, List.getElem_cons_zero, List.getElem_cons_succ]); go_simp; (try with_reducible rfl))
                  (try simp only [Act.put, List.setIfInBounds_toArray, List.set_cons_zero, List.set_cons_succ, List.getElem_toArray, List.getElem_cons_zero, List.getElem_cons_succ])
                  refine wpAnyH_take (i := 7) (oi := _) (v := ?vo2ce7) rfl (by kernel_rfl) (by kernel_rfl) (by kernel_rfl) (fun _ _ _ h => h) (Or.inl ⟨by rfl, ?hyo2ce7⟩) (by assumption) ?resto2ce7
                  case hyo2ce7 => (intro w hSw; (try dsimp only at hSw); (try simp only [List.getElem_toArray, List.getElem_cons_zero, List.getElem_cons_succ]); go_simp; (try with_reducible rfl))
                  (try simp only [Act.put, List.setIfInBounds_toArray, List.set_cons_zero, List.set_cons_succ, List.getElem_toArray, List.getElem_cons_zero, List.getElem_cons_succ])
                  refine wpAnyH_take (i := 8) (oi := _) (v := ?vo2ce8) rfl (by kernel_rfl) (by kernel_rfl) (by kernel_rfl) (fun _ _ _ h => h) (Or.inl ⟨by rfl, ?hyo2ce8⟩) (by assumption) ?resto2ce8
                  case hyo2ce8 => (intro w hSw; (try dsimp only at hSw); (try simp only [List.getElem_toArray, List.getElem_cons_zero, List.getElem_cons_succ]); go_simp; (try with_reducible rfl))
                  (try simp only [Act.put, List.setIfInBounds_toArray, List.set_cons_zero, List.set_cons_succ, List.getElem_toArray, List.getElem_cons_zero, List.getElem_cons_succ])
                  refine wpAnyH_take (i := 10) (oi := _) (v := ?vo2ce10) rfl (by kernel_rfl) (by kernel_rfl) (by kernel_rfl) (fun _ _ _ h => h) (Or.inl ⟨by rfl, ?hyo2ce10⟩) (by assumption) ?resto2ce10
                  case hyo2ce10 => (intro w hSw; (try dsimp only at hSw); (try simp only [List.getElem_toArray, List.getElem_cons_zero, List.getElem_cons_succ]); go_simp; (try with_reducible rfl))
                  (try simp only [Act.put, List.setIfInBounds_toArray, List.set_cons_zero, List.set_cons_succ, List.getElem_toArray, List.getElem_cons_zero, List.getElem_cons_succ])
                  refine wpAnyH_take (i := 11) (oi := _) (v := ?vo2ce11) rfl (by kernel_rfl) (by kernel_rfl) (by kernel_rfl) (fun _ _ _ h => h) (Or.inl ⟨by rfl, ?hyo2ce11⟩) (by assumption) ?resto2ce11
                  case hyo2ce11 => (intro w hSw; (try dsimp only at hSw); (try simp only [List.getElem_toArray, List.getElem_cons_zero, List.getElem_cons_succ]); go_simp; (try with_reducible rfl))
                  (try simp only [Act.put, List.setIfInBounds_toArray, List.set_cons_zero, List.set_cons_succ, List.getElem_toArray, List.getElem_cons_zero, List.getElem_cons_succ])
                  refine wpAnyH_take (i := 12) (oi := _) (v := ?vo2ce12) rfl (by kernel_rfl) (by kernel_rfl) (by kernel_rfl) (fun _ _ _ h => h) (Or.inl ⟨by rfl, ?hyo2ce12⟩) (by assumption) ?resto2ce12
                  case hyo2ce12 => (intro w hSw; (try dsimp only at hSw); (try simp only [List.getElem_toArray, List.getElem_cons_zero, List.getElem_cons_succ]); go_simp; (try with_reducible rfl))
                  (try simp only [Act.put, List.setIfInBounds_toArray, List.set_cons_zero, List.set_cons_succ, List.getElem_toArray, List.getElem_cons_zero, List.getElem_cons_succ])
                  refine wpAnyH_take (i := 13) (oi := _) (v := ?vo2ce13) rfl (by kernel_rfl) (by kernel_rfl) (by kernel_rfl) (fun _ _ _ h => h) (Or.inl ⟨by rfl, ?hyo2ce13⟩) (by assumption) ?resto2ce13
                  case hyo2ce13 => (intro w hSw; (try dsimp only at hSw); (try simp only [List.getElem_toArray, List.getElem_cons_zero, List.getElem_cons_succ]); go_simp; (try with_reducible rfl))
                  (try simp only [Act.put, List.setIfInBounds_toArray, List.set_cons_zero, List.set_cons_succ, List.getElem_toArray, List.getElem_cons_zero, List.getElem_cons_succ])
                  refine wpAnyH_take (i := 14) (oi := _) (v := ?vo2ce14) rfl (by kernel_rfl) (by kernel_rfl) (by kernel_rfl) (fun _ _ _ h => h) (Or.inl ⟨by rfl, ?hyo2ce14⟩) (by assumption) ?resto2ce14
                  case hyo2ce14 => (intro w hSw; (try dsimp only at hSw); (try simp only [List.getElem_toArray, List.getElem_cons_zero, List.getElem_cons_succ]); go_simp; (try with_reducible rfl))
                  (try simp only [Act.put, List.setIfInBounds_toArray, List.set_cons_zero, List.set_cons_succ, List.getElem_toArray, List.getElem_cons_zero, List.getElem_cons_succ])
                  refine wpAnyH_take (i := 15) (oi := _) (v := ?vo2ce15) rfl (by kernel_rfl) (by kernel_rfl) (by kernel_rfl) (fun _ _ _ h => h) (Or.inl ⟨by rfl, ?hyo2ce15⟩) (by assumption) ?resto2ce15
                  case hyo2ce15 => (intro w hSw; (try dsimp only at hSw); (try simp only [List.getElem_toArray, List.getElem_cons_zero, List.getElem_cons_succ]); go_simp; (try with_reducible rfl))
                  (try simp only [Act.put, List.setIfInBounds_toArray, List.set_cons_zero, List.set_cons_succ, List.getElem_toArray, List.getElem_cons_zero, List.getElem_cons_succ])
                  refine wpAnyH_ready (rs := [9]) (by kernel_rfl) (by simp) ?_
                  refine AllReadyH.cons (o := _) rfl (fun K hK => ?_) AllReadyH.nil
                  (try simp only [List.getElem_toArray, List.getElem_cons_zero, List.getElem_cons_succ])
                  go_simp
                  (refine (HAD.out _ (by first | exact HP4.out | exact HP4.out.drew)).mono ?_; rintro e w5 ⟨rfl, qq⟩; have HP5 := Lib.hid qq; clear qq)
                  refine hK.out _ _ ?_ (fun hHeld => ?_)
                  · exact SF.out _ _ _ HP5.out
                  clear hK K
                  (try simp only [Act.put, List.setIfInBounds_toArray, List.set_cons_zero, List.set_cons_succ, List.getElem_toArray, List.getElem_cons_zero, List.getElem_cons_succ])
                  refine wpAnyH_take (i := 16) (oi := _) (v := ?vo2ce16) rfl (by kernel_rfl) (by kernel_rfl) (by kernel_rfl) (fun _ _ _ h => h) (Or.inl ⟨by rfl, ?hyo2ce16⟩) (by assumption) ?resto2ce16
                  case hyo2ce16 => (intro w hSw; (try dsimp only at hSw); (try simp only [List.getElem_toArray, List.getElem_cons_zero, List.getElem_cons_succ]); go_simp; (try with_reducible rfl))
                  (try simp only [Act.put, List.setIfInBounds_toArray, List.set_cons_zero, List.set_cons_succ, List.getElem_toArray, List.getElem_cons_zero, List.getElem_cons_succ])
                  refine wpAnyH_take (i := 17) (oi := _) (v := ?vo2ce17) rfl (by kernel_rfl) (by kernel_rfl) (by kernel_rfl) (fun _ _ _ h => h) (Or.inl ⟨by rfl, ?hyo2ce17⟩) (by assumption) ?resto2ce17
                  case hyo2ce17 => (intro w hSw; (try dsimp only at hSw); (try simp only [List.getElem_toArray, List.getElem_cons_zero, List.getElem_cons_succ]); go_simp; (try with_reducible rfl))
                  (try simp only [Act.put, List.setIfInBounds_toArray, List.set_cons_zero, List.set_cons_succ, List.getElem_toArray, List.getElem_cons_zero, List.getElem_cons_succ])
                  refine wpAnyH_take (i := 18) (oi := _) (v := ?vo2ce18) rfl (by kernel_rfl) (by kernel_rfl) (by kernel_rfl) (fun _ _ _ h => h) (Or.inl ⟨by rfl, ?hyo2ce18⟩) (by assumption) ?resto2ce18
                  case hyo2ce18 => (intro w hSw; (try dsimp only at hSw); (try simp only [List.getElem_toArray, List.getElem_cons_zero, List.getElem_cons_succ]); go_simp; (try with_reducible rfl))
                  (try simp only [Act.put, List.setIfInBounds_toArray, List.set_cons_zero, List.set_cons_succ, List.getElem_toArray, List.getElem_cons_zero, List.getElem_cons_succ])
                  refine wpAnyH_take (i := 19) (oi := _) (v := ?vo2ce19) rfl (by kernel_rfl) (by kernel_rfl) (by kernel_rfl) (fun _ _ _ h => h) (Or.inl ⟨by rfl, ?hyo2ce19⟩) (by assumption) ?resto2ce19
                  case hyo2ce19 => (intro w hSw; (try dsimp only at hSw); (try simp only [List.getElem_toArray, List.getElem_cons_zero, List.getElem_cons_succ]); go_simp; (try with_reducible rfl))
                  (try simp only [Act.put, List.setIfInBounds_toArray, List.set_cons_zero, List.set_cons_succ, List.getElem_toArray, List.getElem_cons_zero, List.getElem_cons_succ])
                  refine wpAnyH_take (i := 20) (oi := _) (v := ?vo2ce20) rfl (by kernel_rfl) (by kernel_rfl) (by kernel_rfl) (fun _ _ _ h => h) (Or.inl ⟨by rfl, ?hyo2ce20⟩) (by assumption) ?resto2ce20
                  case hyo2ce20 => (intro w hSw; (try dsimp only at hSw); (try simp only [List.getElem_toArray, List.getElem_cons_zero, List.getElem_cons_succ]); go_simp; (try with_reducible rfl))
                  (try simp only [Act.put, List.setIfInBounds_toArray, List.set_cons_zero, List.set_cons_succ, List.getElem_toArray, List.getElem_cons_zero, List.getElem_cons_succ])
                  refine wpAnyH_take (i := 21) (oi := _) (v := ?vo2ce21) rfl (by kernel_rfl) (by kernel_rfl) (by kernel_rfl) (fun _ _ _ h => h) (Or.inl ⟨by rfl, ?hyo2ce21⟩) (by assumption) ?resto2ce21
                  case hyo2ce21 => (intro w hSw; (try dsimp only at hSw); (try simp only [List.getElem_toArray, List.getElem_cons_zero, List.getElem_cons_succ]); go_simp; (try with_reducible rfl))
                  (try simp only [Act.put, List.setIfInBounds_toArray, List.set_cons_zero, List.set_cons_succ, List.getElem_toArray, List.getElem_cons_zero, List.getElem_cons_succ])
                  refine wpAnyH_take (i := 22) (oi := _) (v := ?vo2ce22) rfl (by kernel_rfl) (by kernel_rfl) (by kernel_rfl) (fun _ _ _ h => h) (Or.inl ⟨by rfl, ?hyo2ce22⟩) (by assumption) ?resto2ce22
                  case hyo2ce22 => (intro w hSw; (try dsimp only at hSw); (try simp only [List.getElem_toArray, List.getElem_cons_zero, List.getElem_cons_succ]); go_simp; (try with_reducible rfl))
                  (try simp only [Act.put, List.setIfInBounds_toArray, List.set_cons_zero, List.set_cons_succ, List.getElem_toArray, List.getElem_cons_zero, List.getElem_cons_succ])
                  refine wpAnyH_take (i := 24) (oi := _) (v := ?vo2ce24) rfl (by kernel_rfl) (by kernel_rfl) (by kernel_rfl) (fun _ _ _ h => h) (Or.inl ⟨by rfl, ?hyo2ce24⟩) (by assumption) ?resto2ce24
                  case hyo2ce24 => (intro w hSw; (try dsimp only at hSw); (try simp only [List.getElem_toArray, List.getElem_cons_zero, List.getElem_cons_succ]); go_simp; (try with_reducible rfl))
                  (try simp only [Act.put, List.setIfInBounds_toArray, List.set_cons_zero, List.set_cons_succ, List.getElem_toArray, List.getElem_cons_zero, List.getElem_cons_succ])
                  refine wpAnyH_take (i := 25) (oi := _) (v := ?vo2ce25) rfl (by kernel_rfl) (by kernel_rfl) (by kernel_rfl) (fun _ _ _ h => h) (Or.inl ⟨by rfl, ?hyo2ce25⟩) (by assumption) ?resto2ce25
                  case hyo2ce25 => (intro w hSw; (try dsimp only at hSw); (try simp only [List.getElem_toArray, List.getElem_cons_zero, List.getElem_cons_succ]); go_simp; (try with_reducible rfl))
                  (try simp only [Act.put, List.setIfInBounds_toArray, List.set_cons_zero, List.set_cons_succ, List.getElem_toArray, List.getElem_cons_zero, List.getElem_cons_succ])
                  refine wpAnyH_take (i := 26) (oi := _) (v := ?vo2ce26) rfl (by kernel_rfl) (by kernel_rfl) (by kernel_rfl) (fun _ _ _ h => h) (Or.inl ⟨by rfl, ?hyo2ce26⟩) (by assumption) ?resto2ce26
                  case hyo2ce26 => (intro w hSw; (try dsimp only at hSw); (try simp only [List.getElem_toArray, List.getElem_cons_zero, List.getElem_cons_succ]); go_simp; (try with_reducible rfl))
                  (try simp only [Act.put, List.setIfInBounds_toArray, List.set_cons_zero, List.set_cons_succ, List.getElem_toArray, List.getElem_cons_zero, List.getElem_cons_succ])
                  refine wpAnyH_take (i := 27) (oi := _) (v := ?vo2ce27) rfl (by kernel_rfl) (by kernel_rfl) (by kernel_rfl) (fun _ _ _ h => h) (Or.inl ⟨by rfl, ?hyo2ce27⟩) (by assumption) ?resto2ce27
                  case hyo2ce27 => (intro w hSw; (try dsimp only at hSw); (try simp only [List.getElem_toArray, List.getElem_cons_zero, List.getElem_cons_succ]); go_simp; (try with_reducible rfl))
                  (try simp only [Act.put, List.setIfInBounds_toArray, List.set_cons_zero, List.set_cons_succ, List.getElem_toArray, List.getElem_cons_zero, List.getElem_cons_succ])
                  refine wpAnyH_take (i := 28) (oi := _) (v := ?vo2ce28) rfl (by kernel_rfl) (by kernel_rfl) (by kernel_rfl) (fun _ _ _ h => h) (Or.inl ⟨by rfl, ?hyo2ce28⟩) (by assumption) ?resto2ce28
                  case hyo2ce28 => (intro w hSw; (try dsimp only at hSw); (try simp only [List.getElem_toArray, List.getElem_cons_zero, List.getElem_cons_succ]); go_simp; (try with_reducible rfl))
                  (try simp only [Act.put, List.setIfInBounds_toArray, List.set_cons_zero, List.set_cons_succ, List.getElem_toArray, List.getElem_cons_zero, List.getElem_cons_succ])
                  refine wpAnyH_take (i := 29) (oi := _) (v := ?vo2ce29) rfl (by kernel_rfl) (by kernel_rfl) (by kernel_rfl) (fun _ _ _ h => h) (Or.inl ⟨by rfl, ?hyo2ce29⟩) (by assumption) ?resto2ce29
                  case hyo2ce29 => (intro w hSw; (try dsimp only at hSw); (try simp only [List.getElem_toArray, List.getElem_cons_zero, List.getElem_cons_succ]); go_simp; (try with_reducible rfl))
                  (try simp only [Act.put, List.setIfInBounds_toArray, List.set_cons_zero, List.set_cons_succ, List.getElem_toArray, List.getElem_cons_zero, List.getElem_cons_succ])
                  refine wpAnyH_ready (rs := [23]) (by kernel_rfl) (by simp) ?_
                  refine AllReadyH.cons (o := _) rfl (fun K hK => ?_) AllReadyH.nil
                  (try simp only [List.getElem_toArray, List.getElem_cons_zero, List.getElem_cons_succ])
                  go_simp
                  (refine (HNW.out s _ HSM.out (by first | exact HP5.out | exact HP5.out.drew)).mono ?_; rintro e w6 ⟨rfl, qq⟩; have HP6 := Lib.hid qq; clear qq)
                  refine hK.out _ _ ?_ (fun hHeld => ?_)
                  · exact SF.out _ _ _ HP6.out
                  clear hK K
                  (try simp only [Act.put, List.setIfInBounds_toArray, List.set_cons_zero, List.set_cons_succ, List.getElem_toArray, List.getElem_cons_zero, List.getElem_cons_succ])
                  refine wpAnyH_take (i := 30) (oi := _) (v := ?vo2ce30) rfl (by kernel_rfl) (by kernel_rfl) (by kernel_rfl) (fun _ _ _ h => h) (Or.inl ⟨by rfl, ?hyo2ce30⟩) (by assumption) ?resto2ce30
                  case hyo2ce30 => (intro w hSw; (try dsimp only at hSw); (try simp only [List.getElem_toArray, List.getElem_cons_zero, List.getElem_cons_succ]); go_simp; (try with_reducible rfl))
                  (try simp only [Act.put, List.setIfInBounds_toArray, List.set_cons_zero, List.set_cons_succ, List.getElem_toArray, List.getElem_cons_zero, List.getElem_cons_succ])
                  refine wpAnyH_take (i := 31) (oi := _) (v := ?vo2ce31) rfl (by kernel_rfl) (by kernel_rfl) (by kernel_rfl) (fun _ _ _ h => h) (Or.inl ⟨by rfl, ?hyo2ce31⟩) (by assumption) ?resto2ce31
                  case hyo2ce31 => (intro w hSw; (try dsimp only at hSw); (try simp only [List.getElem_toArray, List.getElem_cons_zero, List.getElem_cons_succ]); go_simp; (try with_reducible rfl))
                  (try simp only [Act.put, List.setIfInBounds_toArray, List.set_cons_zero, List.set_cons_succ, List.getElem_toArray, List.getElem_cons_zero, List.getElem_cons_succ])
                  refine wpAnyH_take (i := 32) (oi := _) (v := ?vo2ce32) rfl (by kernel_rfl) (by kernel_rfl) (by kernel_rfl) (fun _ _ _ h => h) (Or.inl ⟨by rfl, ?hyo2ce32⟩) (by assumption) ?resto2ce32
                  case hyo2ce32 => (intro w hSw; (try dsimp only at hSw); (try simp only [List.getElem_toArray, List.getElem_cons_zero, List.getElem_cons_succ]); go_simp; (try with_reducible rfl))
                  (try simp only [Act.put, List.setIfInBounds_toArray, List.set_cons_zero, List.set_cons_succ, List.getElem_toArray, List.getElem_cons_zero, List.getElem_cons_succ])
                  refine wpAnyH_take (i := 33) (oi := _) (v := ?vo2ce33) rfl (by kernel_rfl) (by kernel_rfl) (by kernel_rfl) (fun _ _ _ h => h) (Or.inl ⟨by rfl, ?hyo2ce33⟩) (by assumption) ?resto2ce33
                  case hyo2ce33 => (intro w hSw; (try dsimp only at hSw); (try simp only [List.getElem_toArray, List.getElem_cons_zero, List.getElem_cons_succ]); go_simp; (try with_reducible rfl))
                  (try simp only [Act.put, List.setIfInBounds_toArray, List.set_cons_zero, List.set_cons_succ, List.getElem_toArray, List.getElem_cons_zero, List.getElem_cons_succ])
                  refine wpAnyH_take (i := 34) (oi := _) (v := ?vo2ce34) rfl (by kernel_rfl) (by kernel_rfl) (by kernel_rfl) (fun _ _ _ h => h) (Or.inl ⟨by rfl, ?hyo2ce34⟩) (by assumption) ?resto2ce34
                  case hyo2ce34 => (intro w hSw; (try dsimp only at hSw); (try simp only [List.getElem_toArray, List.getElem_cons_zero, List.getElem_cons_succ]); go_simp; (try with_reducible rfl))
                  (try simp only [Act.put, List.setIfInBounds_toArray, List.set_cons_zero, List.set_cons_succ, List.getElem_toArray, List.getElem_cons_zero, List.getElem_cons_succ])
                  refine wpAnyH_take (i := 36) (oi := _) (v := ?vo2ce36) rfl (by kernel_rfl) (by kernel_rfl) (by kernel_rfl) (fun _ _ _ h => h) (Or.inl ⟨by rfl, ?hyo2ce36⟩) (by assumption) ?resto2ce36
                  case hyo2ce36 => (intro w hSw; (try dsimp only at hSw); (try simp only [List.getElem_toArray, List.getElem_cons_zero, List.getElem_cons_succ]); go_simp; (try with_reducible rfl))
                  (try simp only [Act.put, List.setIfInBounds_toArray, List.set_cons_zero, List.set_cons_succ, List.getElem_toArray, List.getElem_cons_zero, List.getElem_cons_succ])
                  refine wpAnyH_take (i := 37) (oi := _) (v := ?vo2ce37) rfl (by kernel_rfl) (by kernel_rfl) (by kernel_rfl) (fun _ _ _ h => h) (Or.inl ⟨by rfl, ?hyo2ce37⟩) (by assumption) ?resto2ce37
                  case hyo2ce37 => (intro w hSw; (try dsimp only at hSw); (try simp only [List.getElem_toArray, List.getElem_cons_zero, List.getElem_cons_succ]); go_simp; (try with_reducible rfl))
                  (try simp only [Act.put, List.setIfInBounds_toArray, List.set_cons_zero, List.set_cons_succ, List.getElem_toArray, List.getElem_cons_zero, List.getElem_cons_succ])
                  refine wpAnyH_take (i := 38) (oi := _) (v := ?vo2ce38) rfl (by kernel_rfl) (by kernel_rfl) (by kernel_rfl) (fun _ _ _ h => h) (Or.inl ⟨by rfl, ?hyo2ce38⟩) (by assumption) ?resto2ce38
                  case hyo2ce38 => (intro w hSw; (try dsimp only at hSw); (try simp only [List.getElem_toArray, List.getElem_cons_zero, List.getElem_cons_succ]); go_simp; (try with_reducible rfl))
                  (try simp only [Act.put, List.setIfInBounds_toArray, List.set_cons_zero, List.set_cons_succ, List.getElem_toArray, List.getElem_cons_zero, List.getElem_cons_succ])
                  refine wpAnyH_ready (rs := [35]) (by kernel_rfl) (by simp) ?_
                  refine AllReadyH.cons (o := _) rfl (fun K hK => ?_) AllReadyH.nil
                  (try simp only [List.getElem_toArray, List.getElem_cons_zero, List.getElem_cons_succ])
                  go_simp
                  (refine (HNW.out ask _ HA.out (by first | exact HP6.out | exact HP6.out.drew)).mono ?_; rintro e w7 ⟨rfl, qq⟩; have HP7 := Lib.hid qq; clear qq)
                  refine hK.out _ _ ?_ (fun hHeld => ?_)
                  · exact SF.out _ _ _ HP7.out
                  clear hK K
                  (try simp only [Act.put, List.setIfInBounds_toArray, List.set_cons_zero, List.set_cons_succ, List.getElem_toArray, List.getElem_cons_zero, List.getElem_cons_succ])
                  refine wpAnyH_take (i := 39) (oi := _) (v := ?vo2ce39) rfl (by kernel_rfl) (by kernel_rfl) (by kernel_rfl) (fun _ _ _ h => h) (Or.inl ⟨by rfl, ?hyo2ce39⟩) (by assumption) ?resto2ce39
                  case hyo2ce39 => (intro w hSw; (try dsimp only at hSw); (try simp only [List.getElem_toArray, List.getElem_cons_zero, List.getElem_cons_succ]); go_simp; (try with_reducible rfl))
                  (try simp only [Act.put, List.setIfInBounds_toArray, List.set_cons_zero, List.set_cons_succ, List.getElem_toArray, List.getElem_cons_zero, List.getElem_cons_succ])
                  refine wpAnyH_take (i := 40) (oi := _) (v := ?vo2ce40) rfl (by kernel_rfl) (by kernel_rfl) (by kernel_rfl) (fun _ _ _ h => h) (Or.inl ⟨by rfl, ?hyo2ce40⟩) (by assumption) ?resto2ce40
                  case hyo2ce40 => (intro w hSw; (try dsimp only at hSw); (try simp only [List.getElem_toArray, List.getElem_cons_zero, List.getElem_cons_succ]); go_simp; (try with_reducible rfl))
                  (try simp only [Act.put, List.setIfInBounds_toArray, List.set_cons_zero, List.set_cons_succ, List.getElem_toArray, List.getElem_cons_zero, List.getElem_cons_succ])
                  refine wpAnyH_take (i := 41) (oi := _) (v := ?vo2ce41) rfl (by kernel_rfl) (by kernel_rfl) (by kernel_rfl) (fun _ _ _ h => h) (Or.inl ⟨by rfl, ?hyo2ce41⟩) (by assumption) ?resto2ce41
                  case hyo2ce41 => (intro w hSw; (try dsimp only at hSw); (try simp only [List.getElem_toArray, List.getElem_cons_zero, List.getElem_cons_succ]); go_simp; (try with_reducible rfl))
                  (try simp only [Act.put, List.setIfInBounds_toArray, List.set_cons_zero, List.set_cons_succ, List.getElem_toArray, List.getElem_cons_zero, List.getElem_cons_succ])
                  refine wpAnyH_take (i := 42) (oi := _) (v := ?vo2ce42) rfl (by kernel_rfl) (by kernel_rfl) (by kernel_rfl) (fun _ _ _ h => h) (Or.inl ⟨by rfl, ?hyo2ce42⟩) (by assumption) ?resto2ce42
                  case hyo2ce42 => (intro w hSw; (try dsimp only at hSw); (try simp only [List.getElem_toArray, List.getElem_cons_zero, List.getElem_cons_succ]); go_simp; (try with_reducible rfl))
                  (try simp only [Act.put, List.setIfInBounds_toArray, List.set_cons_zero, List.set_cons_succ, List.getElem_toArray, List.getElem_cons_zero, List.getElem_cons_succ])
                  refine wpAnyH_take (i := 43) (oi := _) (v := ?vo2ce43) rfl (by kernel_rfl) (by kernel_rfl) (by kernel_rfl) (fun _ _ _ h => h) (Or.inl ⟨by rfl, ?hyo2ce43⟩) (by assumption) ?resto2ce43
                  case hyo2ce43 => (intro w hSw; (try dsimp only at hSw); (try simp only [List.getElem_toArray, List.getElem_cons_zero, List.getElem_cons_succ]); go_simp; (try with_reducible rfl))
                  (try simp only [Act.put, List.setIfInBounds_toArray, List.set_cons_zero, List.set_cons_succ, List.getElem_toArray, List.getElem_cons_zero, List.getElem_cons_succ])
                  refine wpAnyH_take (i := 44) (oi := _) (v := ?vo2ce44) rfl (by kernel_rfl) (by kernel_rfl) (by kernel_rfl) (fun _ _ _ h => h) (Or.inl ⟨by rfl, ?hyo2ce44⟩) (by assumption) ?resto2ce44
                  case hyo2ce44 => (intro w hSw; (try dsimp only at hSw); (try simp only [List.getElem_toArray, List.getElem_cons_zero, List.getElem_cons_succ]); go_simp; (try with_reducible rfl))
                  (try simp only [Act.put, List.setIfInBounds_toArray, List.set_cons_zero, List.set_cons_succ, List.getElem_toArray, List.getElem_cons_zero, List.getElem_cons_succ])
                  refine wpAnyH_take (i := 45) (oi := _) (v := ?vo2ce45) rfl (by kernel_rfl) (by kernel_rfl) (by kernel_rfl) (fun _ _ _ h => h) (Or.inl ⟨by rfl, ?hyo2ce45⟩) (by assumption) ?resto2ce45
                  case hyo2ce45 => (intro w hSw; (try dsimp only at hSw); (try simp only [List.getElem_toArray, List.getElem_cons_zero, List.getElem_cons_succ]); go_simp; (try with_reducible rfl))
                  (try simp only [Act.put, List.setIfInBounds_toArray, List.set_cons_zero, List.set_cons_succ, List.getElem_toArray, List.getElem_cons_zero, List.getElem_cons_succ])
                  refine wpAnyH_take (i := 46) (oi := _) (v := ?vo2ce46) rfl (by kernel_rfl) (by kernel_rfl) (by kernel_rfl) (fun _ _ _ h => h) (Or.inl ⟨by rfl, ?hyo2ce46⟩) (by assumption) ?resto2ce46
                  case hyo2ce46 => (intro w hSw; (try dsimp only at hSw); (try simp only [List.getElem_toArray, List.getElem_cons_zero, List.getElem_cons_succ]); go_simp; (try with_reducible rfl))
                  (try simp only [Act.put, List.setIfInBounds_toArray, List.set_cons_zero, List.set_cons_succ, List.getElem_toArray, List.getElem_cons_zero, List.getElem_cons_succ])
                  refine wpAnyH_take (i := 47) (oi := _) (v := ?vo2ce47) rfl (by kernel_rfl) (by kernel_rfl) (by kernel_rfl) (fun _ _ _ h => h) (Or.inl ⟨by rfl, ?hyo2ce47⟩) (by assumption) ?resto2ce47
                  case hyo2ce47 => (intro w hSw; (try dsimp only at hSw); (try simp only [List.getElem_toArray, List.getElem_cons_zero, List.getElem_cons_succ]); go_simp; (try with_reducible rfl))
                  (try simp only [Act.put, List.setIfInBounds_toArray, List.set_cons_zero, List.set_cons_succ, List.getElem_toArray, List.getElem_cons_zero, List.getElem_cons_succ])
                  refine wpAnyH_done (by kernel_rfl) ?_ _
                  refine NoPanic.normal ?_
                  clear SF HAD HNW hgt
                  have hN := HP7.out.isNames (by rw [← HR'.out]; omega)
                  rw [← HR'.out] at hN
                  have HN := Lib.hid hN
                  clear hN
                  go_wp2_with fail
                  refine HN.out.mono ?_
                  rintro e w8 ⟨Y8, yc8, rfl, q8, b8⟩
                  have HP8 := Lib.hid q8
                  have HB8 := Lib.hid b8
                  clear q8 b8 HN
                  go_wp2_with fail
                  refine (HP8.out.isTexts r' yc8 (rising km') HB8.out (by omega) (by omega)).mono ?_
                  rintro e w9 ⟨rfl, q9, b9⟩
                  have HP9 := Lib.hid q9
                  have HB9 := Lib.hid b9
                  clear q9 b9
                  have HSA : Hid (Calls Tryz.prog 9 #[.slice Y8 r' yc8, .slice A5 r' c5] w9 fun e w' => e = .returned (.bool true) ∧ ∃ k, w' = w9.drewN k) := by
                    have q1 := HB9.out.src
                    have q2 := HP9.out.ord.src
                    rw [rising_length, ← HR'.out] at q2
                    exact same_Texts Y8 A5 r' yc8 c5 ((rising km').map fun x => ⟨x.toArray⟩) w9 (by rw [List.map_map]; exact q1) (by rw [List.map_map]; exact q2) (by omega)
                  go_wp2_with fail
                  refine HSA.out.mono ?_
                  rintro e w10 ⟨rfl, kq, rfl⟩
                  have HPE := Lib.hid (HP9.out.drewN kq)
                  go_wp2_with fail
                  go_roundw
                  case rel => exact ⟨k + 1, r', A5, c5, km', g', by go_num, rfl, by omega, by omega, HR', K1, C1, HPE⟩
                  case measure => simp [intOf]; omega

    · have HKn : Hid (km.length ≤ 40) := by
        have h1 := bpLen L k
        show _ ≤ _
        rw [HKM.out]; omega
      have hd3 : decide (k < n) = false := by simpa using hlt
      go_wp2_with fail
      refine (badd_nil _ _ _).mono ?_
      rintro e w2 ⟨rfl, rfl⟩
      go_wp2_with fail
      refine (bnow_nil _ _).mono ?_
      rintro e w2 ⟨rfl, rfl⟩
      go_wp2_with fail
      refine (bnames_nil _).mono ?_
      rintro e w2 ⟨rfl, rfl⟩
      go_wp2_with fail
      refine (HP.out.isApart (by omega)).mono ?_
      rintro e w2 ⟨rfl, hb⟩
      have HBE := Lib.hid hb
      clear hb
      go_wp2_with fail
      go_ret
      exact ⟨rfl, HBE.out⟩

end Go.Proofs.YtkhhmnmemdadmaaGreat
