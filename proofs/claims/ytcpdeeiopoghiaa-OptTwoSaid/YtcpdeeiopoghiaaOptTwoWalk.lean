/- Law OptTwo: the walk. Own work. -/
import Derived.Test.YtcpdeeiopoghiaaOptAlive
import Derived.Test.YtcpdeeiopoghiaaTwoM
import Derived.Test.YtcpdeeiopoghiaaInfoO
import Derived.Deep.RegionLaw
import Derived.Deep.CutRange
namespace Go.Proofs.Ytcpdeeiopoghiaa
set_option linter.unusedVariables false
set_option linter.unusedSimpArgs false
open Go.RowKit

theorem one_bool (b : Bool) : ∀ u ∈ [Value.bool b], u.oneCell' = true := by
  intro u hu
  rw [List.mem_singleton.1 hu]
  rfl

set_option maxRecDepth 100000 in
set_option maxHeartbeats 16000000 in
theorem two_good (A : Option Addr) (n cap : Nat) (xs : List Bool) (ag : Bool) (w : World) (hx : Bools w A n xs) (h2 : n ≤ 20) :
    Calls Try.prog 5 #[.slice A n cap, .bool ag] w fun e w' => e = .returned (.bool true) ∧ Below w.heap.size w w' := by
  obtain ⟨i0, hi0, hz0, hz1, hz2⟩ := info_parts bool_info
  have HI := Lib.hid (And.intro hi0 (And.intro hz0 (And.intro hz1 hz2)))
  have HXS := Lib.hid hx
  have hd1 : decide (20 < (n : Int)) = false := by simp; omega
  clear hx hi0 hz0 hz1 hz2
  go_enter Try.func5, Try.ntmps5
  go_wp2_with fail
  refine (alive_any _).mono ?_
  rintro r w1 ⟨rfl, hb⟩
  have HB1 := Lib.hid hb
  clear hb
  obtain ⟨pa, hpa⟩ : ∃ pa, pa = w1.heap.size := ⟨_, rfl⟩
  have HT0 : Hid (TwoAt w ((w1.alloc (.cells #[.int .i64 0, .bool false] 26)).alloc (.cells #[.int .i64 0, .bool false] 26)) pa (pa + 1) 0 false 0 false none 0 0 [] none 0 0 []) :=
    Lib.hid ⟨(Box.new w1 0 false 26 pa hpa).alloc _, Box.new _ 0 false 26 (pa + 1) (by simp [hpa]), Buf.nil _, Buf.nil _, fun k hk => by simp [blk] at hk, fun k hk => by simp [blk] at hk, fun k hk => by simp [blk] at hk, by omega, by rw [hpa]; exact HB1.out.size, by have := HB1.out.size; omega,
      (HB1.out.alloc HB1.out.size _).alloc (by have := HB1.out.size; simp; omega) _⟩
  go_wp2_with fail
  rw [← hpa]
  clear hpa
  go_loopw [7, 8, 9] (fun tbv tav iv wr => ∃ (k : Nat) (sa : Int) (oa : Bool) (sb : Int) (TB : Option Addr) (nb cb : Nat) (lb : List Value) (TA : Option Addr) (ca : Nat), iv = .int .i64 k ∧ tbv = .slice TB nb cb ∧ tav = .slice TA 0 ca ∧ Hid (OuterAt xs n ag k sa oa sb nb lb) ∧ Hid (TwoAt w wr pa (pa + 1) sa oa sb false TB nb cb lb TA 0 ca [])) (fun _ _ iv _ => n + 1 - (intOf iv).toNat)
  case atStart => exact ⟨0, 0, false, 0, none, 0, 0, [], none, 0, rfl, rfl, rfl, Lib.hid (.inl ⟨by omega, rfl, .inl ⟨rfl, rfl, rfl, rfl, rfl⟩⟩), HT0⟩
  case round =>
    obtain ⟨k, sa, oa, sb, TB, nb, cb, lb, TA, ca, rfl, rfl, rfl, HO, HT⟩ := hrel
    have hk1 := outer_le HO.out
    by_cases hlt : k < n
    · have d1 : decide ((k : Int) ≤ (n : Int)) = true := by simp; omega
      have d2 : decide ((k : Int) < (n : Int)) = true := by simp; omega
      have d3 : ((k : Int) == (n : Int)) = false := by simp; omega
      obtain ⟨hl, hc, _⟩ := HXS.out
      obtain ⟨b, off, rfl, hbl, hc⟩ := hc (by omega)
      obtain ⟨x, hx⟩ : ∃ x, xs[k]? = some x := ⟨xs[k], List.getElem?_eq_getElem (by omega)⟩
      have hx2 := (HT.out.base.cell (p := ⟨b, off + k, none⟩) hbl).trans (hc k x hx)
      obtain ⟨sa', oa', n1, hcc, hst⟩ := ask_step HO.out hlt hx
      have HC := Lib.hid hcc
      have HST := Lib.hid hst
      obtain ⟨l0, c0, c1, f0, f1⟩ := HT.out.a
      have hbw : b < wr.heap.size := Nat.lt_of_lt_of_le hbl HT.out.base.size
      clear hc hx hcc hst HO
      go_upto_region 9 with fail
      go_cut [10, 11] from 28 to 115 (fun qv nv wx => ∃ q : Nat, qv = .pointer (some ⟨q, 0, none⟩) ∧ nv = .int .i64 n1 ∧ Hid (Box wx q sa' oa') ∧ wr.heap.size ≤ q ∧ Hid (Below wr.heap.size wr wx))
      case first =>
        go_region_law (first | (go_simp; go_at_call 10; refine (HC.out _).mono ?_; rintro e w5 ⟨rfl, hb⟩; (try have hQ5 := Lib.hid (((Box.new wr 0 false 26 _ rfl).drew).call hb)); (try obtain ⟨m0, d0, d1, g0, g1⟩ := hQ5.out)) | fail)
        all_goals
          go_wp2_with fail
          go_meet
          first
            | exact ⟨w5.heap.size, rfl, rfl, Lib.hid (Box.new w5 _ _ _ _ rfl), by have := hb.size; simpa using this, Lib.hid ((((Below.refl _ _).drew).trans hb).alloc (by have := hb.size; simpa using this) _)⟩
            | exact ⟨wr.heap.size, rfl, rfl, Lib.hid (hQ5.out.put _ _), Nat.le_refl _, Lib.hid ((((((Below.refl wr.heap.size wr).alloc (Nat.le_refl _) _).drew).trans (hb.mono (by simp))).setCell (p := ⟨wr.heap.size, 0, none⟩) (Nat.le_refl _) _).setCell (p := ⟨wr.heap.size, 1, none⟩) (Nat.le_refl _) _)⟩
            | fail
      case rest =>
        obtain ⟨g, rfl, rfl, HQ, hg, HBW⟩ := hcut
        have HT1 := Lib.hid (HT.out.below HBW.out)
        clear l0 c0 c1 f0 f1 hx2
        obtain ⟨l0, c0, c1, f0, f1⟩ := HT1.out.a
        obtain ⟨gl, gc0, gc1, gf0, gf1⟩ := HQ.out
        go_upto_region 11 with fail
        obtain ⟨W2, hW2⟩ : ∃ W2, W2 = (wc.setCell ⟨pa, 0, none⟩ (.int .i64 sa')).setCell ⟨pa, 1, none⟩ (.bool oa') := ⟨_, rfl⟩
        rw [← hW2]
        have HT2 : Hid (TwoAt w W2 pa (pa + 1) sa' oa' sb false TB nb cb lb TA 0 ca []) := Lib.hid (hW2 ▸ HT1.out.setA sa' oa')
        clear hW2 l0 c0 c1 f0 f1 gl gc0 gc1 gf0 gf1 HT HT1 HQ HBW hg hbw
        rcases HST.out with ⟨hn1, ho⟩ | ⟨hn1, hn2, rfl, rfl, ho⟩
        · have HO2 := Lib.hid ho
          clear HST ho
          go_wp2_with fail
          go_loopw [7, 8, 12] (fun tbv tav kv wr => kv = .int .i64 0 ∧ tbv = .slice TB nb cb ∧ tav = .slice TA 0 ca ∧ Hid (TwoAt w wr pa (pa + 1) sa' oa' sb false TB nb cb lb TA 0 ca [])) (fun _ _ _ _ => 0)
          case atStart => exact ⟨rfl, rfl, rfl, HT2⟩
          case round =>
            obtain ⟨rfl, rfl, rfl, HT3⟩ := hrel
            go_wp2_with fail
            go_roundw
            case rel => exact ⟨k + 1, sa', oa', sb, TB, nb, cb, lb, TA, ca, by go_num, rfl, rfl, HO2, HT3⟩
            case measure => simp [intOf]; omega
        · have HO2 := Lib.hid ho
          clear HST ho
          obtain ⟨hi0, hz0, hz1, hz2⟩ := HI.out
          go_wp2_with (at_builtin; refine wpList_append_buf _ rfl (.tmp 50) (.tmp 53) 37 rfl 4 i0 (.bool false) 1 Try.underlying37 hi0 hz0 hz1 hz2 rfl rfl (HT2.out.alloc _).tb [.bool true] rfl (src_one _ _ _ rfl) (one_bool true) ?_ ?_ ?_)
          · decide
          · decide
          intro TD cd W3 hb hk hat
          have HT3 : Hid (TwoAt w W3 pa (pa + 1) sa' oa' sb false TD 1 cd [.bool true] TA 0 ca []) := Lib.hid ((HT2.out.alloc _).appB hb hk (by simpa using hat))
          clear hb hk hat HT2 hi0 hz0 hz1 hz2
          go_wp2_with fail
          go_loopw [7, 8, 12] (fun tbv tav kv wr => kv = .int .i64 0 ∧ tbv = .slice TD 1 cd ∧ tav = .slice TA 0 ca ∧ Hid (TwoAt w wr pa (pa + 1) sa' oa' sb false TD 1 cd [.bool true] TA 0 ca [])) (fun _ _ _ _ => 0)
          case atStart => exact ⟨rfl, rfl, rfl, HT3⟩
          case round =>
            obtain ⟨rfl, rfl, rfl, HT3⟩ := hrel
            go_wp2_with fail
            go_roundw
            case rel => exact ⟨k + 1, sa', oa', sb, TD, 1, cd, [.bool true], TA, ca, by go_num, rfl, rfl, HO2, HT3⟩
            case measure => simp [intOf]; omega
    · by_cases heq : k = n
      · subst heq
        have d1 : decide ((k : Int) ≤ (k : Int)) = true := by simp
        have d2 : decide ((k : Int) < (k : Int)) = false := by simp
        obtain ⟨o, hph⟩ := phase_start HO.out
        generalize hfin : (if (ag && lastOf xs k) = true then (1 : Int) else 0) = fin at hph
        have HF := Lib.hid hfin
        have HP := Lib.hid hph
        clear hfin hph HO
        go_wp2_with fail
        go_loopw [7, 8, 12] (fun tbv tav kv wr => ∃ (q : Nat) (sa : Int) (oa : Bool) (sb : Int) (TB : Option Addr) (nb cb : Nat) (lb : List Value) (TA : Option Addr) (ca : Nat), kv = .int .i64 q ∧ q ≤ 2 ∧ tbv = .slice TB nb cb ∧ tav = .slice TA 0 ca ∧ Hid (PhaseAt ag o fin q sa oa sb nb lb) ∧ Hid (TwoAt w wr pa (pa + 1) sa oa sb false TB nb cb lb TA 0 ca [])) (fun _ _ kv _ => 3 - (intOf kv).toNat)
        case atStart => exact ⟨0, sa, oa, sb, TB, nb, cb, lb, TA, ca, rfl, by omega, rfl, rfl, HP, HT⟩
        case round =>
          obtain ⟨q, sa, oa, sb, TB, nb, cb, lb, TA, ca, rfl, hq, rfl, rfl, HP, HT⟩ := hrel
          have d3 : decide ((q : Int) < 100) = true := by simp; omega
          by_cases hnb : nb = 0
          · subst hnb
            obtain ⟨rfl, rfl, rfl, rfl⟩ := phase_end HP.out
            go_wp2_with fail
            go_roundw
            case rel => exact ⟨k + 1, _, _, _, _, _, _, _, _, _, by go_num, rfl, rfl, Lib.hid (.inr ⟨rfl, rfl, rfl, HF.out.symm, rfl, rfl⟩), HT⟩
            case measure => simp [intOf]
          · obtain ⟨x, sb', n1, y, sa', n2, rfl, rfl, hq1, hh1, hn1, hy, hh2, hv1, hv2, hnx⟩ := phase_step HP.out hnb
            have hc1 := fun W => side_heard sb false x ag W hv1
            have hc2 := fun W => side_heard sa oa y true W hv2
            rw [hh1] at hc1
            rw [hh2] at hc2
            have HC1 := Lib.hid hc1
            have HC2 := Lib.hid hc2
            have HN := Lib.hid hnx
            obtain ⟨tb, tf, rfl, htl, hrow⟩ := HT.out.tb.some_of (by omega)
            have hc0 := hrow.val 0 (.bool x) rfl
            rw [Nat.add_zero] at hc0
            obtain ⟨l0, c0, c1, f0, f1⟩ := HT.out.b
            clear hc1 hc2 hnx hh1 hh2 hv1 hv2 hrow hnb HP
            go_upto_region 17 with fail
            go_cut [13, 14] from 55 to 115 (fun qv nv wx => ∃ q : Nat, qv = .pointer (some ⟨q, 0, none⟩) ∧ nv = .int .i64 n1 ∧ Hid (Box wx q sb' false) ∧ wr.heap.size ≤ q ∧ Hid (Below wr.heap.size wr wx))
            case first =>
              go_region_law (first | (go_simp; go_at_call 8; refine (HC1.out _).mono ?_; rintro e w5 ⟨rfl, hb⟩; (try have hQ5 := Lib.hid (((Box.new wr 0 false 26 _ rfl).drew).call hb)); (try obtain ⟨m0, d0, d1, g0, g1⟩ := hQ5.out)) | fail)
              all_goals
                go_wp2_with fail
                go_meet
                first
                  | exact ⟨w5.heap.size, rfl, rfl, Lib.hid (Box.new w5 _ _ _ _ rfl), by have := hb.size; simpa using this, Lib.hid ((((Below.refl _ _).drew).trans hb).alloc (by have := hb.size; simpa using this) _)⟩
                  | exact ⟨wr.heap.size, rfl, rfl, Lib.hid (hQ5.out.put _ _), Nat.le_refl _, Lib.hid ((((((Below.refl wr.heap.size wr).alloc (Nat.le_refl _) _).drew).trans (hb.mono (by simp))).setCell (p := ⟨wr.heap.size, 0, none⟩) (Nat.le_refl _) _).setCell (p := ⟨wr.heap.size, 1, none⟩) (Nat.le_refl _) _)⟩
                  | fail
            case rest =>
              obtain ⟨g, rfl, rfl, HQ, hg, HBW⟩ := hcut
              have HT1 := Lib.hid (HT.out.below HBW.out)
              have hgq : pa + 1 ≠ g := by have := HT.out.b.lt; omega
              obtain ⟨OC, hOC⟩ : ∃ OC : Option Addr, OC = if cb = 1 then some ⟨tb, tf, none⟩ else (some ⟨tb, tf, none⟩ : Option Addr).map (·.add 1) := ⟨_, rfl⟩
              have HOC := Lib.hid hOC
              clear l0 c0 c1 f0 f1 hc0 htl hOC
              obtain ⟨l0, c0, c1, f0, f1⟩ := HT1.out.b
              obtain ⟨gl, gc0, gc1, gf0, gf1⟩ := HQ.out
              go_wp2_with fail
              refine wp_region_noPanic ?_
              refine wp_region_held_drew (S := fun w' => w'.cell? ⟨g, 0, none⟩ = some (.int .i64 sb') ∧ w'.cell? ⟨g, 1, none⟩ = some (.bool false)) (by kernel_rfl) ⟨HQ.out.c0, HQ.out.c1⟩ (fun hHeld => ?_)
              refine wpAnyH_take (i := 0) (oi := _) (v := ?vsa0) rfl (by kernel_rfl) (by kernel_rfl) (by kernel_rfl) (fun _ _ _ h => h) (Or.inl ⟨by rfl, ?hysa0⟩) (by assumption) ?restsa0
              case hysa0 => (intro w hSw; (try dsimp only at hSw); (try simp only [List.getElem_toArray, List.getElem_cons_zero, List.getElem_cons_succ]); go_simp; (try with_reducible rfl))
              (try simp only [Act.put, List.setIfInBounds_toArray, List.set_cons_zero, List.set_cons_succ, List.getElem_toArray, List.getElem_cons_zero, List.getElem_cons_succ])
              refine wpAnyH_take (i := 1) (oi := _) (v := ?vsa1) rfl (by kernel_rfl) (by kernel_rfl) (by kernel_rfl) (fun _ _ _ h => h) (Or.inl ⟨by rfl, ?hysa1⟩) (by assumption) ?restsa1
              case hysa1 => (intro w hSw; (try dsimp only at hSw); (try simp only [List.getElem_toArray, List.getElem_cons_zero, List.getElem_cons_succ]); go_simp; (try with_reducible rfl))
              (try simp only [Act.put, List.setIfInBounds_toArray, List.set_cons_zero, List.set_cons_succ, List.getElem_toArray, List.getElem_cons_zero, List.getElem_cons_succ])
              refine wpAnyH_take (i := 2) (oi := _) (v := .slice OC 0 (cb - 1)) rfl (by kernel_rfl) (by kernel_rfl) (by kernel_rfl) (fun _ _ _ h => h) (Or.inl ⟨by rfl, ?hysa2⟩) (by assumption) ?restsa2
              case hysa2 => (intro w hSw; (try dsimp only at hSw); (try simp only [List.getElem_toArray, List.getElem_cons_zero, List.getElem_cons_succ]); go_simp; (first | rfl | (simp [HOC.out]; done) | (simp [HOC.out, add_mk]; done)))
              (try simp only [Act.put, List.setIfInBounds_toArray, List.set_cons_zero, List.set_cons_succ, List.getElem_toArray, List.getElem_cons_zero, List.getElem_cons_succ])
              refine wpAnyH_ready (rs := [3]) (by kernel_rfl) (by simp) ?_
              refine AllReadyH.cons (o := _) rfl (fun K hK => ?_) AllReadyH.nil
              (try simp only [List.getElem_toArray, List.getElem_cons_zero, List.getElem_cons_succ])
              go_simp
              refine hK.out _ _ ?_ (fun hHeld => ?_)
              · exact ⟨((HQ.out.far (q := ⟨pa + 1, 0, none⟩) hgq (.int .i64 sb')).far (q := ⟨pa + 1, 1, none⟩) hgq (.bool false)).c0, ((HQ.out.far (q := ⟨pa + 1, 0, none⟩) hgq (.int .i64 sb')).far (q := ⟨pa + 1, 1, none⟩) hgq (.bool false)).c1⟩
              clear hK K
              (try simp only [Act.put, List.setIfInBounds_toArray, List.set_cons_zero, List.set_cons_succ, List.getElem_toArray, List.getElem_cons_zero, List.getElem_cons_succ])
              refine wpAnyH_take (i := 4) (oi := _) (v := ?vsa4) rfl (by kernel_rfl) (by kernel_rfl) (by kernel_rfl) (fun _ _ _ h => h) (Or.inl ⟨by rfl, ?hysa4⟩) (by assumption) ?restsa4
              case hysa4 => (intro w hSw; (try dsimp only at hSw); (try simp only [List.getElem_toArray, List.getElem_cons_zero, List.getElem_cons_succ]); go_simp; (try with_reducible rfl))
              (try simp only [Act.put, List.setIfInBounds_toArray, List.set_cons_zero, List.set_cons_succ, List.getElem_toArray, List.getElem_cons_zero, List.getElem_cons_succ])
              refine wpAnyH_done (by kernel_rfl) ?_ _
              refine NoPanic.normal ?_
              obtain ⟨W2, hW2⟩ : ∃ W2, W2 = ((wc.setCell ⟨pa + 1, 0, none⟩ (.int .i64 sb')).setCell ⟨pa + 1, 1, none⟩ (.bool false)).drew := ⟨_, rfl⟩
              rw [← hW2]
              have HT2 : Hid (TwoAt w W2 pa (pa + 1) sa oa sb' false OC 0 (cb - 1) [] TA 0 ca []) := Lib.hid (hW2 ▸ ((HT1.out.setB sb' false).drew).cutB HOC.out)
              clear hW2 l0 c0 c1 f0 f1 gl gc0 gc1 gf0 gf1 HT HT1 HOC HQ HBW hg hgq
              obtain ⟨hi0, hz0, hz1, hz2⟩ := HI.out
              go_wp2_with (at_builtin; refine wpList_append_buf _ rfl (.tmp 90) (.tmp 93) 37 rfl 4 i0 (.bool false) 1 Try.underlying37 hi0 hz0 hz1 hz2 rfl rfl (HT2.out.alloc _).ta [.bool y] rfl (src_one _ _ _ rfl) (one_bool y) ?_ ?_ ?_)
              · decide
              · decide
              intro TD cd W3 hb hk hat
              have HT3 : Hid (TwoAt w W3 pa (pa + 1) sa oa sb' false OC 0 (cb - 1) [] TD 1 cd [.bool y]) := Lib.hid ((HT2.out.alloc _).appA hb hk (by simpa using hat))
              clear hb hk hat HT2 hi0 hz0 hz1 hz2
              obtain ⟨td, tg, rfl, htl, hrow⟩ := HT3.out.ta.some_of (by omega)
              have hc0 := hrow.val 0 (.bool y) rfl
              rw [Nat.add_zero] at hc0
              obtain ⟨l0, c0, c1, f0, f1⟩ := HT3.out.a
              clear hrow
              go_upto_region 22 with fail
              go_cut [15, 16] from 55 to 115 (fun qv nv wx => ∃ q : Nat, qv = .pointer (some ⟨q, 0, none⟩) ∧ nv = .int .i64 n2 ∧ Hid (Box wx q sa' false) ∧ W3.heap.size ≤ q ∧ Hid (Below W3.heap.size W3 wx))
              case first =>
                go_region_law (first | (go_simp; go_at_call 8; refine (HC2.out _).mono ?_; rintro e w5 ⟨rfl, hb⟩; (try have hQ5 := Lib.hid (((Box.new W3 0 false 26 _ rfl).drew).call hb)); (try obtain ⟨m0, d0, d1, g0, g1⟩ := hQ5.out)) | fail)
                all_goals
                  go_wp2_with fail
                  go_meet
                  first
                    | exact ⟨w5.heap.size, rfl, rfl, Lib.hid (Box.new w5 _ _ _ _ rfl), by have := hb.size; simpa using this, Lib.hid ((((Below.refl _ _).drew).trans hb).alloc (by have := hb.size; simpa using this) _)⟩
                    | exact ⟨W3.heap.size, rfl, rfl, Lib.hid (hQ5.out.put _ _), Nat.le_refl _, Lib.hid ((((((Below.refl W3.heap.size W3).alloc (Nat.le_refl _) _).drew).trans (hb.mono (by simp))).setCell (p := ⟨W3.heap.size, 0, none⟩) (Nat.le_refl _) _).setCell (p := ⟨W3.heap.size, 1, none⟩) (Nat.le_refl _) _)⟩
                    | fail
              case rest =>
                obtain ⟨g, rfl, rfl, HQ, hg, HBW⟩ := hcut
                have HT4 := Lib.hid (HT3.out.below HBW.out)
                have hgq : pa ≠ g := by have := HT3.out.a.lt; omega
                obtain ⟨OD, hOD⟩ : ∃ OD : Option Addr, OD = if cd = 1 then some ⟨td, tg, none⟩ else (some ⟨td, tg, none⟩ : Option Addr).map (·.add 1) := ⟨_, rfl⟩
                have HOD := Lib.hid hOD
                clear l0 c0 c1 f0 f1 hc0 htl hOD
                obtain ⟨l0, c0, c1, f0, f1⟩ := HT4.out.a
                obtain ⟨gl, gc0, gc1, gf0, gf1⟩ := HQ.out
                go_wp2_with fail
                refine wp_region_noPanic ?_
                refine wp_region_held_drew (S := fun w' => w'.cell? ⟨g, 0, none⟩ = some (.int .i64 sa') ∧ w'.cell? ⟨g, 1, none⟩ = some (.bool false)) (by kernel_rfl) ⟨HQ.out.c0, HQ.out.c1⟩ (fun hHeld => ?_)
                refine wpAnyH_take (i := 0) (oi := _) (v := ?vsb0) rfl (by kernel_rfl) (by kernel_rfl) (by kernel_rfl) (fun _ _ _ h => h) (Or.inl ⟨by rfl, ?hysb0⟩) (by assumption) ?restsb0
                case hysb0 => (intro w hSw; (try dsimp only at hSw); (try simp only [List.getElem_toArray, List.getElem_cons_zero, List.getElem_cons_succ]); go_simp; (try with_reducible rfl))
                (try simp only [Act.put, List.setIfInBounds_toArray, List.set_cons_zero, List.set_cons_succ, List.getElem_toArray, List.getElem_cons_zero, List.getElem_cons_succ])
                refine wpAnyH_take (i := 1) (oi := _) (v := ?vsb1) rfl (by kernel_rfl) (by kernel_rfl) (by kernel_rfl) (fun _ _ _ h => h) (Or.inl ⟨by rfl, ?hysb1⟩) (by assumption) ?restsb1
                case hysb1 => (intro w hSw; (try dsimp only at hSw); (try simp only [List.getElem_toArray, List.getElem_cons_zero, List.getElem_cons_succ]); go_simp; (try with_reducible rfl))
                (try simp only [Act.put, List.setIfInBounds_toArray, List.set_cons_zero, List.set_cons_succ, List.getElem_toArray, List.getElem_cons_zero, List.getElem_cons_succ])
                refine wpAnyH_take (i := 2) (oi := _) (v := .slice OD 0 (cd - 1)) rfl (by kernel_rfl) (by kernel_rfl) (by kernel_rfl) (fun _ _ _ h => h) (Or.inl ⟨by rfl, ?hysb2⟩) (by assumption) ?restsb2
                case hysb2 => (intro w hSw; (try dsimp only at hSw); (try simp only [List.getElem_toArray, List.getElem_cons_zero, List.getElem_cons_succ]); go_simp; (first | rfl | (simp [HOD.out]; done) | (simp [HOD.out, add_mk]; done)))
                (try simp only [Act.put, List.setIfInBounds_toArray, List.set_cons_zero, List.set_cons_succ, List.getElem_toArray, List.getElem_cons_zero, List.getElem_cons_succ])
                refine wpAnyH_ready (rs := [3]) (by kernel_rfl) (by simp) ?_
                refine AllReadyH.cons (o := _) rfl (fun K hK => ?_) AllReadyH.nil
                (try simp only [List.getElem_toArray, List.getElem_cons_zero, List.getElem_cons_succ])
                go_simp
                refine hK.out _ _ ?_ (fun hHeld => ?_)
                · exact ⟨((HQ.out.far (q := ⟨pa, 0, none⟩) hgq (.int .i64 sa')).far (q := ⟨pa, 1, none⟩) hgq (.bool false)).c0, ((HQ.out.far (q := ⟨pa, 0, none⟩) hgq (.int .i64 sa')).far (q := ⟨pa, 1, none⟩) hgq (.bool false)).c1⟩
                clear hK K
                (try simp only [Act.put, List.setIfInBounds_toArray, List.set_cons_zero, List.set_cons_succ, List.getElem_toArray, List.getElem_cons_zero, List.getElem_cons_succ])
                refine wpAnyH_take (i := 4) (oi := _) (v := ?vsb4) rfl (by kernel_rfl) (by kernel_rfl) (by kernel_rfl) (fun _ _ _ h => h) (Or.inl ⟨by rfl, ?hysb4⟩) (by assumption) ?restsb4
                case hysb4 => (intro w hSw; (try dsimp only at hSw); (try simp only [List.getElem_toArray, List.getElem_cons_zero, List.getElem_cons_succ]); go_simp; (try with_reducible rfl))
                (try simp only [Act.put, List.setIfInBounds_toArray, List.set_cons_zero, List.set_cons_succ, List.getElem_toArray, List.getElem_cons_zero, List.getElem_cons_succ])
                refine wpAnyH_done (by kernel_rfl) ?_ _
                refine NoPanic.normal ?_
                obtain ⟨W5, hW5⟩ : ∃ W5, W5 = ((wc.setCell ⟨pa, 0, none⟩ (.int .i64 sa')).setCell ⟨pa, 1, none⟩ (.bool false)).drew := ⟨_, rfl⟩
                rw [← hW5]
                have HT5 : Hid (TwoAt w W5 pa (pa + 1) sa' false sb' false OC 0 (cb - 1) [] OD 0 (cd - 1) []) := Lib.hid (hW5 ▸ ((HT4.out.setA sa' false).drew).cutA HOD.out)
                clear hW5 l0 c0 c1 f0 f1 gl gc0 gc1 gf0 gf1 HT3 HT4 HOD HQ HBW hg hgq
                rcases HN.out with ⟨hn2, hph⟩ | ⟨hn2, hph⟩
                · have HP2 := Lib.hid hph
                  clear HN hph
                  go_wp2_with fail
                  go_roundw
                  case rel => exact ⟨q + 1, sa', false, sb', OC, 0, cb - 1, [], OD, cd - 1, by go_num, by omega, rfl, rfl, HP2, HT5⟩
                  case measure => simp [intOf]; omega
                · obtain ⟨z, hz⟩ : ∃ z, decide (0 < n2) = z := ⟨_, rfl⟩
                  rw [hz] at hph
                  have HP2 := Lib.hid hph
                  clear HN hph
                  obtain ⟨hi0, hz0, hz1, hz2⟩ := HI.out
                  go_wp2_with (at_builtin; refine wpList_append_buf _ rfl (.tmp 111) (.tmp 114) 37 rfl 4 i0 (.bool false) 1 Try.underlying37 hi0 hz0 hz1 hz2 rfl rfl (HT5.out.alloc _).tb [.bool z] rfl (src_one _ _ _ rfl) (one_bool z) ?_ ?_ ?_)
                  · decide
                  · decide
                  intro TE ce W6 hb hk hat
                  have HT6 : Hid (TwoAt w W6 pa (pa + 1) sa' false sb' false TE 1 ce [.bool z] OD 0 (cd - 1) []) := Lib.hid ((HT5.out.alloc _).appB hb hk (by simpa using hat))
                  clear hb hk hat HT5 hi0 hz0 hz1 hz2
                  go_wp2_with fail
                  go_roundw
                  case rel => exact ⟨q + 1, sa', false, sb', TE, 1, ce, [.bool z], OD, cd - 1, by go_num, by omega, rfl, rfl, HP2, HT6⟩
                  case measure => simp [intOf]; omega
      · obtain rfl : k = n + 1 := by omega
        have d1 : decide ((n : Int) + 1 ≤ (n : Int)) = false := by simp; omega
        obtain ⟨L, hL⟩ : ∃ L, L = (ag && lastOf xs n) := ⟨_, rfl⟩
        have hst : nb = 0 ∧ lb = [] ∧ sa = (if L then 1 else 0) ∧ oa = false ∧ sb = sa := by
          rcases HO.out with ⟨h, _⟩ | ⟨_, h1, h2, h3, h4, h5⟩
          · omega
          · exact ⟨h1, h2, by rw [hL]; exact h3, h4, h5⟩
        obtain ⟨rfl, rfl, hsa, rfl, rfl⟩ := hst
        have HL := Lib.hid hL
        have HSA := Lib.hid hsa
        clear HO hL hsa
        go_upto_region 26 with fail
        go_cut [17] from 116 to 129 (fun s17 wx => s17 = .bool L ∧ wx = wr)
        case first =>
          cases ag
          · have e1 : L = false := by rw [HL.out]; rfl
            subst e1
            go_wp2_with fail
            go_meet
            exact ⟨rfl, rfl⟩
          · rcases n with _ | m
            · have e1 : L = false := by rw [HL.out]; rfl
              subst e1
              go_wp2_with fail
              go_meet
              exact ⟨rfl, rfl⟩
            · obtain ⟨hl, hc, _⟩ := HXS.out
              obtain ⟨b, off, rfl, hbl, hc⟩ := hc (by omega)
              have hm : m < xs.length := by omega
              have hx1 := hc m xs[m] (List.getElem?_eq_getElem hm)
              have hx2 := (HT.out.base.cell (p := ⟨b, off + m, none⟩) hbl).trans hx1
              have e1 : L = xs[m] := by rw [HL.out, lastOf_next (List.getElem?_eq_getElem hm)]; rfl
              rw [← e1] at hx2
              have hm0 : (m : Int) + 1 - 1 = (m : Int) := by omega
              clear hc hx1 e1
              go_wp2_with fail
              go_meet
              exact ⟨rfl, rfl⟩
        case rest =>
          obtain ⟨rfl, rfl⟩ := hcut
          have hsa := HSA.out
          clear HL HSA
          cases L
          · simp only [if_false, Bool.false_eq_true] at hsa
            subst hsa
            have HS : Hid (∀ w', Below wc.heap.size wc w' → w'.cell? ⟨pa, 0, none⟩ = some (.int .i64 0) ∧ w'.cell? ⟨pa, 1, none⟩ = some (.bool false) ∧ w'.cell? ⟨pa + 1, 0, none⟩ = some (.int .i64 0) ∧ w'.cell? ⟨pa + 1, 1, none⟩ = some (.bool false)) := Lib.hid (fun w' k => ⟨(HT.out.a.call k).c0, (HT.out.a.call k).c1, (HT.out.b.call k).c0, (HT.out.b.call k).c1⟩)
            have HON := Lib.hid fun W => side_on 0 false W false rfl
            go_wp2_with fail
            refine wp_region_noPanic ?_
            refine wp_region_held_drew (S := fun w' => w'.cell? ⟨pa, 0, none⟩ = some (.int .i64 0) ∧ w'.cell? ⟨pa, 1, none⟩ = some (.bool false) ∧ w'.cell? ⟨pa + 1, 0, none⟩ = some (.int .i64 0) ∧ w'.cell? ⟨pa + 1, 1, none⟩ = some (.bool false)) (by kernel_rfl) (HS.out _ ((Below.refl _ _).drew)) (fun hHeld => ?_)
            refine wpAnyH_take (i := 0) (oi := _) (v := ?vla0) rfl (by kernel_rfl) (by kernel_rfl) (by kernel_rfl) (fun _ _ _ h => h) (Or.inl ⟨by rfl, ?hyla0⟩) (by assumption) ?restla0
            case hyla0 => (intro w hSw; (try dsimp only at hSw); (try simp only [List.getElem_toArray, List.getElem_cons_zero, List.getElem_cons_succ]); go_simp; (try with_reducible rfl))
            (try simp only [Act.put, List.setIfInBounds_toArray, List.set_cons_zero, List.set_cons_succ, List.getElem_toArray, List.getElem_cons_zero, List.getElem_cons_succ])
            refine wpAnyH_take (i := 1) (oi := _) (v := ?vla1) rfl (by kernel_rfl) (by kernel_rfl) (by kernel_rfl) (fun _ _ _ h => h) (Or.inl ⟨by rfl, ?hyla1⟩) (by assumption) ?restla1
            case hyla1 => (intro w hSw; (try dsimp only at hSw); (try simp only [List.getElem_toArray, List.getElem_cons_zero, List.getElem_cons_succ]); go_simp; (try with_reducible rfl))
            (try simp only [Act.put, List.setIfInBounds_toArray, List.set_cons_zero, List.set_cons_succ, List.getElem_toArray, List.getElem_cons_zero, List.getElem_cons_succ])
            refine wpAnyH_take (i := 2) (oi := _) (v := ?vla2) rfl (by kernel_rfl) (by kernel_rfl) (by kernel_rfl) (fun _ _ _ h => h) (Or.inl ⟨by rfl, ?hyla2⟩) (by assumption) ?restla2
            case hyla2 => (intro w hSw; (try dsimp only at hSw); (try simp only [List.getElem_toArray, List.getElem_cons_zero, List.getElem_cons_succ]); go_simp; (try with_reducible rfl))
            (try simp only [Act.put, List.setIfInBounds_toArray, List.set_cons_zero, List.set_cons_succ, List.getElem_toArray, List.getElem_cons_zero, List.getElem_cons_succ])
            refine wpAnyH_take (i := 3) (oi := _) (v := ?vla3) rfl (by kernel_rfl) (by kernel_rfl) (by kernel_rfl) (fun _ _ _ h => h) (Or.inl ⟨by rfl, ?hyla3⟩) (by assumption) ?restla3
            case hyla3 => (intro w hSw; (try dsimp only at hSw); (try simp only [List.getElem_toArray, List.getElem_cons_zero, List.getElem_cons_succ]); go_simp; (try with_reducible rfl))
            (try simp only [Act.put, List.setIfInBounds_toArray, List.set_cons_zero, List.set_cons_succ, List.getElem_toArray, List.getElem_cons_zero, List.getElem_cons_succ])
            refine wpAnyH_take (i := 4) (oi := _) (v := ?vla4) rfl (by kernel_rfl) (by kernel_rfl) (by kernel_rfl) (fun _ _ _ h => h) (Or.inl ⟨by rfl, ?hyla4⟩) (by assumption) ?restla4
            case hyla4 => (intro w hSw; (try dsimp only at hSw); (try simp only [List.getElem_toArray, List.getElem_cons_zero, List.getElem_cons_succ]); go_simp; (try with_reducible rfl))
            (try simp only [Act.put, List.setIfInBounds_toArray, List.set_cons_zero, List.set_cons_succ, List.getElem_toArray, List.getElem_cons_zero, List.getElem_cons_succ])
            refine wpAnyH_take (i := 5) (oi := _) (v := ?vla5) rfl (by kernel_rfl) (by kernel_rfl) (by kernel_rfl) (fun _ _ _ h => h) (Or.inl ⟨by rfl, ?hyla5⟩) (by assumption) ?restla5
            case hyla5 => (intro w hSw; (try dsimp only at hSw); (try simp only [List.getElem_toArray, List.getElem_cons_zero, List.getElem_cons_succ]); go_simp; (try with_reducible rfl))
            (try simp only [Act.put, List.setIfInBounds_toArray, List.set_cons_zero, List.set_cons_succ, List.getElem_toArray, List.getElem_cons_zero, List.getElem_cons_succ])
            refine wpAnyH_take (i := 6) (oi := _) (v := ?vla6) rfl (by kernel_rfl) (by kernel_rfl) (by kernel_rfl) (fun _ _ _ h => h) (Or.inl ⟨by rfl, ?hyla6⟩) (by assumption) ?restla6
            case hyla6 => (intro w hSw; (try dsimp only at hSw); (try simp only [List.getElem_toArray, List.getElem_cons_zero, List.getElem_cons_succ]); go_simp; (try with_reducible rfl))
            (try simp only [Act.put, List.setIfInBounds_toArray, List.set_cons_zero, List.set_cons_succ, List.getElem_toArray, List.getElem_cons_zero, List.getElem_cons_succ])
            refine wpAnyH_take (i := 7) (oi := _) (v := ?vla7) rfl (by kernel_rfl) (by kernel_rfl) (by kernel_rfl) (fun _ _ _ h => h) (Or.inl ⟨by rfl, ?hyla7⟩) (by assumption) ?restla7
            case hyla7 => (intro w hSw; (try dsimp only at hSw); (try simp only [List.getElem_toArray, List.getElem_cons_zero, List.getElem_cons_succ]); go_simp; (try with_reducible rfl))
            (try simp only [Act.put, List.setIfInBounds_toArray, List.set_cons_zero, List.set_cons_succ, List.getElem_toArray, List.getElem_cons_zero, List.getElem_cons_succ])
            refine wpAnyH_take (i := 9) (oi := _) (v := ?vla9) rfl (by kernel_rfl) (by kernel_rfl) (by kernel_rfl) (fun _ _ _ h => h) (Or.inl ⟨by rfl, ?hyla9⟩) (by assumption) ?restla9
            case hyla9 => (intro w hSw; (try dsimp only at hSw); (try simp only [List.getElem_toArray, List.getElem_cons_zero, List.getElem_cons_succ]); go_simp; (try with_reducible rfl))
            (try simp only [Act.put, List.setIfInBounds_toArray, List.set_cons_zero, List.set_cons_succ, List.getElem_toArray, List.getElem_cons_zero, List.getElem_cons_succ])
            refine wpAnyH_ready (rs := [8]) (by kernel_rfl) (by simp) ?_
            refine AllReadyH.cons (o := _) rfl (fun K hK => ?_) AllReadyH.nil
            (try simp only [List.getElem_toArray, List.getElem_cons_zero, List.getElem_cons_succ])
            go_simp
            (refine (HON.out _).mono ?_; rintro e v1 ⟨rfl, hb⟩; have V1 : Hid (Below wc.heap.size wc v1) := Lib.hid (((Below.refl wc.heap.size wc).drew).trans (hb.mono (((Below.refl wc.heap.size wc).drew)).size)); clear hb)
            refine hK.out _ _ ?_ (fun hHeld => ?_)
            · exact HS.out _ V1.out
            clear hK K
            (try simp only [Act.put, List.setIfInBounds_toArray, List.set_cons_zero, List.set_cons_succ, List.getElem_toArray, List.getElem_cons_zero, List.getElem_cons_succ])
            refine wpAnyH_ready (rs := [10]) (by kernel_rfl) (by simp) ?_
            refine AllReadyH.cons (o := _) rfl (fun K hK => ?_) AllReadyH.nil
            (try simp only [List.getElem_toArray, List.getElem_cons_zero, List.getElem_cons_succ])
            go_simp
            (refine (HON.out _).mono ?_; rintro e v2 ⟨rfl, hb⟩; have V2 : Hid (Below wc.heap.size wc v2) := Lib.hid (V1.out.trans (hb.mono (V1.out).size)); clear hb)
            refine hK.out _ _ ?_ (fun hHeld => ?_)
            · exact HS.out _ V2.out
            clear hK K
            (try simp only [Act.put, List.setIfInBounds_toArray, List.set_cons_zero, List.set_cons_succ, List.getElem_toArray, List.getElem_cons_zero, List.getElem_cons_succ])
            refine wpAnyH_take (i := 11) (oi := _) (v := ?vla11) rfl (by kernel_rfl) (by kernel_rfl) (by kernel_rfl) (fun _ _ _ h => h) (Or.inl ⟨by rfl, ?hyla11⟩) (by assumption) ?restla11
            case hyla11 => (intro w hSw; (try dsimp only at hSw); (try simp only [List.getElem_toArray, List.getElem_cons_zero, List.getElem_cons_succ]); go_simp; (try with_reducible rfl))
            (try simp only [Act.put, List.setIfInBounds_toArray, List.set_cons_zero, List.set_cons_succ, List.getElem_toArray, List.getElem_cons_zero, List.getElem_cons_succ])
            refine wpAnyH_take (i := 12) (oi := _) (v := ?vla12) rfl (by kernel_rfl) (by kernel_rfl) (by kernel_rfl) (fun _ _ _ h => h) (Or.inl ⟨by rfl, ?hyla12⟩) (by assumption) ?restla12
            case hyla12 => (intro w hSw; (try dsimp only at hSw); (try simp only [List.getElem_toArray, List.getElem_cons_zero, List.getElem_cons_succ]); go_simp; (try with_reducible rfl))
            (try simp only [Act.put, List.setIfInBounds_toArray, List.set_cons_zero, List.set_cons_succ, List.getElem_toArray, List.getElem_cons_zero, List.getElem_cons_succ])
            refine wpAnyH_take (i := 13) (oi := _) (v := ?vla13) rfl (by kernel_rfl) (by kernel_rfl) (by kernel_rfl) (fun _ _ _ h => h) (Or.inl ⟨by rfl, ?hyla13⟩) (by assumption) ?restla13
            case hyla13 => (intro w hSw; (try dsimp only at hSw); (try simp only [List.getElem_toArray, List.getElem_cons_zero, List.getElem_cons_succ]); go_simp; (try with_reducible rfl))
            (try simp only [Act.put, List.setIfInBounds_toArray, List.set_cons_zero, List.set_cons_succ, List.getElem_toArray, List.getElem_cons_zero, List.getElem_cons_succ])
            refine wpAnyH_take (i := 14) (oi := _) (v := ?vla14) rfl (by kernel_rfl) (by kernel_rfl) (by kernel_rfl) (fun _ _ _ h => h) (Or.inl ⟨by rfl, ?hyla14⟩) (by assumption) ?restla14
            case hyla14 => (intro w hSw; (try dsimp only at hSw); (try simp only [List.getElem_toArray, List.getElem_cons_zero, List.getElem_cons_succ]); go_simp; (try with_reducible rfl))
            (try simp only [Act.put, List.setIfInBounds_toArray, List.set_cons_zero, List.set_cons_succ, List.getElem_toArray, List.getElem_cons_zero, List.getElem_cons_succ])
            refine wpAnyH_take (i := 16) (oi := _) (v := ?vla16) rfl (by kernel_rfl) (by kernel_rfl) (by kernel_rfl) (fun _ _ _ h => h) (Or.inl ⟨by rfl, ?hyla16⟩) (by assumption) ?restla16
            case hyla16 => (intro w hSw; (try dsimp only at hSw); (try simp only [List.getElem_toArray, List.getElem_cons_zero, List.getElem_cons_succ]); go_simp; (try with_reducible rfl))
            (try simp only [Act.put, List.setIfInBounds_toArray, List.set_cons_zero, List.set_cons_succ, List.getElem_toArray, List.getElem_cons_zero, List.getElem_cons_succ])
            refine wpAnyH_ready (rs := [15]) (by kernel_rfl) (by simp) ?_
            refine AllReadyH.cons (o := _) rfl (fun K hK => ?_) AllReadyH.nil
            (try simp only [List.getElem_toArray, List.getElem_cons_zero, List.getElem_cons_succ])
            go_simp
            (refine (HON.out _).mono ?_; rintro e v3 ⟨rfl, hb⟩; have V3 : Hid (Below wc.heap.size wc v3) := Lib.hid (V2.out.trans (hb.mono (V2.out).size)); clear hb)
            refine hK.out _ _ ?_ (fun hHeld => ?_)
            · exact HS.out _ V3.out
            clear hK K
            (try simp only [Act.put, List.setIfInBounds_toArray, List.set_cons_zero, List.set_cons_succ, List.getElem_toArray, List.getElem_cons_zero, List.getElem_cons_succ])
            refine wpAnyH_take (i := 17) (oi := _) (v := ?vla17) rfl (by kernel_rfl) (by kernel_rfl) (by kernel_rfl) (fun _ _ _ h => h) (Or.inl ⟨by rfl, ?hyla17⟩) (by assumption) ?restla17
            case hyla17 => (intro w hSw; (try dsimp only at hSw); (try simp only [List.getElem_toArray, List.getElem_cons_zero, List.getElem_cons_succ]); go_simp; (try with_reducible rfl))
            (try simp only [Act.put, List.setIfInBounds_toArray, List.set_cons_zero, List.set_cons_succ, List.getElem_toArray, List.getElem_cons_zero, List.getElem_cons_succ])
            refine wpAnyH_take (i := 18) (oi := _) (v := ?vla18) rfl (by kernel_rfl) (by kernel_rfl) (by kernel_rfl) (fun _ _ _ h => h) (Or.inl ⟨by rfl, ?hyla18⟩) (by assumption) ?restla18
            case hyla18 => (intro w hSw; (try dsimp only at hSw); (try simp only [List.getElem_toArray, List.getElem_cons_zero, List.getElem_cons_succ]); go_simp; (try with_reducible rfl))
            (try simp only [Act.put, List.setIfInBounds_toArray, List.set_cons_zero, List.set_cons_succ, List.getElem_toArray, List.getElem_cons_zero, List.getElem_cons_succ])
            refine wpAnyH_take (i := 19) (oi := _) (v := ?vla19) rfl (by kernel_rfl) (by kernel_rfl) (by kernel_rfl) (fun _ _ _ h => h) (Or.inl ⟨by rfl, ?hyla19⟩) (by assumption) ?restla19
            case hyla19 => (intro w hSw; (try dsimp only at hSw); (try simp only [List.getElem_toArray, List.getElem_cons_zero, List.getElem_cons_succ]); go_simp; (try with_reducible rfl))
            (try simp only [Act.put, List.setIfInBounds_toArray, List.set_cons_zero, List.set_cons_succ, List.getElem_toArray, List.getElem_cons_zero, List.getElem_cons_succ])
            refine wpAnyH_take (i := 20) (oi := _) (v := ?vla20) rfl (by kernel_rfl) (by kernel_rfl) (by kernel_rfl) (fun _ _ _ h => h) (Or.inl ⟨by rfl, ?hyla20⟩) (by assumption) ?restla20
            case hyla20 => (intro w hSw; (try dsimp only at hSw); (try simp only [List.getElem_toArray, List.getElem_cons_zero, List.getElem_cons_succ]); go_simp; (try with_reducible rfl))
            (try simp only [Act.put, List.setIfInBounds_toArray, List.set_cons_zero, List.set_cons_succ, List.getElem_toArray, List.getElem_cons_zero, List.getElem_cons_succ])
            refine wpAnyH_take (i := 21) (oi := _) (v := ?vla21) rfl (by kernel_rfl) (by kernel_rfl) (by kernel_rfl) (fun _ _ _ h => h) (Or.inl ⟨by rfl, ?hyla21⟩) (by assumption) ?restla21
            case hyla21 => (intro w hSw; (try dsimp only at hSw); (try simp only [List.getElem_toArray, List.getElem_cons_zero, List.getElem_cons_succ]); go_simp; (try with_reducible rfl))
            (try simp only [Act.put, List.setIfInBounds_toArray, List.set_cons_zero, List.set_cons_succ, List.getElem_toArray, List.getElem_cons_zero, List.getElem_cons_succ])
            refine wpAnyH_take (i := 22) (oi := _) (v := ?vla22) rfl (by kernel_rfl) (by kernel_rfl) (by kernel_rfl) (fun _ _ _ h => h) (Or.inl ⟨by rfl, ?hyla22⟩) (by assumption) ?restla22
            case hyla22 => (intro w hSw; (try dsimp only at hSw); (try simp only [List.getElem_toArray, List.getElem_cons_zero, List.getElem_cons_succ]); go_simp; (try with_reducible rfl))
            (try simp only [Act.put, List.setIfInBounds_toArray, List.set_cons_zero, List.set_cons_succ, List.getElem_toArray, List.getElem_cons_zero, List.getElem_cons_succ])
            refine wpAnyH_take (i := 23) (oi := _) (v := ?vla23) rfl (by kernel_rfl) (by kernel_rfl) (by kernel_rfl) (fun _ _ _ h => h) (Or.inl ⟨by rfl, ?hyla23⟩) (by assumption) ?restla23
            case hyla23 => (intro w hSw; (try dsimp only at hSw); (try simp only [List.getElem_toArray, List.getElem_cons_zero, List.getElem_cons_succ]); go_simp; (try with_reducible rfl))
            (try simp only [Act.put, List.setIfInBounds_toArray, List.set_cons_zero, List.set_cons_succ, List.getElem_toArray, List.getElem_cons_zero, List.getElem_cons_succ])
            refine wpAnyH_take (i := 24) (oi := _) (v := undef) rfl (by kernel_rfl) (by kernel_rfl) (by kernel_rfl) (fun _ _ _ h => h) (Or.inr ⟨by rfl, rfl⟩) (by assumption) ?_
            (try simp only [Act.put, List.setIfInBounds_toArray, List.set_cons_zero, List.set_cons_succ, List.getElem_toArray, List.getElem_cons_zero, List.getElem_cons_succ])
            refine wpAnyH_take (i := 25) (oi := _) (v := undef) rfl (by kernel_rfl) (by kernel_rfl) (by kernel_rfl) (fun _ _ _ h => h) (Or.inr ⟨by rfl, rfl⟩) (by assumption) ?_
            (try simp only [Act.put, List.setIfInBounds_toArray, List.set_cons_zero, List.set_cons_succ, List.getElem_toArray, List.getElem_cons_zero, List.getElem_cons_succ])
            refine wpAnyH_take (i := 26) (oi := _) (v := undef) rfl (by kernel_rfl) (by kernel_rfl) (by kernel_rfl) (fun _ _ _ h => h) (Or.inr ⟨by rfl, rfl⟩) (by assumption) ?_
            (try simp only [Act.put, List.setIfInBounds_toArray, List.set_cons_zero, List.set_cons_succ, List.getElem_toArray, List.getElem_cons_zero, List.getElem_cons_succ])
            refine wpAnyH_take (i := 27) (oi := _) (v := ?vla27) rfl (by kernel_rfl) (by kernel_rfl) (by kernel_rfl) (fun _ _ _ h => h) (Or.inl ⟨by rfl, ?hyla27⟩) (by assumption) ?restla27
            case hyla27 => (intro w hSw; (try dsimp only at hSw); (try simp only [List.getElem_toArray, List.getElem_cons_zero, List.getElem_cons_succ]); go_simp; (try with_reducible rfl))
            (try simp only [Act.put, List.setIfInBounds_toArray, List.set_cons_zero, List.set_cons_succ, List.getElem_toArray, List.getElem_cons_zero, List.getElem_cons_succ])
            refine wpAnyH_take (i := 28) (oi := _) (v := ?vla28) rfl (by kernel_rfl) (by kernel_rfl) (by kernel_rfl) (fun _ _ _ h => h) (Or.inl ⟨by rfl, ?hyla28⟩) (by assumption) ?restla28
            case hyla28 => (intro w hSw; (try dsimp only at hSw); (try simp only [List.getElem_toArray, List.getElem_cons_zero, List.getElem_cons_succ]); go_simp; (try with_reducible rfl))
            (try simp only [Act.put, List.setIfInBounds_toArray, List.set_cons_zero, List.set_cons_succ, List.getElem_toArray, List.getElem_cons_zero, List.getElem_cons_succ])
            refine wpAnyH_take (i := 29) (oi := _) (v := ?vla29) rfl (by kernel_rfl) (by kernel_rfl) (by kernel_rfl) (fun _ _ _ h => h) (Or.inl ⟨by rfl, ?hyla29⟩) (by assumption) ?restla29
            case hyla29 => (intro w hSw; (try dsimp only at hSw); (try simp only [List.getElem_toArray, List.getElem_cons_zero, List.getElem_cons_succ]); go_simp; (try with_reducible rfl))
            (try simp only [Act.put, List.setIfInBounds_toArray, List.set_cons_zero, List.set_cons_succ, List.getElem_toArray, List.getElem_cons_zero, List.getElem_cons_succ])
            refine wpAnyH_take (i := 30) (oi := _) (v := ?vla30) rfl (by kernel_rfl) (by kernel_rfl) (by kernel_rfl) (fun _ _ _ h => h) (Or.inl ⟨by rfl, ?hyla30⟩) (by assumption) ?restla30
            case hyla30 => (intro w hSw; (try dsimp only at hSw); (try simp only [List.getElem_toArray, List.getElem_cons_zero, List.getElem_cons_succ]); go_simp; (try with_reducible rfl))
            (try simp only [Act.put, List.setIfInBounds_toArray, List.set_cons_zero, List.set_cons_succ, List.getElem_toArray, List.getElem_cons_zero, List.getElem_cons_succ])
            refine wpAnyH_take (i := 31) (oi := _) (v := ?vla31) rfl (by kernel_rfl) (by kernel_rfl) (by kernel_rfl) (fun _ _ _ h => h) (Or.inl ⟨by rfl, ?hyla31⟩) (by assumption) ?restla31
            case hyla31 => (intro w hSw; (try dsimp only at hSw); (try simp only [List.getElem_toArray, List.getElem_cons_zero, List.getElem_cons_succ]); go_simp; (try with_reducible rfl))
            (try simp only [Act.put, List.setIfInBounds_toArray, List.set_cons_zero, List.set_cons_succ, List.getElem_toArray, List.getElem_cons_zero, List.getElem_cons_succ])
            refine wpAnyH_take (i := 32) (oi := _) (v := ?vla32) rfl (by kernel_rfl) (by kernel_rfl) (by kernel_rfl) (fun _ _ _ h => h) (Or.inl ⟨by rfl, ?hyla32⟩) (by assumption) ?restla32
            case hyla32 => (intro w hSw; (try dsimp only at hSw); (try simp only [List.getElem_toArray, List.getElem_cons_zero, List.getElem_cons_succ]); go_simp; (try with_reducible rfl))
            (try simp only [Act.put, List.setIfInBounds_toArray, List.set_cons_zero, List.set_cons_succ, List.getElem_toArray, List.getElem_cons_zero, List.getElem_cons_succ])
            refine wpAnyH_take (i := 33) (oi := _) (v := ?vla33) rfl (by kernel_rfl) (by kernel_rfl) (by kernel_rfl) (fun _ _ _ h => h) (Or.inl ⟨by rfl, ?hyla33⟩) (by assumption) ?restla33
            case hyla33 => (intro w hSw; (try dsimp only at hSw); (try simp only [List.getElem_toArray, List.getElem_cons_zero, List.getElem_cons_succ]); go_simp; (try with_reducible rfl))
            (try simp only [Act.put, List.setIfInBounds_toArray, List.set_cons_zero, List.set_cons_succ, List.getElem_toArray, List.getElem_cons_zero, List.getElem_cons_succ])
            refine wpAnyH_take (i := 34) (oi := _) (v := undef) rfl (by kernel_rfl) (by kernel_rfl) (by kernel_rfl) (fun _ _ _ h => h) (Or.inr ⟨by rfl, rfl⟩) (by assumption) ?_
            (try simp only [Act.put, List.setIfInBounds_toArray, List.set_cons_zero, List.set_cons_succ, List.getElem_toArray, List.getElem_cons_zero, List.getElem_cons_succ])
            refine wpAnyH_take (i := 35) (oi := _) (v := undef) rfl (by kernel_rfl) (by kernel_rfl) (by kernel_rfl) (fun _ _ _ h => h) (Or.inr ⟨by rfl, rfl⟩) (by assumption) ?_
            (try simp only [Act.put, List.setIfInBounds_toArray, List.set_cons_zero, List.set_cons_succ, List.getElem_toArray, List.getElem_cons_zero, List.getElem_cons_succ])
            refine wpAnyH_take (i := 36) (oi := _) (v := undef) rfl (by kernel_rfl) (by kernel_rfl) (by kernel_rfl) (fun _ _ _ h => h) (Or.inr ⟨by rfl, rfl⟩) (by assumption) ?_
            (try simp only [Act.put, List.setIfInBounds_toArray, List.set_cons_zero, List.set_cons_succ, List.getElem_toArray, List.getElem_cons_zero, List.getElem_cons_succ])
            refine wpAnyH_take (i := 37) (oi := _) (v := ?vla37) rfl (by kernel_rfl) (by kernel_rfl) (by kernel_rfl) (fun _ _ _ h => h) (Or.inl ⟨by rfl, ?hyla37⟩) (by assumption) ?restla37
            case hyla37 => (intro w hSw; (try dsimp only at hSw); (try simp only [List.getElem_toArray, List.getElem_cons_zero, List.getElem_cons_succ]); go_simp; (try with_reducible rfl))
            (try simp only [Act.put, List.setIfInBounds_toArray, List.set_cons_zero, List.set_cons_succ, List.getElem_toArray, List.getElem_cons_zero, List.getElem_cons_succ])
            refine wpAnyH_take (i := 38) (oi := _) (v := ?vla38) rfl (by kernel_rfl) (by kernel_rfl) (by kernel_rfl) (fun _ _ _ h => h) (Or.inl ⟨by rfl, ?hyla38⟩) (by assumption) ?restla38
            case hyla38 => (intro w hSw; (try dsimp only at hSw); (try simp only [List.getElem_toArray, List.getElem_cons_zero, List.getElem_cons_succ]); go_simp; (try with_reducible rfl))
            (try simp only [Act.put, List.setIfInBounds_toArray, List.set_cons_zero, List.set_cons_succ, List.getElem_toArray, List.getElem_cons_zero, List.getElem_cons_succ])
            refine wpAnyH_take (i := 39) (oi := _) (v := ?vla39) rfl (by kernel_rfl) (by kernel_rfl) (by kernel_rfl) (fun _ _ _ h => h) (Or.inl ⟨by rfl, ?hyla39⟩) (by assumption) ?restla39
            case hyla39 => (intro w hSw; (try dsimp only at hSw); (try simp only [List.getElem_toArray, List.getElem_cons_zero, List.getElem_cons_succ]); go_simp; (try with_reducible rfl))
            (try simp only [Act.put, List.setIfInBounds_toArray, List.set_cons_zero, List.set_cons_succ, List.getElem_toArray, List.getElem_cons_zero, List.getElem_cons_succ])
            refine wpAnyH_done (by kernel_rfl) ?_ _
            refine NoPanic.normal ?_
            go_wp2_with fail
            go_ret
            exact ⟨rfl, HT.out.base.trans (V3.out.mono HT.out.base.size)⟩
          · simp only [if_true] at hsa
            subst hsa
            have HS : Hid (∀ w', Below wc.heap.size wc w' → w'.cell? ⟨pa, 0, none⟩ = some (.int .i64 1) ∧ w'.cell? ⟨pa, 1, none⟩ = some (.bool false) ∧ w'.cell? ⟨pa + 1, 0, none⟩ = some (.int .i64 1) ∧ w'.cell? ⟨pa + 1, 1, none⟩ = some (.bool false)) := Lib.hid (fun w' k => ⟨(HT.out.a.call k).c0, (HT.out.a.call k).c1, (HT.out.b.call k).c0, (HT.out.b.call k).c1⟩)
            have HON := Lib.hid fun W => side_on 1 false W true rfl
            go_wp2_with fail
            refine wp_region_noPanic ?_
            refine wp_region_held_drew (S := fun w' => w'.cell? ⟨pa, 0, none⟩ = some (.int .i64 1) ∧ w'.cell? ⟨pa, 1, none⟩ = some (.bool false) ∧ w'.cell? ⟨pa + 1, 0, none⟩ = some (.int .i64 1) ∧ w'.cell? ⟨pa + 1, 1, none⟩ = some (.bool false)) (by kernel_rfl) (HS.out _ ((Below.refl _ _).drew)) (fun hHeld => ?_)
            refine wpAnyH_take (i := 0) (oi := _) (v := ?vlb0) rfl (by kernel_rfl) (by kernel_rfl) (by kernel_rfl) (fun _ _ _ h => h) (Or.inl ⟨by rfl, ?hylb0⟩) (by assumption) ?restlb0
            case hylb0 => (intro w hSw; (try dsimp only at hSw); (try simp only [List.getElem_toArray, List.getElem_cons_zero, List.getElem_cons_succ]); go_simp; (try with_reducible rfl))
            (try simp only [Act.put, List.setIfInBounds_toArray, List.set_cons_zero, List.set_cons_succ, List.getElem_toArray, List.getElem_cons_zero, List.getElem_cons_succ])
            refine wpAnyH_take (i := 1) (oi := _) (v := ?vlb1) rfl (by kernel_rfl) (by kernel_rfl) (by kernel_rfl) (fun _ _ _ h => h) (Or.inl ⟨by rfl, ?hylb1⟩) (by assumption) ?restlb1
            case hylb1 => (intro w hSw; (try dsimp only at hSw); (try simp only [List.getElem_toArray, List.getElem_cons_zero, List.getElem_cons_succ]); go_simp; (try with_reducible rfl))
            (try simp only [Act.put, List.setIfInBounds_toArray, List.set_cons_zero, List.set_cons_succ, List.getElem_toArray, List.getElem_cons_zero, List.getElem_cons_succ])
            refine wpAnyH_take (i := 2) (oi := _) (v := ?vlb2) rfl (by kernel_rfl) (by kernel_rfl) (by kernel_rfl) (fun _ _ _ h => h) (Or.inl ⟨by rfl, ?hylb2⟩) (by assumption) ?restlb2
            case hylb2 => (intro w hSw; (try dsimp only at hSw); (try simp only [List.getElem_toArray, List.getElem_cons_zero, List.getElem_cons_succ]); go_simp; (try with_reducible rfl))
            (try simp only [Act.put, List.setIfInBounds_toArray, List.set_cons_zero, List.set_cons_succ, List.getElem_toArray, List.getElem_cons_zero, List.getElem_cons_succ])
            refine wpAnyH_take (i := 3) (oi := _) (v := ?vlb3) rfl (by kernel_rfl) (by kernel_rfl) (by kernel_rfl) (fun _ _ _ h => h) (Or.inl ⟨by rfl, ?hylb3⟩) (by assumption) ?restlb3
            case hylb3 => (intro w hSw; (try dsimp only at hSw); (try simp only [List.getElem_toArray, List.getElem_cons_zero, List.getElem_cons_succ]); go_simp; (try with_reducible rfl))
            (try simp only [Act.put, List.setIfInBounds_toArray, List.set_cons_zero, List.set_cons_succ, List.getElem_toArray, List.getElem_cons_zero, List.getElem_cons_succ])
            refine wpAnyH_take (i := 4) (oi := _) (v := ?vlb4) rfl (by kernel_rfl) (by kernel_rfl) (by kernel_rfl) (fun _ _ _ h => h) (Or.inl ⟨by rfl, ?hylb4⟩) (by assumption) ?restlb4
            case hylb4 => (intro w hSw; (try dsimp only at hSw); (try simp only [List.getElem_toArray, List.getElem_cons_zero, List.getElem_cons_succ]); go_simp; (try with_reducible rfl))
            (try simp only [Act.put, List.setIfInBounds_toArray, List.set_cons_zero, List.set_cons_succ, List.getElem_toArray, List.getElem_cons_zero, List.getElem_cons_succ])
            refine wpAnyH_take (i := 5) (oi := _) (v := ?vlb5) rfl (by kernel_rfl) (by kernel_rfl) (by kernel_rfl) (fun _ _ _ h => h) (Or.inl ⟨by rfl, ?hylb5⟩) (by assumption) ?restlb5
            case hylb5 => (intro w hSw; (try dsimp only at hSw); (try simp only [List.getElem_toArray, List.getElem_cons_zero, List.getElem_cons_succ]); go_simp; (try with_reducible rfl))
            (try simp only [Act.put, List.setIfInBounds_toArray, List.set_cons_zero, List.set_cons_succ, List.getElem_toArray, List.getElem_cons_zero, List.getElem_cons_succ])
            refine wpAnyH_take (i := 6) (oi := _) (v := ?vlb6) rfl (by kernel_rfl) (by kernel_rfl) (by kernel_rfl) (fun _ _ _ h => h) (Or.inl ⟨by rfl, ?hylb6⟩) (by assumption) ?restlb6
            case hylb6 => (intro w hSw; (try dsimp only at hSw); (try simp only [List.getElem_toArray, List.getElem_cons_zero, List.getElem_cons_succ]); go_simp; (try with_reducible rfl))
            (try simp only [Act.put, List.setIfInBounds_toArray, List.set_cons_zero, List.set_cons_succ, List.getElem_toArray, List.getElem_cons_zero, List.getElem_cons_succ])
            refine wpAnyH_take (i := 7) (oi := _) (v := ?vlb7) rfl (by kernel_rfl) (by kernel_rfl) (by kernel_rfl) (fun _ _ _ h => h) (Or.inl ⟨by rfl, ?hylb7⟩) (by assumption) ?restlb7
            case hylb7 => (intro w hSw; (try dsimp only at hSw); (try simp only [List.getElem_toArray, List.getElem_cons_zero, List.getElem_cons_succ]); go_simp; (try with_reducible rfl))
            (try simp only [Act.put, List.setIfInBounds_toArray, List.set_cons_zero, List.set_cons_succ, List.getElem_toArray, List.getElem_cons_zero, List.getElem_cons_succ])
            refine wpAnyH_take (i := 9) (oi := _) (v := ?vlb9) rfl (by kernel_rfl) (by kernel_rfl) (by kernel_rfl) (fun _ _ _ h => h) (Or.inl ⟨by rfl, ?hylb9⟩) (by assumption) ?restlb9
            case hylb9 => (intro w hSw; (try dsimp only at hSw); (try simp only [List.getElem_toArray, List.getElem_cons_zero, List.getElem_cons_succ]); go_simp; (try with_reducible rfl))
            (try simp only [Act.put, List.setIfInBounds_toArray, List.set_cons_zero, List.set_cons_succ, List.getElem_toArray, List.getElem_cons_zero, List.getElem_cons_succ])
            refine wpAnyH_ready (rs := [8]) (by kernel_rfl) (by simp) ?_
            refine AllReadyH.cons (o := _) rfl (fun K hK => ?_) AllReadyH.nil
            (try simp only [List.getElem_toArray, List.getElem_cons_zero, List.getElem_cons_succ])
            go_simp
            (refine (HON.out _).mono ?_; rintro e v1 ⟨rfl, hb⟩; have V1 : Hid (Below wc.heap.size wc v1) := Lib.hid (((Below.refl wc.heap.size wc).drew).trans (hb.mono (((Below.refl wc.heap.size wc).drew)).size)); clear hb)
            refine hK.out _ _ ?_ (fun hHeld => ?_)
            · exact HS.out _ V1.out
            clear hK K
            (try simp only [Act.put, List.setIfInBounds_toArray, List.set_cons_zero, List.set_cons_succ, List.getElem_toArray, List.getElem_cons_zero, List.getElem_cons_succ])
            refine wpAnyH_ready (rs := [10]) (by kernel_rfl) (by simp) ?_
            refine AllReadyH.cons (o := _) rfl (fun K hK => ?_) AllReadyH.nil
            (try simp only [List.getElem_toArray, List.getElem_cons_zero, List.getElem_cons_succ])
            go_simp
            (refine (HON.out _).mono ?_; rintro e v2 ⟨rfl, hb⟩; have V2 : Hid (Below wc.heap.size wc v2) := Lib.hid (V1.out.trans (hb.mono (V1.out).size)); clear hb)
            refine hK.out _ _ ?_ (fun hHeld => ?_)
            · exact HS.out _ V2.out
            clear hK K
            (try simp only [Act.put, List.setIfInBounds_toArray, List.set_cons_zero, List.set_cons_succ, List.getElem_toArray, List.getElem_cons_zero, List.getElem_cons_succ])
            refine wpAnyH_take (i := 11) (oi := _) (v := ?vlb11) rfl (by kernel_rfl) (by kernel_rfl) (by kernel_rfl) (fun _ _ _ h => h) (Or.inl ⟨by rfl, ?hylb11⟩) (by assumption) ?restlb11
            case hylb11 => (intro w hSw; (try dsimp only at hSw); (try simp only [List.getElem_toArray, List.getElem_cons_zero, List.getElem_cons_succ]); go_simp; (try with_reducible rfl))
            (try simp only [Act.put, List.setIfInBounds_toArray, List.set_cons_zero, List.set_cons_succ, List.getElem_toArray, List.getElem_cons_zero, List.getElem_cons_succ])
            refine wpAnyH_take (i := 12) (oi := _) (v := ?vlb12) rfl (by kernel_rfl) (by kernel_rfl) (by kernel_rfl) (fun _ _ _ h => h) (Or.inl ⟨by rfl, ?hylb12⟩) (by assumption) ?restlb12
            case hylb12 => (intro w hSw; (try dsimp only at hSw); (try simp only [List.getElem_toArray, List.getElem_cons_zero, List.getElem_cons_succ]); go_simp; (try with_reducible rfl))
            (try simp only [Act.put, List.setIfInBounds_toArray, List.set_cons_zero, List.set_cons_succ, List.getElem_toArray, List.getElem_cons_zero, List.getElem_cons_succ])
            refine wpAnyH_take (i := 13) (oi := _) (v := ?vlb13) rfl (by kernel_rfl) (by kernel_rfl) (by kernel_rfl) (fun _ _ _ h => h) (Or.inl ⟨by rfl, ?hylb13⟩) (by assumption) ?restlb13
            case hylb13 => (intro w hSw; (try dsimp only at hSw); (try simp only [List.getElem_toArray, List.getElem_cons_zero, List.getElem_cons_succ]); go_simp; (try with_reducible rfl))
            (try simp only [Act.put, List.setIfInBounds_toArray, List.set_cons_zero, List.set_cons_succ, List.getElem_toArray, List.getElem_cons_zero, List.getElem_cons_succ])
            refine wpAnyH_take (i := 14) (oi := _) (v := ?vlb14) rfl (by kernel_rfl) (by kernel_rfl) (by kernel_rfl) (fun _ _ _ h => h) (Or.inl ⟨by rfl, ?hylb14⟩) (by assumption) ?restlb14
            case hylb14 => (intro w hSw; (try dsimp only at hSw); (try simp only [List.getElem_toArray, List.getElem_cons_zero, List.getElem_cons_succ]); go_simp; (try with_reducible rfl))
            (try simp only [Act.put, List.setIfInBounds_toArray, List.set_cons_zero, List.set_cons_succ, List.getElem_toArray, List.getElem_cons_zero, List.getElem_cons_succ])
            refine wpAnyH_take (i := 16) (oi := _) (v := ?vlb16) rfl (by kernel_rfl) (by kernel_rfl) (by kernel_rfl) (fun _ _ _ h => h) (Or.inl ⟨by rfl, ?hylb16⟩) (by assumption) ?restlb16
            case hylb16 => (intro w hSw; (try dsimp only at hSw); (try simp only [List.getElem_toArray, List.getElem_cons_zero, List.getElem_cons_succ]); go_simp; (try with_reducible rfl))
            (try simp only [Act.put, List.setIfInBounds_toArray, List.set_cons_zero, List.set_cons_succ, List.getElem_toArray, List.getElem_cons_zero, List.getElem_cons_succ])
            refine wpAnyH_ready (rs := [15]) (by kernel_rfl) (by simp) ?_
            refine AllReadyH.cons (o := _) rfl (fun K hK => ?_) AllReadyH.nil
            (try simp only [List.getElem_toArray, List.getElem_cons_zero, List.getElem_cons_succ])
            go_simp
            (refine (HON.out _).mono ?_; rintro e v3 ⟨rfl, hb⟩; have V3 : Hid (Below wc.heap.size wc v3) := Lib.hid (V2.out.trans (hb.mono (V2.out).size)); clear hb)
            refine hK.out _ _ ?_ (fun hHeld => ?_)
            · exact HS.out _ V3.out
            clear hK K
            (try simp only [Act.put, List.setIfInBounds_toArray, List.set_cons_zero, List.set_cons_succ, List.getElem_toArray, List.getElem_cons_zero, List.getElem_cons_succ])
            refine wpAnyH_take (i := 17) (oi := _) (v := ?vlb17) rfl (by kernel_rfl) (by kernel_rfl) (by kernel_rfl) (fun _ _ _ h => h) (Or.inl ⟨by rfl, ?hylb17⟩) (by assumption) ?restlb17
            case hylb17 => (intro w hSw; (try dsimp only at hSw); (try simp only [List.getElem_toArray, List.getElem_cons_zero, List.getElem_cons_succ]); go_simp; (try with_reducible rfl))
            (try simp only [Act.put, List.setIfInBounds_toArray, List.set_cons_zero, List.set_cons_succ, List.getElem_toArray, List.getElem_cons_zero, List.getElem_cons_succ])
            refine wpAnyH_take (i := 18) (oi := _) (v := ?vlb18) rfl (by kernel_rfl) (by kernel_rfl) (by kernel_rfl) (fun _ _ _ h => h) (Or.inl ⟨by rfl, ?hylb18⟩) (by assumption) ?restlb18
            case hylb18 => (intro w hSw; (try dsimp only at hSw); (try simp only [List.getElem_toArray, List.getElem_cons_zero, List.getElem_cons_succ]); go_simp; (try with_reducible rfl))
            (try simp only [Act.put, List.setIfInBounds_toArray, List.set_cons_zero, List.set_cons_succ, List.getElem_toArray, List.getElem_cons_zero, List.getElem_cons_succ])
            refine wpAnyH_take (i := 19) (oi := _) (v := ?vlb19) rfl (by kernel_rfl) (by kernel_rfl) (by kernel_rfl) (fun _ _ _ h => h) (Or.inl ⟨by rfl, ?hylb19⟩) (by assumption) ?restlb19
            case hylb19 => (intro w hSw; (try dsimp only at hSw); (try simp only [List.getElem_toArray, List.getElem_cons_zero, List.getElem_cons_succ]); go_simp; (try with_reducible rfl))
            (try simp only [Act.put, List.setIfInBounds_toArray, List.set_cons_zero, List.set_cons_succ, List.getElem_toArray, List.getElem_cons_zero, List.getElem_cons_succ])
            refine wpAnyH_take (i := 20) (oi := _) (v := ?vlb20) rfl (by kernel_rfl) (by kernel_rfl) (by kernel_rfl) (fun _ _ _ h => h) (Or.inl ⟨by rfl, ?hylb20⟩) (by assumption) ?restlb20
            case hylb20 => (intro w hSw; (try dsimp only at hSw); (try simp only [List.getElem_toArray, List.getElem_cons_zero, List.getElem_cons_succ]); go_simp; (try with_reducible rfl))
            (try simp only [Act.put, List.setIfInBounds_toArray, List.set_cons_zero, List.set_cons_succ, List.getElem_toArray, List.getElem_cons_zero, List.getElem_cons_succ])
            refine wpAnyH_take (i := 21) (oi := _) (v := ?vlb21) rfl (by kernel_rfl) (by kernel_rfl) (by kernel_rfl) (fun _ _ _ h => h) (Or.inl ⟨by rfl, ?hylb21⟩) (by assumption) ?restlb21
            case hylb21 => (intro w hSw; (try dsimp only at hSw); (try simp only [List.getElem_toArray, List.getElem_cons_zero, List.getElem_cons_succ]); go_simp; (try with_reducible rfl))
            (try simp only [Act.put, List.setIfInBounds_toArray, List.set_cons_zero, List.set_cons_succ, List.getElem_toArray, List.getElem_cons_zero, List.getElem_cons_succ])
            refine wpAnyH_take (i := 22) (oi := _) (v := ?vlb22) rfl (by kernel_rfl) (by kernel_rfl) (by kernel_rfl) (fun _ _ _ h => h) (Or.inl ⟨by rfl, ?hylb22⟩) (by assumption) ?restlb22
            case hylb22 => (intro w hSw; (try dsimp only at hSw); (try simp only [List.getElem_toArray, List.getElem_cons_zero, List.getElem_cons_succ]); go_simp; (try with_reducible rfl))
            (try simp only [Act.put, List.setIfInBounds_toArray, List.set_cons_zero, List.set_cons_succ, List.getElem_toArray, List.getElem_cons_zero, List.getElem_cons_succ])
            refine wpAnyH_take (i := 23) (oi := _) (v := ?vlb23) rfl (by kernel_rfl) (by kernel_rfl) (by kernel_rfl) (fun _ _ _ h => h) (Or.inl ⟨by rfl, ?hylb23⟩) (by assumption) ?restlb23
            case hylb23 => (intro w hSw; (try dsimp only at hSw); (try simp only [List.getElem_toArray, List.getElem_cons_zero, List.getElem_cons_succ]); go_simp; (try with_reducible rfl))
            (try simp only [Act.put, List.setIfInBounds_toArray, List.set_cons_zero, List.set_cons_succ, List.getElem_toArray, List.getElem_cons_zero, List.getElem_cons_succ])
            refine wpAnyH_take (i := 24) (oi := _) (v := ?vlb24) rfl (by kernel_rfl) (by kernel_rfl) (by kernel_rfl) (fun _ _ _ h => h) (Or.inl ⟨by rfl, ?hylb24⟩) (by assumption) ?restlb24
            case hylb24 => (intro w hSw; (try dsimp only at hSw); (try simp only [List.getElem_toArray, List.getElem_cons_zero, List.getElem_cons_succ]); go_simp; (try with_reducible rfl))
            (try simp only [Act.put, List.setIfInBounds_toArray, List.set_cons_zero, List.set_cons_succ, List.getElem_toArray, List.getElem_cons_zero, List.getElem_cons_succ])
            refine wpAnyH_take (i := 25) (oi := _) (v := ?vlb25) rfl (by kernel_rfl) (by kernel_rfl) (by kernel_rfl) (fun _ _ _ h => h) (Or.inl ⟨by rfl, ?hylb25⟩) (by assumption) ?restlb25
            case hylb25 => (intro w hSw; (try dsimp only at hSw); (try simp only [List.getElem_toArray, List.getElem_cons_zero, List.getElem_cons_succ]); go_simp; (try with_reducible rfl))
            (try simp only [Act.put, List.setIfInBounds_toArray, List.set_cons_zero, List.set_cons_succ, List.getElem_toArray, List.getElem_cons_zero, List.getElem_cons_succ])
            refine wpAnyH_take (i := 26) (oi := _) (v := ?vlb26) rfl (by kernel_rfl) (by kernel_rfl) (by kernel_rfl) (fun _ _ _ h => h) (Or.inl ⟨by rfl, ?hylb26⟩) (by assumption) ?restlb26
            case hylb26 => (intro w hSw; (try dsimp only at hSw); (try simp only [List.getElem_toArray, List.getElem_cons_zero, List.getElem_cons_succ]); go_simp; (try with_reducible rfl))
            (try simp only [Act.put, List.setIfInBounds_toArray, List.set_cons_zero, List.set_cons_succ, List.getElem_toArray, List.getElem_cons_zero, List.getElem_cons_succ])
            refine wpAnyH_take (i := 27) (oi := _) (v := ?vlb27) rfl (by kernel_rfl) (by kernel_rfl) (by kernel_rfl) (fun _ _ _ h => h) (Or.inl ⟨by rfl, ?hylb27⟩) (by assumption) ?restlb27
            case hylb27 => (intro w hSw; (try dsimp only at hSw); (try simp only [List.getElem_toArray, List.getElem_cons_zero, List.getElem_cons_succ]); go_simp; (try with_reducible rfl))
            (try simp only [Act.put, List.setIfInBounds_toArray, List.set_cons_zero, List.set_cons_succ, List.getElem_toArray, List.getElem_cons_zero, List.getElem_cons_succ])
            refine wpAnyH_take (i := 28) (oi := _) (v := ?vlb28) rfl (by kernel_rfl) (by kernel_rfl) (by kernel_rfl) (fun _ _ _ h => h) (Or.inl ⟨by rfl, ?hylb28⟩) (by assumption) ?restlb28
            case hylb28 => (intro w hSw; (try dsimp only at hSw); (try simp only [List.getElem_toArray, List.getElem_cons_zero, List.getElem_cons_succ]); go_simp; (try with_reducible rfl))
            (try simp only [Act.put, List.setIfInBounds_toArray, List.set_cons_zero, List.set_cons_succ, List.getElem_toArray, List.getElem_cons_zero, List.getElem_cons_succ])
            refine wpAnyH_take (i := 29) (oi := _) (v := ?vlb29) rfl (by kernel_rfl) (by kernel_rfl) (by kernel_rfl) (fun _ _ _ h => h) (Or.inl ⟨by rfl, ?hylb29⟩) (by assumption) ?restlb29
            case hylb29 => (intro w hSw; (try dsimp only at hSw); (try simp only [List.getElem_toArray, List.getElem_cons_zero, List.getElem_cons_succ]); go_simp; (try with_reducible rfl))
            (try simp only [Act.put, List.setIfInBounds_toArray, List.set_cons_zero, List.set_cons_succ, List.getElem_toArray, List.getElem_cons_zero, List.getElem_cons_succ])
            refine wpAnyH_take (i := 30) (oi := _) (v := ?vlb30) rfl (by kernel_rfl) (by kernel_rfl) (by kernel_rfl) (fun _ _ _ h => h) (Or.inl ⟨by rfl, ?hylb30⟩) (by assumption) ?restlb30
            case hylb30 => (intro w hSw; (try dsimp only at hSw); (try simp only [List.getElem_toArray, List.getElem_cons_zero, List.getElem_cons_succ]); go_simp; (try with_reducible rfl))
            (try simp only [Act.put, List.setIfInBounds_toArray, List.set_cons_zero, List.set_cons_succ, List.getElem_toArray, List.getElem_cons_zero, List.getElem_cons_succ])
            refine wpAnyH_take (i := 31) (oi := _) (v := ?vlb31) rfl (by kernel_rfl) (by kernel_rfl) (by kernel_rfl) (fun _ _ _ h => h) (Or.inl ⟨by rfl, ?hylb31⟩) (by assumption) ?restlb31
            case hylb31 => (intro w hSw; (try dsimp only at hSw); (try simp only [List.getElem_toArray, List.getElem_cons_zero, List.getElem_cons_succ]); go_simp; (try with_reducible rfl))
            (try simp only [Act.put, List.setIfInBounds_toArray, List.set_cons_zero, List.set_cons_succ, List.getElem_toArray, List.getElem_cons_zero, List.getElem_cons_succ])
            refine wpAnyH_take (i := 32) (oi := _) (v := ?vlb32) rfl (by kernel_rfl) (by kernel_rfl) (by kernel_rfl) (fun _ _ _ h => h) (Or.inl ⟨by rfl, ?hylb32⟩) (by assumption) ?restlb32
            case hylb32 => (intro w hSw; (try dsimp only at hSw); (try simp only [List.getElem_toArray, List.getElem_cons_zero, List.getElem_cons_succ]); go_simp; (try with_reducible rfl))
            (try simp only [Act.put, List.setIfInBounds_toArray, List.set_cons_zero, List.set_cons_succ, List.getElem_toArray, List.getElem_cons_zero, List.getElem_cons_succ])
            refine wpAnyH_take (i := 33) (oi := _) (v := ?vlb33) rfl (by kernel_rfl) (by kernel_rfl) (by kernel_rfl) (fun _ _ _ h => h) (Or.inl ⟨by rfl, ?hylb33⟩) (by assumption) ?restlb33
            case hylb33 => (intro w hSw; (try dsimp only at hSw); (try simp only [List.getElem_toArray, List.getElem_cons_zero, List.getElem_cons_succ]); go_simp; (try with_reducible rfl))
            (try simp only [Act.put, List.setIfInBounds_toArray, List.set_cons_zero, List.set_cons_succ, List.getElem_toArray, List.getElem_cons_zero, List.getElem_cons_succ])
            refine wpAnyH_take (i := 34) (oi := _) (v := ?vlb34) rfl (by kernel_rfl) (by kernel_rfl) (by kernel_rfl) (fun _ _ _ h => h) (Or.inl ⟨by rfl, ?hylb34⟩) (by assumption) ?restlb34
            case hylb34 => (intro w hSw; (try dsimp only at hSw); (try simp only [List.getElem_toArray, List.getElem_cons_zero, List.getElem_cons_succ]); go_simp; (try with_reducible rfl))
            (try simp only [Act.put, List.setIfInBounds_toArray, List.set_cons_zero, List.set_cons_succ, List.getElem_toArray, List.getElem_cons_zero, List.getElem_cons_succ])
            refine wpAnyH_take (i := 35) (oi := _) (v := ?vlb35) rfl (by kernel_rfl) (by kernel_rfl) (by kernel_rfl) (fun _ _ _ h => h) (Or.inl ⟨by rfl, ?hylb35⟩) (by assumption) ?restlb35
            case hylb35 => (intro w hSw; (try dsimp only at hSw); (try simp only [List.getElem_toArray, List.getElem_cons_zero, List.getElem_cons_succ]); go_simp; (try with_reducible rfl))
            (try simp only [Act.put, List.setIfInBounds_toArray, List.set_cons_zero, List.set_cons_succ, List.getElem_toArray, List.getElem_cons_zero, List.getElem_cons_succ])
            refine wpAnyH_take (i := 36) (oi := _) (v := ?vlb36) rfl (by kernel_rfl) (by kernel_rfl) (by kernel_rfl) (fun _ _ _ h => h) (Or.inl ⟨by rfl, ?hylb36⟩) (by assumption) ?restlb36
            case hylb36 => (intro w hSw; (try dsimp only at hSw); (try simp only [List.getElem_toArray, List.getElem_cons_zero, List.getElem_cons_succ]); go_simp; (try with_reducible rfl))
            (try simp only [Act.put, List.setIfInBounds_toArray, List.set_cons_zero, List.set_cons_succ, List.getElem_toArray, List.getElem_cons_zero, List.getElem_cons_succ])
            refine wpAnyH_take (i := 37) (oi := _) (v := ?vlb37) rfl (by kernel_rfl) (by kernel_rfl) (by kernel_rfl) (fun _ _ _ h => h) (Or.inl ⟨by rfl, ?hylb37⟩) (by assumption) ?restlb37
            case hylb37 => (intro w hSw; (try dsimp only at hSw); (try simp only [List.getElem_toArray, List.getElem_cons_zero, List.getElem_cons_succ]); go_simp; (try with_reducible rfl))
            (try simp only [Act.put, List.setIfInBounds_toArray, List.set_cons_zero, List.set_cons_succ, List.getElem_toArray, List.getElem_cons_zero, List.getElem_cons_succ])
            refine wpAnyH_take (i := 38) (oi := _) (v := ?vlb38) rfl (by kernel_rfl) (by kernel_rfl) (by kernel_rfl) (fun _ _ _ h => h) (Or.inl ⟨by rfl, ?hylb38⟩) (by assumption) ?restlb38
            case hylb38 => (intro w hSw; (try dsimp only at hSw); (try simp only [List.getElem_toArray, List.getElem_cons_zero, List.getElem_cons_succ]); go_simp; (try with_reducible rfl))
            (try simp only [Act.put, List.setIfInBounds_toArray, List.set_cons_zero, List.set_cons_succ, List.getElem_toArray, List.getElem_cons_zero, List.getElem_cons_succ])
            refine wpAnyH_take (i := 39) (oi := _) (v := ?vlb39) rfl (by kernel_rfl) (by kernel_rfl) (by kernel_rfl) (fun _ _ _ h => h) (Or.inl ⟨by rfl, ?hylb39⟩) (by assumption) ?restlb39
            case hylb39 => (intro w hSw; (try dsimp only at hSw); (try simp only [List.getElem_toArray, List.getElem_cons_zero, List.getElem_cons_succ]); go_simp; (try with_reducible rfl))
            (try simp only [Act.put, List.setIfInBounds_toArray, List.set_cons_zero, List.set_cons_succ, List.getElem_toArray, List.getElem_cons_zero, List.getElem_cons_succ])
            refine wpAnyH_done (by kernel_rfl) ?_ _
            refine NoPanic.normal ?_
            go_wp2_with fail
            go_ret
            exact ⟨rfl, HT.out.base.trans (V3.out.mono HT.out.base.size)⟩

set_option maxRecDepth 100000 in
set_option maxHeartbeats 800000 in
theorem two_long (A : Option Addr) (n cap : Nat) (ag : Bool) (w : World) (h2 : 20 < n) :
    Calls Try.prog 5 #[.slice A n cap, .bool ag] w fun e w' => e = .returned (.bool true) ∧ Below w.heap.size w w' := by
  have hd1 : decide (20 < (n : Int)) = true := by simp; omega
  go_enter Try.func5, Try.ntmps5
  go_wp2_with fail
  refine (alive_any _).mono ?_
  rintro r w1 ⟨rfl, hb⟩
  go_wp2_with fail
  go_ret
  exact ⟨rfl, hb⟩

theorem walk_OptTwo (A : Option Addr) (n cap : Nat) (xs : List Bool) (ag : Bool) (w : World) (hx : Bools w A n xs) :
    Calls Try.prog 5 #[.slice A n cap, .bool ag] w fun e w' => e = .returned (.bool true) ∧ Below w.heap.size w w' := by
  by_cases h : n ≤ 20
  · exact two_good A n cap xs ag w hx h
  · exact two_long A n cap ag w (by omega)

end Go.Proofs.Ytcpdeeiopoghiaa
