/- Law NvtPlain: the walk. Own work. -/
import Derived.Test.YtnnkgdggkinblaaNvtPlainM
import Derived.Test.YtnnkgdggkinblaaNvtAlive
import Derived.Test.YtnnkgdggkinblaaCuts
import Derived.Test.YtnnkgdggkinblaaFeedOne
namespace Go.Proofs.Ytnnkgdggkinblaa
set_option linter.unusedVariables false
set_option linter.unusedSimpArgs false
open Go.RowKit

set_option maxRecDepth 100000 in
set_option maxHeartbeats 3200000 in
theorem plain_good (s : ByteArray) (hs : s.size ≤ 500) (A : Option Addr) (n c : Nat) (xs : List Int) (hn : n ≤ 30) (bin : Bool) (w : World) (hx : Ints w A n xs) :
    Calls Try.prog 6 #[.string s, .slice A n c, .bool bin] w fun e w' => e = .returned (.bool true) ∧ Below w.heap.size w w' := by
  have k1 : ¬ (500 < (s.size : Int)) := by omega
  have k2 : ¬ (30 < (n : Int)) := by omega
  have HX := Lib.hid hx
  have HS := Lib.hid hs
  have hsz : (s.size : Int) ≤ 500 := by omega
  clear hx hs
  go_enter Try.func6, Try.ntmps6
  go_wp2_with fail
  refine (alive_any w).mono ?_
  rintro r w1 ⟨rfl, b1⟩
  have B1 := Lib.hid b1
  clear b1
  go_wp2_with fail
  go_loop [7] (fun i => ∃ k : Nat, i = .int .i64 k ∧ k ≤ s.size ∧ Hid (∀ b ∈ s.data.toList.take k, okB bin b)) (fun i => s.size - (intOf i).toNat)
  case atStart => exact ⟨0, rfl, by omega, Lib.hid (by simp)⟩
  case round =>
    obtain ⟨k, rfl, hk, hok⟩ := hrel
    by_cases hlt : k < s.size
    · obtain ⟨y, hy⟩ : ∃ y, y = s[k] := ⟨_, rfl⟩
      by_cases h255 : y = 255
      · have t1 : (((s[k]).toNat : Int) == 255) = true := by rw [← hy, h255]; rfl
        clear hy h255
        go_wp2_with fail
        go_ret
        exact ⟨rfl, B1.out⟩
      · have t1 : (((s[k]).toNat : Int) == 255) = false := by
          rw [← hy]; have := mt (u8_eq y 255).1 h255; simpa using this
        by_cases h13 : y = 13
        · have t2 : (((s[k]).toNat : Int) == 13) = true := by rw [← hy, h13]; rfl
          cases bin
          · clear hy h255 h13
            go_wp2_with fail
            go_ret
            exact ⟨rfl, B1.out⟩
          · have HO : Hid (∀ b ∈ s.data.toList.take (k + 1), okB true b) := Lib.hid (by
              intro b hb
              rw [List.take_succ_eq_append_getElem (by simpa using hlt)] at hb
              rcases List.mem_append.1 hb with hb | hb
              · exact hok.out b hb
              · have : b = y := by have := List.mem_singleton.1 hb; rw [this, hy]; rfl
                rw [this]; exact ⟨h255, fun _ => rfl⟩)
            clear hy h255 h13
            go_wp2_with fail
            go_round
            case rel => exact ⟨k + 1, by go_num, by omega, HO⟩
            case measure => simp [intOf]; omega
        · have t2 : (((s[k]).toNat : Int) == 13) = false := by
            rw [← hy]; have := mt (u8_eq y 13).1 h13; simpa using this
          have HO : Hid (∀ b ∈ s.data.toList.take (k + 1), okB bin b) := Lib.hid (by
            intro b hb
            rw [List.take_succ_eq_append_getElem (by simpa using hlt)] at hb
            rcases List.mem_append.1 hb with hb | hb
            · exact hok.out b hb
            · have : b = y := by have := List.mem_singleton.1 hb; rw [this, hy]; rfl
              rw [this]; exact ⟨h255, fun z => absurd z h13⟩)
          clear hy h255 h13
          go_wp2_with fail
          go_round
          case rel => exact ⟨k + 1, by go_num, by omega, HO⟩
          case measure => simp [intOf]; omega
    · have hks : k = s.size := by omega
      subst hks
      have HOK : Hid (∀ b ∈ s.data.toList, okB bin b) := Lib.hid (by
        have := hok.out
        rwa [List.take_of_length_le (by rw [← Lib.size_eq]; exact Nat.le_refl _)] at this)
      obtain ⟨CS, hCS⟩ : ∃ CS, CS = rdCells bin := ⟨_, rfl⟩
      have hb := rd_built bin
      have hnw := rd_new w1 bin
      rw [← hCS] at hb hnw
      have HB := Lib.hid hb
      have HN := Lib.hid hnw
      clear hb hnw hCS hok
      go_wp2_with (with_reducible refine wpList_built rfl 48 #[(0, .tmp 46)] rfl CS ?hbuilt ?_)
      case hbuilt => first | exact HB.out | (simp; exact HB.out)
      obtain ⟨p, hp⟩ : ∃ p, p = w1.heap.size := ⟨_, rfl⟩
      obtain ⟨W0, hW0⟩ : ∃ W0, W0 = w1.alloc (.cells CS 48) := ⟨_, rfl⟩
      rw [← hp, ← hW0] at HN
      rw [← hW0, ← hp]
      have BW := Lib.hid (show Below w.heap.size w W0 by rw [hW0]; exact B1.out.alloc B1.out.size _)
      have HPW := Lib.hid (show w.heap.size ≤ p by rw [hp]; exact B1.out.size)
      refine (cuts_any s A n c xs _ ((src_ints HX.out).below (BW.out.mono (Nat.le_refl _))) (fun x hx => HX.out.2.2.1 x hx) (by have := HS.out; omega) (by omega)).mono ?_
      rintro e w2 ⟨v, ps, rfl, ho, hj, hpl, hb2⟩
      have R2 := Lib.hid (RdAny.of (HN.out.below hb2))
      have BB := Lib.hid (BW.out.trans (hb2.mono BW.out.size))
      have HO := Lib.hid ho
      have HJ := Lib.hid hj
      have HPL := Lib.hid hpl
      have HPP := Lib.hid (show p < w2.heap.size from (HN.out.below hb2).lt)
      have HV := Lib.hid (show ∀ i, v.ownBlock = some i → i < w2.heap.size ∧ i ≠ p from fun i hi => ⟨own_lt ho hi, fun e => by have := (ho.lt i hi).1; have := HN.out.lt; omega⟩)
      obtain ⟨AV, cv, rfl, _⟩ := own_form ho
      have hpsb : (ps.length : Int) ≤ 31 := by omega
      clear ho hj hpl hb2 hW0 hp HN
      go_wp2_with fail
      go_loopw [9, 11] (fun gt i wr => ∃ (k : Nat) (r : Rd), i = .int .i64 k ∧ k ≤ ps.length ∧ gt = .string ⟨(joinL (ps.take k)).toArray⟩ ∧ Hid (r.Easy bin ∧ r.text = []) ∧ Hid (RdAny p bin w2 r wr)) (fun _ i _ => ps.length - (intOf i).toNat)
      case atStart => exact ⟨0, Rd.new, rfl, by omega, rfl, Lib.hid ⟨easy_new bin, rfl⟩, R2⟩
      case round =>
        obtain ⟨k, r, rfl, hk, rfl, hr, hrd⟩ := hrel
        obtain ⟨wo, rfl⟩ : ∃ wo : World, wo = wr := ⟨_, rfl⟩
        by_cases hlt : k < ps.length
        · obtain ⟨x, hxk⟩ : ∃ x, ps[k]? = some x := ⟨_, List.getElem?_eq_getElem hlt⟩
          obtain ⟨made, A1, c1, h1, s1⟩ := hrd.out
          have hrow : wo.ownsRow W0.heap.size 9 1 (.slice AV ps.length cv) ps.length (ps.map Value.string) := own_keep HO.out s1.1 (fun i hi z => (HV.out i hi).2 (rdOwn_none z))
          obtain ⟨gv, hgv⟩ : ∃ g, AV = some ⟨g, 0, none⟩ := (by
            rcases hrow.2 with ⟨_, q⟩ | ⟨g, cap, cur, q, _⟩
            · omega
            · injection q with q _ _; exact ⟨g, q⟩)
          subst hgv
          have hcx : wo.cell? ⟨gv, k, none⟩ = some (.string x) := by
            have := hrow.cells (g := gv) rfl k (.string x) (by rw [List.getElem?_map, hxk]; rfl)
            rwa [add_mk, Nat.zero_add] at this
          have hgl : gv < wo.heap.size := own_lt hrow rfl
          have hxs : x.size ≤ 500 := by
            have h2 := sum_mem (List.mem_of_getElem? hxk)
            have h3 := congrArg List.length HJ.out
            rw [joinL_len, ← Lib.size_eq] at h3
            have := HS.out
            omega
          have hok : ∀ b ∈ x.data.toList, okB bin b := fun b hb => HOK.out b (by
            rw [← HJ.out]
            obtain ⟨l1, l2, e⟩ := List.append_of_mem (List.mem_of_getElem? hxk)
            rw [e]
            simp [joinL]
            exact .inr (.inl (by simpa using hb)))
          obtain ⟨q1, q2, q3⟩ := easy_feed bin r x.data.toList hok hr.out.1
          have F1 := feed_one p bin made r A1 c1 x wo h1 (by omega)
          rw [q1] at F1
          have FF := Lib.hid F1
          have R1 := Lib.hid h1
          have S1 := Lib.hid s1
          have Q2 := Lib.hid q2
          have Q3 := Lib.hid q3
          have XS := Lib.hid hxs
          have HG := Lib.hid (HV.out gv rfl)
          have e1 := Lib.hid (show joinL (ps.take (k + 1)) = joinL (ps.take k) ++ x.data.toList by rw [take_next hxk, joinL_snoc])
          have hki : (k : Int) < (ps.length : Int) := by omega
          have hk0 : (0 : Int) ≤ (k : Int) := by omega
          clear F1 h1 s1 q1 q2 q3 hrow hok hxk hxs
          go_wp2_with fail
          refine FF.out.mono ?_
          rintro e w3 ⟨v3, rfl, hr3, A3, c3, h3, s3, _⟩
          have HR3 := Lib.hid (RdAny.fed S1.out h3 s3)
          have hcx3 : w3.cell? ⟨gv, k, none⟩ = some (.string x) := (s3.1.cell (p := ⟨gv, k, none⟩) hgl (fun z => by
            rcases far_of S1.out z with y | y
            · exact HG.out.2 y
            · have : gv < w2.heap.size := HG.out.1
              have : w2.heap.size ≤ gv := y
              omega)).trans hcx
          have hxz := XS.out
          have hz : (⟨(joinL (ps.take k)).toArray⟩ : ByteArray).size + x.size ≤ 9223372036854775807 := by
            have h2 := sum_take ps k
            have h3 := congrArg List.length HJ.out
            rw [joinL_len, ← Lib.size_eq] at h3
            rw [size_mk, joinL_len]
            have := HS.out
            omega
          have HM := Lib.hid (mk_add' (joinL (ps.take k)) x)
          clear h3 s3 hcx hxz
          by_cases hx0 : x.size = 0
          · obtain rfl := is_empty hx0
            rw [if_pos (by rfl)] at hr3
            obtain ⟨A5, c5, rfl, _⟩ := own_form hr3
            clear hr3 hx0
            go_wp2_with fail
            go_quiet (fail)
            go_wp2_with fail
            go_roundw
            case rel =>
              refine ⟨k + 1, _, by go_num, by omega, ?_, Lib.hid ⟨Q2.out, Q3.out.trans hr.out.2⟩, ?_⟩
              · rw [e1.out, show (ByteArray.empty).data.toList = [] from rfl, List.append_nil]
              · obtain ⟨mm, A4, c4, h4, s4⟩ := HR3.out
                exact Lib.hid ⟨mm, A4, c4, h4.drewN _, s4.drewN _⟩
            case measure => simp [intOf]; omega
          · have hne : x.data.toList ≠ [] := fun e => hx0 (by rw [Lib.size_eq, e]; rfl)
            rw [if_neg hne] at hr3
            obtain ⟨g3, c5, rfl, hg3, p0, p1, p2, p3⟩ := tok_cells (l := [⟨0, 0, 0, x.data.toList⟩]) hr3 (i := 0) rfl
            rw [mk_data] at p3
            clear hr3 hne hx0
            go_wp2_with fail
            go_quiet (fail)
            go_wp2_with fail
            go_roundw
            case rel =>
              refine ⟨k + 1, _, by go_num, by omega, ?_, Lib.hid ⟨Q2.out, Q3.out.trans hr.out.2⟩, ?_⟩
              · rw [e1.out, ← HM.out]
              · obtain ⟨mm, A4, c4, h4, s4⟩ := HR3.out
                exact Lib.hid ⟨mm, A4, c4, h4.drewN _, s4.drewN _⟩
            case measure => simp [intOf]; omega
        · have hkn : k = ps.length := by omega
          subst hkn
          have hjs : (⟨(joinL (ps.take ps.length)).toArray⟩ : ByteArray) = s := by rw [List.take_of_length_le (Nat.le_refl _), HJ.out, mk_data]
          rw [hjs]
          obtain ⟨made, A1, c1, h1, s1⟩ := hrd.out
          have HW := whole_any p bin made r A1 c1 wo h1
          rw [easy_whole bin r hr.out.1] at HW
          have HSB := sub_any p bin made r A1 c1 wo h1
          rw [hr.out.2] at HSB
          have HWW := Lib.hid HW
          have HSS := Lib.hid HSB
          have HF := Lib.hid (show Below w.heap.size w wo from BB.out.trans (s1.1.below BB.out.size (fun i hi z => by
            have := rdOwn_none z
            have := HPW.out
            omega)))
          clear h1 s1 HW HSB hjs
          go_wp2_with fail
          refine HWW.out.mono ?_
          rintro e w4 ⟨rfl, rfl⟩
          go_wp2_with fail
          refine HSS.out.mono ?_
          rintro e w4 ⟨rfl, rfl⟩
          go_wp2_with fail
          go_ret
          exact ⟨rfl, HF.out⟩

set_option maxRecDepth 100000 in
set_option maxHeartbeats 1600000 in
theorem walk_NvtPlain (s : ByteArray) (hs : s.size ≤ maxLen) (A : Option Addr) (n c : Nat) (xs : List Int) (bin : Bool) (w : World) (hx : Ints w A n xs) :
    Calls Try.prog 6 #[.string s, .slice A n c, .bool bin] w fun e w' => e = .returned (.bool true) ∧ Below w.heap.size w w' := by
  unfold maxLen at hs
  by_cases h1 : 500 < s.size
  · have h1' : (500 : Int) < (s.size : Int) := by omega
    clear hx
    go_enter Try.func6, Try.ntmps6
    go_wp2_with fail
    refine (alive_any w).mono ?_
    rintro r w1 ⟨rfl, b1⟩
    go_wp2_with fail
    go_ret
    exact ⟨rfl, b1⟩
  by_cases h2 : 30 < n
  · have h1' : ¬ (500 : Int) < (s.size : Int) := by omega
    have h2' : (30 : Int) < (n : Int) := by omega
    clear hx
    go_enter Try.func6, Try.ntmps6
    go_wp2_with fail
    refine (alive_any w).mono ?_
    rintro r w1 ⟨rfl, b1⟩
    go_wp2_with fail
    go_ret
    exact ⟨rfl, b1⟩
  exact plain_good s (by omega) A n c xs (by omega) bin w hx

end Go.Proofs.Ytnnkgdggkinblaa
