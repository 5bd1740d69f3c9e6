/- Law NvtCuts: the walk. Own work. -/
import Derived.Test.YtnnkgdggkinblaaCutLoop
import Derived.Test.YtnnkgdggkinblaaNvtAlive
import Derived.Test.YtnnkgdggkinblaaCuts
namespace Go.Proofs.Ytnnkgdggkinblaa
set_option linter.unusedVariables false
set_option linter.unusedSimpArgs false
open Go.RowKit

set_option maxRecDepth 100000 in
set_option maxHeartbeats 6400000 in
theorem cuts_good (s : ByteArray) (hs : s.size ≤ 1500) (A : Option Addr) (na ca : Nat) (xs : List Int) (hna : na ≤ 40) (B : Option Addr) (nb cb : Nat) (ys : List Int) (hnb : nb ≤ 40) (bin : Bool) (w : World) (hx : Ints w A na xs) (hy : Ints w B nb ys) :
    Calls Try.prog 3 #[.string s, .slice A na ca, .slice B nb cb, .bool bin] w fun e w' => e = .returned (.bool true) ∧ Below w.heap.size w w' := by
  have k1 : ¬ (1500 < (s.size : Int)) := by omega
  have k2 : ¬ (40 < (na : Int)) := by omega
  have k3 : ¬ (40 < (nb : Int)) := by omega
  obtain ⟨i0, hi, hz0, hz1, hz2⟩ := info_parts token_info
  have HX := Lib.hid hx
  have HY := Lib.hid hy
  have HS := Lib.hid hs
  have HNA := Lib.hid hna
  have HNB := Lib.hid hnb
  have hsz : (s.size : Int) ≤ 1500 := by omega
  clear hx hy hs hna hnb
  obtain ⟨CS, hCS⟩ : ∃ CS, CS = rdCells bin := ⟨_, rfl⟩
  have hb := rd_built bin
  rw [← hCS] at hb
  have HB := Lib.hid hb
  have HCS := Lib.hid hCS
  clear hb hCS
  go_enter Try.func3, Try.ntmps3
  go_wp2_with fail
  refine (alive_any w).mono ?_
  rintro r wc ⟨rfl, b1⟩
  have B1 := Lib.hid b1
  clear b1
  go_wp2_with (first
    | (with_reducible refine wpList_built rfl 48 #[(0, .tmp 38)] rfl CS ?hb1 ?_)
    | (with_reducible refine wpList_built rfl 48 #[(0, .tmp 41)] rfl CS ?hb2 ?_)
    | (with_reducible refine wpList_built rfl 48 #[(0, .tmp 44)] rfl CS ?hb3 ?_))
  case hb1 => first | exact HB.out | (simp; exact HB.out)
  case hb2 => first | exact HB.out | (simp; exact HB.out)
  case hb3 => first | exact HB.out | (simp; exact HB.out)
  obtain ⟨p0, hp0⟩ : ∃ p0, p0 = wc.heap.size := ⟨_, rfl⟩
  obtain ⟨W0, hW0⟩ : ∃ W0, W0 = ((wc.alloc (.cells CS 48)).alloc (.cells CS 48)).alloc (.cells CS 48) := ⟨_, rfl⟩
  rw [← hp0, ← hW0]
  have hW0z : W0.heap.size = p0 + 1 + 1 + 1 := by rw [hW0, hp0]; simp
  have RX0 : RdIn W0 p0 bin false Rd.new none 0 := by
    rw [hW0, hp0, HCS.out]; exact ((rd_new wc bin).alloc _).alloc _
  have RY0 : RdIn W0 (p0 + 1) bin false Rd.new none 0 := by
    have h1 := rd_new (wc.alloc (.cells (rdCells bin) 48)) bin
    rw [show (wc.alloc (.cells (rdCells bin) 48)).heap.size = wc.heap.size + 1 from by simp] at h1
    rw [hW0, hp0, HCS.out]; exact h1.alloc _
  have RZ0 : RdIn W0 (p0 + 1 + 1) bin false Rd.new none 0 := by
    have h1 := rd_new ((wc.alloc (.cells (rdCells bin) 48)).alloc (.cells (rdCells bin) 48)) bin
    rw [show ((wc.alloc (.cells (rdCells bin) 48)).alloc (.cells (rdCells bin) 48)).heap.size = wc.heap.size + 1 + 1 from by simp] at h1
    rw [hW0, hp0, HCS.out]; exact h1
  have BW0 : Below w.heap.size w W0 := by
    have hz := B1.out.size
    rw [hW0]
    exact (((B1.out.alloc hz _).alloc (by simp; omega) _).alloc (by simp; omega) _)
  have hwp : w.heap.size ≤ p0 := by rw [hp0]; exact B1.out.size
  refine (cuts_any s A na ca xs _ ((src_ints HX.out).below (BW0.mono (Nat.le_refl _))) (fun x hx => HX.out.2.2.1 x hx) (by have := HS.out; omega) (by have := HNA.out; omega)).mono ?_
  rintro e w2 ⟨v, ps, rfl, ho, hj, hpl, hb2⟩
  have RX := Lib.hid (CutLoop.new (RX0.below hb2))
  have RY := Lib.hid (RY0.below hb2)
  have RZ := Lib.hid (RZ0.below hb2)
  have BB := Lib.hid (BW0.trans (hb2.mono BW0.size))
  have HO := Lib.hid ho
  have HJ := Lib.hid hj
  have HPZ := Lib.hid (show p0 + 1 + 1 + 1 ≤ w2.heap.size from by have := hb2.size; omega)
  have HV := Lib.hid (show ∀ i, v.ownBlock = some i → i < w2.heap.size ∧ p0 + 1 + 1 + 1 ≤ i from fun i hi => ⟨own_lt ho hi, by have := (ho.lt i hi).1; omega⟩)
  have hpsb : (ps.length : Int) ≤ 41 := by have := HNA.out; omega
  obtain ⟨AV, cv, rfl, _⟩ := own_form ho
  have HWP := Lib.hid hwp
  clear ho hj hpl hb2 hW0 hp0 RX0 RY0 RZ0 BW0 hwp hW0z
  go_wp2_with fail
  go_loopw [12, 15] (fun lv i wr => ∃ k : Nat, i = .int .i64 k ∧ k ≤ ps.length ∧ Hid (CutLoop p0 bin w2 (joinL (ps.take k)) lv wr)) (fun _ i _ => ps.length - (intOf i).toNat)
  case atStart => exact ⟨0, rfl, by omega, RX⟩
  case round =>
    obtain ⟨k, rfl, hk, hcl⟩ := hrel
    obtain ⟨wo, rfl⟩ : ∃ wo : World, wo = wr := ⟨_, rfl⟩
    by_cases hlt : k < ps.length
    · obtain ⟨x, hxk⟩ : ∃ x, ps[k]? = some x := ⟨_, List.getElem?_eq_getElem hlt⟩
      have hkeep0 : Keep (Since p0 w2) w2 wo := by obtain ⟨_, _, _, _, _, _, _, _, _, _, _, h8⟩ := hcl.out; exact h8
      have hrow0 : wo.ownsRow W0.heap.size 9 1 (.slice AV ps.length cv) ps.length (ps.map Value.string) := own_keep HO.out hkeep0 (fun i hi z => by
        have h0 := HV.out i hi
        rcases z with z | z <;> omega)
      obtain ⟨gv, hgv⟩ : ∃ g, AV = some ⟨g, 0, none⟩ := (by
        rcases hrow0.2 with ⟨_, q⟩ | ⟨g, cap, cur, q, _⟩
        · omega
        · injection q with q _ _; exact ⟨g, q⟩)
      subst hgv
      have hcx : wo.cell? ⟨gv, k, none⟩ = some (.string x) := by
        have := hrow0.cells (g := gv) rfl k (.string x) (by rw [List.getElem?_map, hxk]; rfl)
        rwa [add_mk, Nat.zero_add] at this
      have HSX := Lib.hid (show (joinL (ps.take k)).length + x.size ≤ 1500 by
        have h2 : sum (ps.take (k + 1)) = sum (ps.take k) + x.size := by rw [take_next hxk, sum_snoc]
        have h3 := sum_take ps (k + 1)
        have h4 := congrArg List.length HJ.out
        rw [joinL_len, ← Lib.size_eq] at h4
        rw [joinL_len]
        have := HS.out
        omega)
      have e1 := Lib.hid (show joinL (ps.take (k + 1)) = joinL (ps.take k) ++ x.data.toList by rw [take_next hxk, joinL_snoc])
      have hki : (k : Int) < (ps.length : Int) := by omega
      have hk0 : (0 : Int) ≤ (k : Int) := by omega
      clear hkeep0 hrow0 hxk
      obtain ⟨made, A1, c1, L, h1, h2, h3, h4, h5, h6, h7, h8⟩ := hcl.out
      have H5 := Lib.hid h5
      obtain ⟨AL, cl, rfl, _⟩ := own_form h5
      have hS1 : (joinL (ps.take k)).length + (x).size ≤ 1500 := HSX.out
      have F1 := feed_one p0 bin made (goL bin Rd.new (joinL (ps.take k))) A1 c1 (x) wo h1 (by omega)
      obtain ⟨l3, hl3⟩ : ∃ l3, l3 = feedL bin (goL bin Rd.new (joinL (ps.take k))) (x).data.toList := ⟨_, rfl⟩
      have hl3n : l3.length ≤ 1500 := by
        have := feed_len bin (goL bin Rd.new (joinL (ps.take k))) (x).data.toList
        rw [← hl3, ← Lib.size_eq] at this
        omega
      have hLn : L.length ≤ 1500 := by omega
      rw [← hl3] at F1
      have FF := Lib.hid F1
      have HL3 := Lib.hid hl3
      have HLN := Lib.hid hLn
      have HL3N := Lib.hid hl3n
      have HC := Lib.hid (And.intro h1 (And.intro h2 (And.intro h3 (And.intro h4 (And.intro h5 (And.intro h6 (And.intro h7 h8)))))))
      clear F1 h1 h2 h3 h4 h5 h6 h7 h8 hl3 hcl hS1 hl3n hLn
      go_wp2_with fail
      refine FF.out.mono ?_
      rintro e w3 ⟨v3, rfl, hr3, A3, c3, g3, s3, _⟩
      have hrow : w3.ownsRow w2.heap.size 60 4 (.slice AL L.length cl) L.length (toks L) := own_keep HC.out.2.2.2.2.1 s3.1 (fun i hi z => HC.out.2.2.2.2.2.1 i hi z)
      have HB3 := Lib.hid (show w2.heap.size ≤ w3.heap.size from Nat.le_trans HC.out.2.2.2.2.2.2.2.size s3.1.size)
      have HR := Lib.hid hrow
      have HR3 := Lib.hid hr3
      have HG := Lib.hid g3
      have HS3 := Lib.hid s3
      clear hrow hr3 g3 s3
      go_wp2_with (at_builtin; refine wpList_own_more _ rfl (.tmp 56) (.tmp 63) 49 rfl w2.heap.size wo.heap.size 60 i0 _ 4 40 Try.underlying49 hi hz0 hz1 hz2 rfl (by decide) (.slice AL L.length cl) v3 L.length l3.length (toks L) (toks l3) rfl rfl HR.out HR3.out (toks_one_cell _) ?c3a ?c4a HB3.out ?_)
      case c3a => have := HLN.out; have := HL3N.out; unfold maxLen; omega
      case c4a => have := HLN.out; have := HL3N.out; omega
      intro v4 w4 a1 a2 a3
      have HN : Hid (CutLoop p0 bin w2 (joinL (ps.take k) ++ (x).data.toList) v4 w4) := by
        obtain ⟨h1, h2, h3, h4, h5, h6, h7, h8⟩ := HC.out
        have e := HL3.out
        subst e
        exact Lib.hid (cut_fed h1 h2 h3 h4 h5 h6 h7 h8 HG.out HS3.out a1 a2 a3)
      clear a1 a2 a3 HC HR HR3 HG HS3 HB3 FF
      go_wp2_with fail
      go_roundw
      case rel => exact ⟨k + 1, by go_num, by omega, by show CutLoop _ _ _ _ _ _; rw [e1.out]; exact HN.out⟩
      case measure => simp [intOf]; omega
    · have hkn : k = ps.length := by omega
      subst hkn
      rw [List.take_of_length_le (Nat.le_refl _), HJ.out] at hcl
      obtain ⟨mx, Ax, cx, L, xR, xp, xl, xt, xrow, xne, xs', xk⟩ := hcl.out
      obtain ⟨P, hP⟩ : ∃ P, P = plainL (feedL bin Rd.new s.data.toList) := ⟨_, rfl⟩
      have hpl : plainL L = P := by rw [hP]; exact xp
      have hll : L.length ≤ 1500 := by rw [← Lib.size_eq] at xl; have := HS.out; omega
      have hlt2 : tsum L ≤ 1500 := by rw [← Lib.size_eq] at xt; have := HS.out; omega
      have HLP := Lib.hid (And.intro hpl (And.intro hll hlt2))
      have XR := Lib.hid xR
      have XROW := Lib.hid xrow
      have XS := Lib.hid xs'
      have YR := Lib.hid (RY.out.keep xk (fun i hi z => by
        have h0 := rdOwn_none hi
        have := HPZ.out
        rcases z with z | z <;> omega))
      have ZR := Lib.hid (RZ.out.keep xk (fun i hi z => by
        have h0 := rdOwn_none hi
        have := HPZ.out
        rcases z with z | z <;> omega))
      have HBW := Lib.hid (show Below w.heap.size w wo from BB.out.trans (xk.below BB.out.size (fun i hi z => by
        have := HPZ.out
        have := HWP.out
        have := BB.out.size
        rcases z with z | z <;> omega)))
      have HZ2 := Lib.hid (show p0 + 1 + 1 + 1 ≤ wo.heap.size from Nat.le_trans HPZ.out xk.size)
      have HPP := Lib.hid hP
      clear hpl hll hlt2 xR xrow xs' xk xne xt xl xp hcl RX RY RZ BB HO HV hpsb hP
      go_wp2_with fail
      refine (cuts_any s B nb cb ys _ ((src_ints HY.out).below (HBW.out.mono (Nat.le_refl _))) (fun x hx => HY.out.2.2.1 x hx) (by have := HS.out; omega) (by have := HNB.out; omega)).mono ?_
      rintro e w5 ⟨v5, qs, rfl, ho5, hj5, hpl5, hb5⟩
      obtain ⟨AQ, cq, rfl, _⟩ := own_form ho5
      have HQ := Lib.hid ho5
      have HJ5 := Lib.hid hj5
      have HB5 := Lib.hid hb5
      have hqn : qs.length ≤ 41 := by have := HNB.out; omega
      have HQN := Lib.hid hqn
      have HQB := Lib.hid (show ∀ i, blk AQ = some i → wo.heap.size ≤ i ∧ i < w5.heap.size from fun i hi => by
        have h0 := ho5.lt i (by rw [ownBlock_slice]; exact hi)
        exact h0)
      clear ho5 hj5 hpl5 hb5 hqn
      go_wp2_with fail
      refine (lent_Texts AQ qs.length cq qs _ (Buf.of_own HQ.out).src (by have := HQN.out; omega)).mono ?_
      rintro e w6 ⟨g, ct, rfl, ht6, hg6, hb6⟩
      have HT6 := Lib.hid ht6
      have HG6 := Lib.hid hg6
      have HB6 := Lib.hid (HB5.out.trans (hb6.mono HB5.out.size))
      have HQ6 := Lib.hid ((Buf.of_own HQ.out).src.below hb6)
      have HZ6 := Lib.hid (show w5.heap.size ≤ w6.heap.size from hb6.size)
      clear ht6 hg6 hb6
      have Y6 := Lib.hid (YR.out.below HB6.out)
      have F7 := feed_any (p0 + 1) bin false Rd.new none 0 (some ⟨g, 0, none⟩) qs.length ct qs w6 Y6.out (by have := HT6.out.src; rwa [List.length_map] at this) (fun i hi z => by
        have h0 := rdOwn_none z
        have h1 : i = g := by simp [blk] at hi; omega
        have := HG6.out
        have := HZ2.out
        have := HB5.out.size
        omega) (by have := HQN.out; omega) (by
          have h4 := congrArg List.length HJ5.out
          rw [joinL_len, ← Lib.size_eq] at h4
          have := HS.out
          omega)
      rw [HJ5.out] at F7
      have FF7 := Lib.hid F7
      clear F7
      go_wp2_with fail
      refine FF7.out.mono ?_
      rintro e w7 ⟨v7, rfl, hr7, A7, c7, y7, s7, _⟩
      obtain ⟨M, hM⟩ : ∃ M, M = feedL bin Rd.new s.data.toList := ⟨_, rfl⟩
      rw [← hM] at hr7
      have hml : M.length ≤ 1500 := by
        have h1 := feed_len bin Rd.new s.data.toList
        rw [← hM, ← Lib.size_eq] at h1
        have := HS.out
        omega
      have hmt : tsum M ≤ 1500 := by
        have h1 := feed_sum bin Rd.new s.data.toList
        rw [← hM, ← Lib.size_eq] at h1
        have : Rd.new.text.length = 0 := rfl
        have := HS.out
        omega
      have HMP := Lib.hid (And.intro (show plainL M = P by rw [hM, HPP.out]) (And.intro hml hmt))
      have no7 : ∀ i, rdOwn (p0 + 1) none i → i = p0 + 1 := fun i hi => rdOwn_none hi
      have X7 := Lib.hid ((XR.out.below HB6.out).keep s7.1 (fun i hi z => by
        have h0 := no7 i z
        have h1 := HPZ.out
        rcases XS.out i hi with y | y <;> omega))
      have L7 := Lib.hid (own_keep (own_below XROW.out HB6.out (fun i hi => own_lt XROW.out hi)) s7.1 (fun i hi z => by
        have h0 := no7 i z
        have h1 := (XROW.out.lt i hi).1
        have := HPZ.out
        omega))
      have Z7 := Lib.hid ((ZR.out.below HB6.out).keep s7.1 (fun i hi z => by
        have h0 := no7 i z
        have h1 := rdOwn_none hi
        omega))
      have T7 := Lib.hid (HT6.out.keep s7.1 (fun z => by
        have h0 := no7 g z
        have := HG6.out
        have := HZ2.out
        have := HB5.out.size
        omega))
      have Q7 := Lib.hid (HQ6.out.of_keep s7.1 (fun i hi z => by
        have h0 := no7 i z
        have h1 := HQB.out i hi
        have := HZ2.out
        omega))
      have HBW7 := Lib.hid (show Below w.heap.size w w7 from (HBW.out.trans (HB6.out.mono HBW.out.size)).trans (s7.1.below (by have := HBW.out.size; have := HB6.out.size; omega) (fun i hi z => by
        have h0 := no7 i z
        have := HWP.out
        omega)))
      have M7 := Lib.hid hr7
      have Y7 := Lib.hid y7
      have HZ7 := Lib.hid (show p0 + 1 + 1 + 1 ≤ w7.heap.size from by have := HZ2.out; have := HB6.out.size; have := s7.1.size; omega)
      have HQL := Lib.hid (show ∀ i, blk AQ = some i → i < w7.heap.size ∧ p0 + 1 + 1 + 1 ≤ i from fun i hi => by
        have h1 := HQB.out i hi
        have := HZ6.out
        have := s7.1.size
        have := HZ2.out
        omega)
      have HGL := Lib.hid (show g < w7.heap.size ∧ p0 + 1 + 1 + 1 ≤ g from by
        have h1 := T7.out.lt
        have := HG6.out
        have := HB5.out.size
        have := HZ2.out
        omega)
      have HLL := Lib.hid (show ∀ i, u12.ownBlock = some i → i < w7.heap.size ∧ p0 + 1 + 1 + 1 ≤ i from fun i hi => by
        have h1 := own_lt L7.out hi
        have h2 := (XROW.out.lt i hi).1
        have := HPZ.out
        omega)
      have HML := Lib.hid (show ∀ i, v7.ownBlock = some i → i < w7.heap.size ∧ p0 + 1 + 1 + 1 ≤ i from fun i hi => by
        have h1 := own_lt M7.out hi
        have h2 := (M7.out.lt i hi).1
        have := HZ2.out
        have := HB6.out.size
        omega)
      have HXL := Lib.hid (show ∀ i, rdOwn p0 Ax i → i < w7.heap.size ∧ (i = p0 ∨ p0 + 1 + 1 + 1 ≤ i) from fun i hi => by
        have h1 := X7.out.lto hi
        have := HPZ.out
        rcases XS.out i hi with y | y <;> omega)
      have HYL := Lib.hid (show ∀ i, rdOwn (p0 + 1) A7 i → i < w7.heap.size ∧ (i = p0 + 1 ∨ p0 + 1 + 1 + 1 ≤ i) from fun i hi => by
        have h1 := Y7.out.lto hi
        have := HZ2.out
        have := HB6.out.size
        rcases s7.2 i hi with y | y
        · have := rdOwn_none y; omega
        · omega)
      clear hr7 y7 s7 hml hmt hM no7 XR XROW XS YR ZR HT6 HQ6 Y6 FF7 HQ HB5 HB6 HQB HG6 HZ6 HZ2 HBW
      go_wp2_with fail
      go_loopw [18, 19] (fun nv i wr => ∃ k : Nat, i = .int .i64 k ∧ k ≤ s.size ∧ Hid (CutLoop (p0 + 1 + 1) bin w7 (s.data.toList.take k) nv wr)) (fun _ i _ => s.size - (intOf i).toNat)
      case atStart => exact ⟨0, rfl, by omega, Lib.hid (CutLoop.new Z7.out)⟩
      case round =>
        obtain ⟨k, rfl, hk, hcl⟩ := hrel
        obtain ⟨wo, rfl⟩ : ∃ wo : World, wo = wr := ⟨_, rfl⟩
        by_cases hlt : k < s.size
        · obtain ⟨x, hxe⟩ : ∃ x, x = s.extract k (k + 1) := ⟨_, rfl⟩
          have hxd : x.data.toList = (s.data.toList.drop k).take 1 := by
            rw [hxe]
            have := extract_mk s.data.toList k (k + 1)
            rw [mk_data] at this
            rw [this]
            simp only [List.drop_take]
            rw [show k + 1 - k = 1 from by omega]
          have e1 := Lib.hid (show s.data.toList.take (k + 1) = s.data.toList.take k ++ x.data.toList by rw [hxd]; exact List.take_add)
          have HSX := Lib.hid (show (s.data.toList.take k).length + x.size ≤ 1500 by
            have hx1 : x.size ≤ 1 := by rw [Lib.size_eq, hxd, List.length_take]; omega
            rw [List.length_take]
            have := HS.out
            omega)
          have HXE := Lib.hid hxe
          have hki : (k : Int) < (s.size : Int) := by omega
          have hk0 : (0 : Int) ≤ (k : Int) := by omega
          clear hxe hxd
          obtain ⟨made, A1, c1, L, h1, h2, h3, h4, h5, h6, h7, h8⟩ := hcl.out
          have H5 := Lib.hid h5
          obtain ⟨AL, cl, rfl, _⟩ := own_form h5
          have hS1 : (s.data.toList.take k).length + (x).size ≤ 1500 := HSX.out
          have F1 := feed_one (p0 + 1 + 1) bin made (goL bin Rd.new (s.data.toList.take k)) A1 c1 (x) wo h1 (by omega)
          obtain ⟨l3, hl3⟩ : ∃ l3, l3 = feedL bin (goL bin Rd.new (s.data.toList.take k)) (x).data.toList := ⟨_, rfl⟩
          have hl3n : l3.length ≤ 1500 := by
            have := feed_len bin (goL bin Rd.new (s.data.toList.take k)) (x).data.toList
            rw [← hl3, ← Lib.size_eq] at this
            omega
          have hLn : L.length ≤ 1500 := by omega
          rw [← hl3] at F1
          have FF := Lib.hid F1
          have HL3 := Lib.hid hl3
          have HLN := Lib.hid hLn
          have HL3N := Lib.hid hl3n
          have HC := Lib.hid (And.intro h1 (And.intro h2 (And.intro h3 (And.intro h4 (And.intro h5 (And.intro h6 (And.intro h7 h8)))))))
          clear F1 h1 h2 h3 h4 h5 h6 h7 h8 hl3 hcl hS1 hl3n hLn
          go_wp2_with fail
          rw [← HXE.out]
          refine FF.out.mono ?_
          rintro e w3 ⟨v3, rfl, hr3, A3, c3, g3, s3, _⟩
          have hrow : w3.ownsRow w7.heap.size 60 4 (.slice AL L.length cl) L.length (toks L) := own_keep HC.out.2.2.2.2.1 s3.1 (fun i hi z => HC.out.2.2.2.2.2.1 i hi z)
          have HB3 := Lib.hid (show w7.heap.size ≤ w3.heap.size from Nat.le_trans HC.out.2.2.2.2.2.2.2.size s3.1.size)
          have HR := Lib.hid hrow
          have HR3 := Lib.hid hr3
          have HG := Lib.hid g3
          have HS3 := Lib.hid s3
          clear hrow hr3 g3 s3
          go_wp2_with (at_builtin; refine wpList_own_more _ rfl (.tmp 79) (.tmp 87) 49 rfl w7.heap.size wo.heap.size 60 i0 _ 4 40 Try.underlying49 hi hz0 hz1 hz2 rfl (by decide) (.slice AL L.length cl) v3 L.length l3.length (toks L) (toks l3) rfl rfl HR.out HR3.out (toks_one_cell _) ?c3b ?c4b HB3.out ?_)
          case c3b => have := HLN.out; have := HL3N.out; unfold maxLen; omega
          case c4b => have := HLN.out; have := HL3N.out; omega
          intro v4 w4 a1 a2 a3
          have HN : Hid (CutLoop (p0 + 1 + 1) bin w7 (s.data.toList.take k ++ (x).data.toList) v4 w4) := by
            obtain ⟨h1, h2, h3, h4, h5, h6, h7, h8⟩ := HC.out
            have e := HL3.out
            subst e
            exact Lib.hid (cut_fed h1 h2 h3 h4 h5 h6 h7 h8 HG.out HS3.out a1 a2 a3)
          clear a1 a2 a3 HC HR HR3 HG HS3 HB3 FF
          go_wp2_with fail
          go_roundw
          case rel => exact ⟨k + 1, by go_num, by omega, by show CutLoop _ _ _ _ _ _; rw [e1.out]; exact HN.out⟩
          case measure => simp [intOf]; omega
        · have hks : k = s.size := by omega
          subst hks
          rw [List.take_of_length_le (by rw [← Lib.size_eq]; exact Nat.le_refl _)] at hcl
          obtain ⟨mz, Az, cz, N, zR, zp, zl, zt, zrow, zne, zs, zk⟩ := hcl.out
          have far : ∀ i, i < w7.heap.size → i ≠ p0 + 1 + 1 → ¬ Since (p0 + 1 + 1) w7 i := fun i h1 h2 z => by rcases z with z | z <;> omega
          obtain ⟨rr, hrr⟩ : ∃ rr, rr = goL bin Rd.new s.data.toList := ⟨_, rfl⟩
          have E0 : Hid (CutEnd bin p0 (p0 + 1) (p0 + 1 + 1) rr L M N u12 v7 u18 g ct qs AQ wo) := by
            show CutEnd _ _ _ _ _ _ _ _ _ _ _ _ _ _ _ _
            rw [hrr]
            refine ⟨⟨_, _, _, X7.out.keep zk (fun i hi => ?_)⟩, ⟨_, _, _, Y7.out.keep zk (fun i hi => ?_)⟩, ⟨_, _, _, zR⟩, ⟨_, own_keep L7.out zk (fun i hi => ?_)⟩, ⟨_, own_keep M7.out zk (fun i hi => ?_)⟩, ⟨_, zrow⟩, T7.out.keep zk (far g HGL.out.1 (by have := HGL.out.2; omega)), Q7.out.of_keep zk (fun i hi => ?_)⟩
            · have h0 := HXL.out i hi; exact far i h0.1 (by omega)
            · have h0 := HYL.out i hi; exact far i h0.1 (by omega)
            · have h0 := HLL.out i hi; exact far i h0.1 (by omega)
            · have h0 := HML.out i hi; exact far i h0.1 (by omega)
            · have h0 := HQL.out i hi; exact far i h0.1 (by omega)
          have HNP := Lib.hid (show plainL N = P ∧ N.length ≤ 1500 ∧ tsum N ≤ 1500 from ⟨by rw [HPP.out]; exact zp, by rw [← Lib.size_eq] at zl; have := HS.out; omega, by rw [← Lib.size_eq] at zt; have := HS.out; omega⟩)
          have HBF := Lib.hid (show Below w.heap.size w wo from HBW7.out.trans (zk.below HBW7.out.size (fun i hi z => by
            have := HWP.out
            have := HBW7.out.size
            rcases z with z | z <;> omega)))
          have HPL := Lib.hid (show P.length ≤ 1099511627776 by
            have h1 := plain_len L
            rw [HLP.out.1] at h1
            have := HLP.out.2.1
            omega)
          clear zR zp zl zt zrow zne zs zk far hrr hcl X7 Y7 Z7 L7 M7 T7 Q7 HXL HYL HLL HML HQL HGL HBW7 HZ7
          go_wp2_with fail
          refine (plain_row u12 L P _ E0.out.l HLP.out.1 (by have := HLP.out.2.1; omega) (by have := HLP.out.2.2; omega)).mono ?_
          rintro e wa ⟨va, rfl, ra, ba⟩
          have E1 := Lib.hid (E0.out.below ba)
          have F1 := Lib.hid (HBF.out.trans (ba.mono HBF.out.size))
          have RA := Lib.hid ra
          clear ra ba E0
          go_wp2_with fail
          refine (plain_row v7 M P _ E1.out.m HMP.out.1 (by have := HMP.out.2.1; omega) (by have := HMP.out.2.2; omega)).mono ?_
          rintro e wb ⟨vb, rfl, rb, bb⟩
          have E2 := Lib.hid (E1.out.below bb)
          have F2 := Lib.hid (F1.out.trans (bb.mono F1.out.size))
          have RA2 := Lib.hid (own_below RA.out bb (fun i hi => own_lt RA.out hi))
          have RB2 := Lib.hid rb
          clear rb bb E1 F1 RA
          go_wp2_with fail
          refine (same_Toks _ _ va vb P _ RA2.out RB2.out HPL.out).mono ?_
          rintro e wd ⟨rfl, q1, rfl⟩
          have E3 := Lib.hid (E2.out.drewN q1)
          have F3 := Lib.hid (show Below w.heap.size w (wb.drewN q1) from ⟨F2.out.os, F2.out.tape, F2.out.output, F2.out.size, F2.out.block⟩)
          clear E2 F2 RA2 RB2
          obtain ⟨W3, hW3⟩ : ∃ W3, W3 = wb.drewN q1 := ⟨_, rfl⟩
          rw [← hW3] at E3 F3 ⊢
          clear hW3
          go_wp2_with fail
          refine (plain_row u18 N P _ E3.out.n HNP.out.1 (by have := HNP.out.2.1; omega) (by have := HNP.out.2.2; omega)).mono ?_
          rintro e wa ⟨va, rfl, ra, ba⟩
          have E1 := Lib.hid (E3.out.below ba)
          have F1 := Lib.hid (F3.out.trans (ba.mono F3.out.size))
          have RA := Lib.hid ra
          clear ra ba E3 F3
          go_wp2_with fail
          refine (plain_row v7 M P _ E1.out.m HMP.out.1 (by have := HMP.out.2.1; omega) (by have := HMP.out.2.2; omega)).mono ?_
          rintro e wb ⟨vb, rfl, rb, bb⟩
          have E2 := Lib.hid (E1.out.below bb)
          have F2 := Lib.hid (F1.out.trans (bb.mono F1.out.size))
          have RA2 := Lib.hid (own_below RA.out bb (fun i hi => own_lt RA.out hi))
          have RB2 := Lib.hid rb
          clear rb bb E1 F1 RA
          go_wp2_with fail
          refine (same_Toks _ _ va vb P _ RA2.out RB2.out HPL.out).mono ?_
          rintro e wd ⟨rfl, q2, rfl⟩
          have E3 := Lib.hid (E2.out.drewN q2)
          have F3 := Lib.hid (show Below w.heap.size w (wb.drewN q2) from ⟨F2.out.os, F2.out.tape, F2.out.output, F2.out.size, F2.out.block⟩)
          clear E2 F2 RA2 RB2
          obtain ⟨W4, hW4⟩ : ∃ W4, W4 = wb.drewN q2 := ⟨_, rfl⟩
          rw [← hW4] at E3 F3 ⊢
          clear hW4
          go_wp2_with fail
          refine (stays_Texts g ct AQ qs.length cq qs _ E3.out.t E3.out.q (by have := HQN.out; omega)).mono ?_
          rintro e wd ⟨rfl, q3, rfl⟩
          have E4 := Lib.hid (E3.out.drewN q3)
          have F4 := Lib.hid (show Below w.heap.size w (W4.drewN q3) from ⟨F3.out.os, F3.out.tape, F3.out.output, F3.out.size, F3.out.block⟩)
          clear E3 F3
          obtain ⟨W5, hW5⟩ : ∃ W5, W5 = W4.drewN q3 := ⟨_, rfl⟩
          rw [← hW5] at E4 F4 ⊢
          clear hW5
          obtain ⟨m1, A1, c1, x1⟩ := E4.out.x
          obtain ⟨m2, A2, c2, y1⟩ := E4.out.y
          obtain ⟨m3, A3, c3, z1⟩ := E4.out.z
          have HWX := Lib.hid (whole_any _ _ _ _ _ _ _ x1)
          have HWY := Lib.hid (whole_any _ _ _ _ _ _ _ y1)
          have HSX := Lib.hid (sub_any _ _ _ _ _ _ _ x1)
          have HSZ := Lib.hid (sub_any _ _ _ _ _ _ _ z1)
          obtain ⟨wh, hwh⟩ : ∃ wh, wh = wholeL rr := ⟨_, rfl⟩
          rw [← hwh] at HWX HWY
          clear hwh x1 y1 z1 E4
          go_wp2_with fail
          refine HWX.out.mono ?_
          rintro e w8 ⟨rfl, rfl⟩
          go_wp2_with fail
          refine HWY.out.mono ?_
          rintro e w8 ⟨rfl, rfl⟩
          cases wh
          all_goals
            go_wp2_with fail
            refine HSX.out.mono ?_
            rintro e w8 ⟨rfl, rfl⟩
            go_wp2_with fail
            refine HSZ.out.mono ?_
            rintro e w8 ⟨rfl, rfl⟩
            go_wp2_with fail
            go_ret
            exact ⟨rfl, F4.out⟩

set_option maxRecDepth 100000 in
set_option maxHeartbeats 1600000 in
theorem walk_NvtCuts (s : ByteArray) (hs : s.size ≤ maxLen) (A : Option Addr) (na ca : Nat) (xs : List Int) (B : Option Addr) (nb cb : Nat) (ys : List Int) (bin : Bool) (w : World) (hx : Ints w A na xs) (hy : Ints w B nb ys) :
    Calls Try.prog 3 #[.string s, .slice A na ca, .slice B nb cb, .bool bin] w fun e w' => e = .returned (.bool true) ∧ Below w.heap.size w w' := by
  unfold maxLen at hs
  by_cases h1 : 1500 < s.size
  · have t1 : (1500 : Int) < (s.size : Int) := by omega
    clear hx hy
    go_enter Try.func3, Try.ntmps3
    go_wp2_with fail
    refine (alive_any w).mono ?_
    rintro r w1 ⟨rfl, b1⟩
    go_wp2_with fail
    go_ret
    exact ⟨rfl, b1⟩
  by_cases h2 : 40 < na
  · have t1 : ¬ (1500 : Int) < (s.size : Int) := by omega
    have t2 : (40 : Int) < (na : Int) := by omega
    clear hx hy
    go_enter Try.func3, Try.ntmps3
    go_wp2_with fail
    refine (alive_any w).mono ?_
    rintro r w1 ⟨rfl, b1⟩
    go_wp2_with fail
    go_ret
    exact ⟨rfl, b1⟩
  by_cases h3 : 40 < nb
  · have t1 : ¬ (1500 : Int) < (s.size : Int) := by omega
    have t2 : ¬ (40 : Int) < (na : Int) := by omega
    have t3 : (40 : Int) < (nb : Int) := by omega
    clear hx hy
    go_enter Try.func3, Try.ntmps3
    go_wp2_with fail
    refine (alive_any w).mono ?_
    rintro r w1 ⟨rfl, b1⟩
    go_wp2_with fail
    go_ret
    exact ⟨rfl, b1⟩
  exact cuts_good s (by omega) A na ca xs (by omega) B nb cb ys (by omega) bin w hx hy

end Go.Proofs.Ytnnkgdggkinblaa
