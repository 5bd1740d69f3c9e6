/- patch: the document's Blank, Diff. By program (rgn/XPatX.py). Own work. -/
import Derived.Test.YtgomnigchfmfhaaPatW
import Derived.Test.YtgomnigchfmfhaaPatD
import Derived.Test.YtgomnigchfmfhaaRGridNew
import Derived.Test.YtgomnigchfmfhaaRGridCells
import Derived.Test.YtgomnigchfmfhaaCellRefLay
namespace Go.Proofs.Ytgomnigchfmfhaa
set_option linter.unusedVariables false
set_option linter.unusedSimpArgs false
open Go.RowKit

theorem bytes_app (a b : List UInt8) : (⟨a.toArray⟩ : ByteArray) ++ ⟨b.toArray⟩ = ⟨(a ++ b).toArray⟩ := by
  refine ByteArray.ext ?_
  rw [ByteArray.data_append]
  simp

set_option maxRecDepth 100000 in
set_option maxHeartbeats 6400000 in
theorem ref_Blank (x y : Int) (w : World) :
    Calls Try.prog 17 #[.int .i64 x, .int .i64 y] w (ScrTo (blankS x y) w) := by
  obtain ⟨w1, hw1⟩ : ∃ w1, w1 = w.alloc (.cells #[.int .i64 0, .int .i64 0, .slice none 0 0, .int .i64 0, .int .i64 0, .bool false] 24) := ⟨_, rfl⟩
  have HB1 : Hid (Below w.heap.size w w1) := Lib.hid (by rw [hw1]; exact below_box ..)
  have HQ1 : Hid (w1.heap[w.heap.size]? = some (.cells #[.int .i64 0, .int .i64 0, .slice none 0 0, .int .i64 0, .int .i64 0, .bool false] 24 (0, 0))) := Lib.hid (by rw [hw1]; exact heap_alloc_new w _)
  obtain ⟨W, hW⟩ : ∃ W, W = clW x := ⟨_, rfl⟩
  obtain ⟨H, hH⟩ : ∃ H, H = clH y := ⟨_, rfl⟩
  have hcl := cl_ok x y
  rw [← hW, ← hH] at hcl
  have HEn : Hid (∀ V, Calls Try.prog 27 #[.int .i64 x, .int .i64 y] V fun e w' => e = .returned (.tuple #[.int .i64 (W : Int), .int .i64 (H : Int)]) ∧ w' = V) := Lib.hid (fun V => by
    have := ends_any x y V; rwa [clW_is, clH_is, ← hW, ← hH] at this)
  have HN := Lib.hid (ref_new w1 (W : Int) (H : Int) W H (by omega) (by omega))
  have HE : Hid (blankS x y = ⟨W, H, W * H, fun _ => emptyC, 0, 0, false⟩) := Lib.hid (by rw [hW, hH]; rfl)
  obtain ⟨p, hp⟩ : ∃ p, p = w.heap.size := ⟨_, rfl⟩
  rw [← hp] at HQ1
  have HPE := Lib.hid hp
  clear hW hH
  go_enter Try.func17, Try.ntmps17
  go_upto_region 1 with fail
  rw [← hw1]
  rw [← hp]
  clear hw1 hp
  go_wp2_with fail
  refine (HEn.out _).mono ?_
  rintro e w2 ⟨rfl, hw2⟩
  rw [hw2]
  clear hw2 w2
  go_wp2_with fail
  refine HN.out.mono ?_
  rintro e w2 ⟨r, lb, lc, R, rfl, hge, hg, hb⟩
  have HG2 := Lib.hid hg
  have HQ2 := Lib.hid ((Keep.of_below (fun _ => False) hb).heap HQ1.out (fun x => x))
  have HB2 : Hid (Below w.heap.size w w2) := Lib.hid (HB1.out.trans (hb.mono HB1.out.size))
  clear hg hge hb HB1 HQ1 HN
  go_wp2_with fail
  refine (ref_cells _ r lb lc W H R _ HG2.out).mono ?_
  rintro e w5 ⟨g', c', rfl, h1, h2, h3, h4, h5, h6, hb⟩
  have HSh := Lib.hid (Shape.of_own h6)
  have HQ5 := Lib.hid ((Keep.of_below (fun _ => False) hb).heap HQ2.out (fun x => x))
  have HB5 : Hid (Below w.heap.size w w5) := Lib.hid (HB2.out.trans (hb.mono HB2.out.size))
  have HL5 : Hid (Lies w5 g' 0 (W * H) (fun _ => emptyC)) := Lib.hid h3
  have HR : Hid (w.heap.size ≤ g' ∧ g' < w5.heap.size ∧ W * H ≤ c' ∧ c' ≤ 9223372036854775807) := Lib.hid ⟨Nat.le_trans HB2.out.size h1, h2, h4, h5⟩
  have hne : Hid (g' ≠ p) := Lib.hid (by have := lt_heap HQ2.out; omega)
  clear h1 h2 h3 h4 h5 h6 hb HG2 HQ2 HB2
  have c0 := cell_at HQ5.out 0; have c1 := cell_at HQ5.out 1; have c2 := cell_at HQ5.out 2; have c3 := cell_at HQ5.out 3; have c4 := cell_at HQ5.out 4; have c5 := cell_at HQ5.out 5
  have f0 := free_at HQ5.out
  simp at c0 c1 c2 c3 c4 c5
  have hpl : p < w5.heap.size := lt_heap HQ5.out
  go_wp2_with fail
  refine bodyPost_ret (v := (Scr.v ⟨W, H, W * H, fun _ => emptyC, 0, 0, false⟩ (some ⟨g', 0, none⟩) c')) (by simp [results, Try.results17, go_sem, Scr.v, c0, c1, c2, c3, c4, c5]) rfl ?_
  rw [HE.out]
  obtain ⟨r1, r2, r3, r4⟩ := HR.out
  have K := (((((keep_set w5 p 0 (Value.int IntKind.i64 ↑W)).own 1 (Value.int IntKind.i64 ↑H)).own 2 (Value.slice (some { block := g', off := 0 }) (W * H) c')).own 3 (Value.int IntKind.i64 0)).own 4 (Value.int IntKind.i64 0)).own 5 (Value.bool false)
  have hpe := HPE.out
  exact ⟨g', c', rfl, r1, Nat.lt_of_lt_of_le r2 K.size, HL5.out.keep r2 K hne.out, r3, r4, HSh.out.keep K hne.out, HB5.out.trans (K.below HB5.out.size (fun k hk e => by omega))⟩

theorem ref_LayCell (c : CellM) (w : World) (h : okC c) : Calls Try.prog 36 #[c.v] w fun e w' => e = .returned (.string ⟨(cellB c).toArray⟩) ∧ Below w.heap.size w w' := by
  have h1 := h.1
  exact ref_lay c w h.2 c.r.toNat (by omega) (by omega)

set_option maxRecDepth 100000 in
set_option maxHeartbeats 25600000 in
theorem ref_Diff (a b : Scr) (A B : Option Addr) (c d : Nat) (w : World) (hA : a.at' w A) (hB : b.at' w B) (hnn : sizeB a b = true → a.n = b.n) (hb : b.Ok) :
    Calls Try.prog 13 #[a.v A c, b.v B d] w fun e w' => e = .returned (.string ⟨(diffB a b).toArray⟩) ∧ Below w.heap.size w w' := by
  obtain ⟨W0, hW0, hb0, q1, q2⟩ := scr_boxes w (a.cs A c) (b.cs B d) 24
  obtain ⟨p, hp⟩ : ∃ p, p = w.heap.size := ⟨_, rfl⟩
  rw [← hp] at q1 q2
  have HB0 := Lib.hid hb0
  have Q1 := Lib.hid q1
  have Q2 := Lib.hid q2
  have HSB : Hid (Src w B (b.n * 6) (flatF b.F b.n)) := Lib.hid hB
  have HCH : Hid (∀ V (k : Nat), Below w.heap.size w V → k < b.n → Calls Try.prog 35 #[a.v A c, b.v B d, .int .i64 k] V fun e w' => e = .returned (.bool (chg a b k)) ∧ Below V.heap.size V w') := Lib.hid (fun V k kk hk =>
    ref_changed a b A B c d k V (hA.keep (Keep.of_below _ kk)) (hB.keep (Keep.of_below _ kk)) hnn hk)
  have hn8 := hb.n800.1
  have hokw := hb.w
  have hokh := hb.h
  have hokx := hb.x
  have hoky := hb.y
  have HOK := Lib.hid hb.c
  have HD : Hid (diffB a b = headB b ++ enc (runsN (chg a b) b.n).length ++ runsB b.F 0 (runsN (chg a b) b.n)) := Lib.hid rfl
  generalize diffB a b = D at HD ⊢
  generalize chg a b = ch at HCH HD
  have HRL := Lib.hid (fun k => runsN_len ch k)
  have HRO := Lib.hid (fun k => runsN_ok ch k)
  clear hA hB hb0 q1 q2 hnn hb
  obtain ⟨W, H, n, F, X, Y, hi⟩ := a
  obtain ⟨W', H', n', F', X', Y', hi'⟩ := b
  simp only [Scr.v, Scr.cs, headB] at hW0 HCH Q1 Q2 hn8 HSB HOK hokw hokh hokx hoky HD ⊢
  have HLE := Lib.hid (fun k (hk : k ≤ n') => runsB_le F' n' HOK.out (by omega) (runsN ch k) 0 0 ((HRO.out k).1.mono hk))
  go_enter Try.func13, Try.ntmps13
  go_upto_region 1 with fail
  rw [← hW0, ← hp]
  clear hW0 hp
  have b5 := cell_at Q2.out 5
  simp at b5
  go_upto_if 13 with fail
  obtain ⟨fl, hfl⟩ : ∃ fl : ByteArray, fl = ⟨([UInt8.ofNat (if hi' = true then 1 else 0)] : List UInt8).toArray⟩ := ⟨_, rfl⟩
  have HFL := Lib.hid hfl
  go_cut [5] from 14 to 14 (fun v wx => v = .string fl ∧ wx = W0)
  case first =>
    cases hi'
    all_goals
      go_wp2_with fail
      go_meet
      exact ⟨by rw [hfl]; rfl, rfl⟩
  case rest =>
    obtain ⟨rfl, rfl⟩ := hcut
    clear hfl b5
    go_wp2_with fail
    go_loopw [6, 7, 8, 9] (fun o rn en i wr => ∃ (k m e : Nat) (OB : ByteArray), k ≤ n' ∧ i = .int .i64 k ∧ rn = .int .i64 m ∧ en = .int .i64 e ∧ o = .string OB ∧ e ≤ k ∧ m ≤ 800 ∧ OB.size ≤ 24000 ∧ Hid (m = (runsN ch k).length) ∧ Hid (e = endR (runsN ch k)) ∧ Hid (OB = ⟨(runsB F' 0 (runsN ch k)).toArray⟩) ∧ Hid (∀ f b, (runsN ch k).getLast? = some (f, b) → b = k → k < n' → ch k = false) ∧ Hid (Below wc.heap.size wc wr)) (fun _ _ _ i _ => n' - (intOf i).toNat)
    case atStart => exact ⟨0, 0, 0, ⟨#[]⟩, by omega, rfl, rfl, rfl, rfl, by omega, by omega, Nat.zero_le _, Lib.hid rfl, Lib.hid rfl, Lib.hid rfl, Lib.hid (fun f b h => by simp [runsN] at h), Lib.hid (Below.refl _ _)⟩
    case round =>
      obtain ⟨k, m, e, OB, hk, rfl, rfl, rfl, rfl, hek, hm8, hOB, HM, HE, HOB, HG, HB⟩ := hrel
      have K := Keep.of_below (fun _ => False) HB.out
      have R1 := Lib.hid (K.heap Q1.out (fun x => x))
      have R2 := Lib.hid (K.heap Q2.out (fun x => x))
      have a0 := cell_at R1.out 0; have a1 := cell_at R1.out 1; have a2 := cell_at R1.out 2; have a3 := cell_at R1.out 3; have a4 := cell_at R1.out 4; have a5 := cell_at R1.out 5
      have b0 := cell_at R2.out 0; have b1 := cell_at R2.out 1; have b2 := cell_at R2.out 2; have b3 := cell_at R2.out 3; have b4 := cell_at R2.out 4; have b5 := cell_at R2.out 5
      simp at a0 a1 a2 a3 a4 a5 b0 b1 b2 b3 b4 b5
      have HBW : Hid (Below w.heap.size w wr) := Lib.hid (HB0.out.trans (HB.out.mono HB0.out.size))
      clear K
      by_cases hlt : k < n'
      · have hki : ((k : Int) < (n' : Int)) := by omega
        have hk0 : (0 : Int) ≤ (k : Int) := by omega
        go_wp2_with fail
        refine (HCH.out _ k HBW.out hlt).mono ?_
        rintro e3 w3 ⟨rfl, hb⟩
        have HB3 : Hid (Below wc.heap.size wc w3) := Lib.hid (HB.out.trans (hb.mono HB.out.size))
        clear hb a0 a1 a2 a3 a4 a5 b0 b1 b2 b3 b4 b5 R1 R2 HBW
        obtain ⟨cb, hcb⟩ : ∃ cb, ch k = cb := ⟨_, rfl⟩
        rw [hcb]
        cases cb
        · have HN := Lib.hid (runsN_no hcb)
          clear hcb
          have HG1 : Hid (∀ f b, (runsN ch (k + 1)).getLast? = some (f, b) → b = k + 1 → k + 1 < n' → ch (k + 1) = false) := Lib.hid (fun f b h1 h2 => by
            rw [HN.out] at h1
            have := (HRO.out k).2.1
            unfold endR at this
            rw [h1] at this
            simp only at this
            omega)
          go_wp2_with fail
          go_roundw
          case rel => exact ⟨k + 1, m, e, OB, by omega, by go_num, rfl, rfl, rfl, by omega, by omega, hOB, Lib.hid (by rw [HN.out]; exact HM.out), Lib.hid (by rw [HN.out]; exact HE.out), Lib.hid (by rw [HN.out]; exact HOB.out), HG1, HB3⟩
          case measure => simp [intOf]; omega
        · have HCK := Lib.hid hcb
          have HGK : Hid (∀ f b, (runsN ch k).getLast? = some (f, b) → b ≠ k) := Lib.hid (fun f b h1 h2 => by have := HG.out f b h1 h2 hlt; rw [hcb] at this; cases this)
          clear hcb HG HB
          go_wp2_with fail
          go_loopw [10, 11] (fun nn cs wr => ∃ (j kj : Nat) (CB : ByteArray), nn = .int .i64 j ∧ cs = .string CB ∧ (k : Int) + (j : Int) = (kj : Int) ∧ kj ≤ n' ∧ CB.size ≤ 12 * j ∧ Hid (CB = ⟨(cellsB F' k j).toArray⟩) ∧ Hid (∀ i, i < j → ch (k + i) = true) ∧ Hid (Below wc.heap.size wc wr)) (fun nn _ _ => n' - (intOf nn).toNat)
          case atStart => exact ⟨0, k, ⟨#[]⟩, rfl, rfl, by omega, by omega, Nat.zero_le _, Lib.hid rfl, Lib.hid (fun i hi => by omega), HB3⟩
          case round =>
            obtain ⟨j, kj, CB, rfl, rfl, hkj, hkn, hCB, HCB, HALL, HB⟩ := hrel
            have K := Keep.of_below (fun _ => False) HB.out
            have R1 := Lib.hid (K.heap Q1.out (fun x => x))
            have R2 := Lib.hid (K.heap Q2.out (fun x => x))
            have a0 := cell_at R1.out 0; have a1 := cell_at R1.out 1; have a2 := cell_at R1.out 2; have a3 := cell_at R1.out 3; have a4 := cell_at R1.out 4; have a5 := cell_at R1.out 5
            have b0 := cell_at R2.out 0; have b1 := cell_at R2.out 1; have b2 := cell_at R2.out 2; have b3 := cell_at R2.out 3; have b4 := cell_at R2.out 4; have b5 := cell_at R2.out 5
            simp at a0 a1 a2 a3 a4 a5 b0 b1 b2 b3 b4 b5
            have HBW : Hid (Below w.heap.size w wr) := Lib.hid (HB0.out.trans (HB.out.mono HB0.out.size))
            have hke : kj = k + j := by omega
            have HKE := Lib.hid hke
            have hj8 : j ≤ 800 := by omega
            clear K hke
            by_cases hlj : kj < n'
            · have hkji : ((kj : Int) < (n' : Int)) := by omega
              have hkj0 : (0 : Int) ≤ (kj : Int) := by omega
              go_wp2_with fail
              refine (HCH.out _ kj HBW.out hlj).mono ?_
              rintro e4 w4 ⟨rfl, hb⟩
              have HB4 : Hid (Below wc.heap.size wc w4) := Lib.hid (HB.out.trans (hb.mono HB.out.size))
              have K4 := Keep.of_below (fun _ => False) HB4.out
              have R4 := Lib.hid (K4.heap Q2.out (fun x => x))
              have HBW4 : Hid (Below w.heap.size w w4) := Lib.hid (HB0.out.trans (HB4.out.mono HB0.out.size))
              clear hb a0 a1 a2 a3 a4 a5 b0 b1 b2 b3 b4 b5 R1 R2 K4 HB
              obtain ⟨cb, hcb⟩ : ∃ cb, ch kj = cb := ⟨_, rfl⟩
              have HCB2 := Lib.hid hcb
              rw [hcb]
              clear hcb
              cases cb
              · have HEX : Hid (kj < n' → ch kj = false) := Lib.hid (fun _ => HCB2.out)
                have hj0 : 0 < j := by
                  rcases Nat.eq_zero_or_pos j with h | h
                  · exfalso
                    have e1 : kj = k := by omega
                    have := HEX.out (by omega)
                    rw [e1, HCK.out] at this
                    cases this
                  · exact h
                have HRUN : Hid (runsN ch kj = runsN ch k ++ [(k, kj)]) := Lib.hid (by rw [HKE.out]; exact runsN_run ch k j hj0 HGK.out HALL.out)
                have HL9 := Lib.hid (HRL.out kj)
                have HG9 : Hid (∀ f b, (runsN ch kj).getLast? = some (f, b) → b = kj → kj < n' → ch kj = false) := Lib.hid (fun f b _ _ => HEX.out)
                have HN1 : Hid (∀ V, Calls Try.prog 37 #[.int .i64 ((k : Int) - (e : Int))] V fun ee w' => ee = .returned (.string ⟨(enc (k - e)).toArray⟩) ∧ Below V.heap.size V w') := Lib.hid (fun V => by have := refnum15_any (k - e) V (by omega); rwa [show ((k - e : Nat) : Int) = (k : Int) - (e : Int) from by omega] at this)
                have HN2 : Hid (∀ V, Calls Try.prog 37 #[.int .i64 (j : Int)] V fun ee w' => ee = .returned (.string ⟨(enc j).toArray⟩) ∧ Below V.heap.size V w') := Lib.hid (fun V => refnum15_any j V (by omega))
                have hz1 := enc_le (k - e) (by omega)
                have hz2 := enc_le j (by omega)
                obtain ⟨S1, hS1⟩ : ∃ S : ByteArray, S = ⟨(enc (k - e)).toArray⟩ := ⟨_, rfl⟩
                obtain ⟨S2, hS2⟩ : ∃ S : ByteArray, S = ⟨(enc j).toArray⟩ := ⟨_, rfl⟩
                have hs1 : S1.size ≤ 9 := by rw [hS1]; exact hz1
                have hs2 : S2.size ≤ 9 := by rw [hS2]; exact hz2
                rw [← hS1] at HN1
                rw [← hS2] at HN2
                have HNEW : Hid (OB ++ S1 ++ S2 ++ CB = ⟨(runsB F' 0 (runsN ch kj)).toArray⟩) := Lib.hid (by
                  rw [HRUN.out, runsB_add, ← HE.out, show kj - k = j from by omega, HOB.out, hS1, hS2, HCB.out, bytes_app, bytes_app, bytes_app]
                  simp only [List.append_assoc])
                have HSZ : Hid ((OB ++ S1 ++ S2 ++ CB).size ≤ 24000) := Lib.hid (by
                  rw [HNEW.out]
                  exact Nat.le_trans (HLE.out kj hkn) (by omega))
                clear hS1 hS2 hz1 hz2
                have hb1 : OB.size + S1.size ≤ 9223372036854775807 := by omega
                have hb2 : OB.size + S1.size + S2.size ≤ 9223372036854775807 := by omega
                have hb3 : OB.size + S1.size + S2.size + CB.size ≤ 9223372036854775807 := by omega
                have b2 := cell_at R4.out 2
                simp at b2
                go_wp2_with fail
                refine (HN1.out _).mono ?_
                rintro e7 w7 ⟨rfl, hb⟩
                have HB7 : Hid (Below wc.heap.size wc w7) := Lib.hid (HB4.out.trans (hb.mono HB4.out.size))
                clear hb
                go_wp2_with fail
                refine (HN2.out _).mono ?_
                rintro e8 w8 ⟨rfl, hb⟩
                have HB8 : Hid (Below wc.heap.size wc w8) := Lib.hid (HB7.out.trans (hb.mono HB7.out.size))
                clear hb
                go_wp2_with fail
                go_roundw
                case rel =>
                  have hr := HRUN.out
                  have hl9 := HL9.out
                  have hm := HM.out
                  exact ⟨kj, m + 1, kj, OB ++ S1 ++ S2 ++ CB, by omega, by go_num, by go_num, by go_num, rfl, by omega, by rw [hr] at hl9; simp at hl9; omega, HSZ.out, Lib.hid (by rw [hr]; simp; exact hm), Lib.hid (by rw [hr]; exact (endR_last _ _ _).symm), HNEW, HG9, HB8⟩
                case measure => simp [intOf]; omega
              · obtain ⟨g1, o1, rfl, -, hc1⟩ := (HSB.out.keep (Keep.of_below _ HBW4.out)).2 (by omega)
                obtain ⟨x0, x1, x2, x3, x4, x5⟩ := six_src hc1 hlj
                have HLay := Lib.hid (fun V => ref_LayCell (F' kj) V (HOK.out _ hlj))
                have hcl := cellB_le (F' kj) (HOK.out _ hlj)
                have HCS : Hid (cellsB F' k (j + 1) = cellsB F' k j ++ cellB (F' kj)) := Lib.hid (by rw [HKE.out]; exact cellsB_succ F' k j)
                have HALL2 : Hid (∀ i, i < j + 1 → ch (k + i) = true) := Lib.hid (fun i hi => by
                  by_cases h : i = j
                  · subst h; rw [← HKE.out]; exact HCB2.out
                  · exact HALL.out i (by omega))
                have b2 := cell_at R4.out 2
                simp at b2
                clear hc1
                generalize F' kj = r at x0 x1 x2 x3 x4 x5 HLay HCS hcl
                obtain ⟨S, hS⟩ : ∃ S : ByteArray, S = ⟨(cellB r).toArray⟩ := ⟨_, rfl⟩
                have hSz : S.size ≤ 12 := by rw [hS]; exact hcl
                have HS := Lib.hid hS
                rw [← hS] at HLay
                clear hS hcl
                obtain ⟨r0, ⟨r1, r2, r3, r4, r5⟩⟩ := r
                simp only [CellM.v] at x0 x1 x2 x3 x4 x5 HLay
                have hsum : CB.size + S.size ≤ 9223372036854775807 := by omega
                go_wp2_with fail
                refine (HLay.out _).mono ?_
                rintro e5 w5 ⟨rfl, hb⟩
                have HB5 : Hid (Below wc.heap.size wc w5) := Lib.hid (HB4.out.trans (hb.mono HB4.out.size))
                clear hb x0 x1 x2 x3 x4 x5 b2
                go_wp2_with fail
                go_roundw
                case rel => exact ⟨j + 1, kj + 1, CB ++ S, by go_num, rfl, by omega, by omega, by rw [ByteArray.size_append]; omega, Lib.hid (by rw [HCS.out, ← bytes_app, ← HCB.out, ← HS.out]), HALL2, HB5⟩
                case measure => simp [intOf]; omega
            · have hkji : ¬ ((kj : Int) < (n' : Int)) := by omega
              have HEX : Hid (kj < n' → ch kj = false) := Lib.hid (fun h => absurd h hlj)
              have HB4 := Lib.hid HB.out
              have R4 := Lib.hid R2.out
              have hj0 : 0 < j := by
                rcases Nat.eq_zero_or_pos j with h | h
                · exfalso
                  have e1 : kj = k := by omega
                  have := HEX.out (by omega)
                  rw [e1, HCK.out] at this
                  cases this
                · exact h
              have HRUN : Hid (runsN ch kj = runsN ch k ++ [(k, kj)]) := Lib.hid (by rw [HKE.out]; exact runsN_run ch k j hj0 HGK.out HALL.out)
              have HL9 := Lib.hid (HRL.out kj)
              have HG9 : Hid (∀ f b, (runsN ch kj).getLast? = some (f, b) → b = kj → kj < n' → ch kj = false) := Lib.hid (fun f b _ _ => HEX.out)
              have HN1 : Hid (∀ V, Calls Try.prog 37 #[.int .i64 ((k : Int) - (e : Int))] V fun ee w' => ee = .returned (.string ⟨(enc (k - e)).toArray⟩) ∧ Below V.heap.size V w') := Lib.hid (fun V => by have := refnum15_any (k - e) V (by omega); rwa [show ((k - e : Nat) : Int) = (k : Int) - (e : Int) from by omega] at this)
              have HN2 : Hid (∀ V, Calls Try.prog 37 #[.int .i64 (j : Int)] V fun ee w' => ee = .returned (.string ⟨(enc j).toArray⟩) ∧ Below V.heap.size V w') := Lib.hid (fun V => refnum15_any j V (by omega))
              have hz1 := enc_le (k - e) (by omega)
              have hz2 := enc_le j (by omega)
              obtain ⟨S1, hS1⟩ : ∃ S : ByteArray, S = ⟨(enc (k - e)).toArray⟩ := ⟨_, rfl⟩
              obtain ⟨S2, hS2⟩ : ∃ S : ByteArray, S = ⟨(enc j).toArray⟩ := ⟨_, rfl⟩
              have hs1 : S1.size ≤ 9 := by rw [hS1]; exact hz1
              have hs2 : S2.size ≤ 9 := by rw [hS2]; exact hz2
              rw [← hS1] at HN1
              rw [← hS2] at HN2
              have HNEW : Hid (OB ++ S1 ++ S2 ++ CB = ⟨(runsB F' 0 (runsN ch kj)).toArray⟩) := Lib.hid (by
                rw [HRUN.out, runsB_add, ← HE.out, show kj - k = j from by omega, HOB.out, hS1, hS2, HCB.out, bytes_app, bytes_app, bytes_app]
                simp only [List.append_assoc])
              have HSZ : Hid ((OB ++ S1 ++ S2 ++ CB).size ≤ 24000) := Lib.hid (by
                rw [HNEW.out]
                exact Nat.le_trans (HLE.out kj hkn) (by omega))
              clear hS1 hS2 hz1 hz2
              have hb1 : OB.size + S1.size ≤ 9223372036854775807 := by omega
              have hb2 : OB.size + S1.size + S2.size ≤ 9223372036854775807 := by omega
              have hb3 : OB.size + S1.size + S2.size + CB.size ≤ 9223372036854775807 := by omega
              have b2 := cell_at R4.out 2
              simp at b2
              go_wp2_with fail
              refine (HN1.out _).mono ?_
              rintro e7 w7 ⟨rfl, hb⟩
              have HB7 : Hid (Below wc.heap.size wc w7) := Lib.hid (HB4.out.trans (hb.mono HB4.out.size))
              clear hb
              go_wp2_with fail
              refine (HN2.out _).mono ?_
              rintro e8 w8 ⟨rfl, hb⟩
              have HB8 : Hid (Below wc.heap.size wc w8) := Lib.hid (HB7.out.trans (hb.mono HB7.out.size))
              clear hb
              go_wp2_with fail
              go_roundw
              case rel =>
                have hr := HRUN.out
                have hl9 := HL9.out
                have hm := HM.out
                exact ⟨kj, m + 1, kj, OB ++ S1 ++ S2 ++ CB, by omega, by go_num, by go_num, by go_num, rfl, by omega, by rw [hr] at hl9; simp at hl9; omega, HSZ.out, Lib.hid (by rw [hr]; simp; exact hm), Lib.hid (by rw [hr]; exact (endR_last _ _ _).symm), HNEW, HG9, HB8⟩
              case measure => simp [intOf]; omega
      · obtain rfl : k = n' := by omega
        have hki : ¬ ((k : Int) < (k : Int)) := by omega
        have hNum : ∀ (x : Int) (V : World), 0 ≤ x → x ≤ 1000 → Calls Try.prog 37 #[.int .i64 x] V fun ee w' => ee = .returned (.string ⟨(enc x.toNat).toArray⟩) ∧ Below V.heap.size V w' := fun x V h1 h2 => by
          have := refnum15_any x.toNat V (by omega)
          rwa [show ((x.toNat : Nat) : Int) = x from by omega] at this
        obtain ⟨S1, hS1⟩ : ∃ S : ByteArray, S = ⟨(enc W'.toNat).toArray⟩ := ⟨_, rfl⟩
        obtain ⟨S2, hS2⟩ : ∃ S : ByteArray, S = ⟨(enc H'.toNat).toArray⟩ := ⟨_, rfl⟩
        obtain ⟨S3, hS3⟩ : ∃ S : ByteArray, S = ⟨(enc X'.toNat).toArray⟩ := ⟨_, rfl⟩
        obtain ⟨S4, hS4⟩ : ∃ S : ByteArray, S = ⟨(enc Y'.toNat).toArray⟩ := ⟨_, rfl⟩
        obtain ⟨S5, hS5⟩ : ∃ S : ByteArray, S = ⟨(enc m).toArray⟩ := ⟨_, rfl⟩
        have HN1 : Hid (∀ V, Calls Try.prog 37 #[.int .i64 W'] V fun ee w' => ee = .returned (.string S1) ∧ Below V.heap.size V w') := Lib.hid (fun V => by rw [hS1]; exact hNum W' V (by omega) (by omega))
        have HN2 : Hid (∀ V, Calls Try.prog 37 #[.int .i64 H'] V fun ee w' => ee = .returned (.string S2) ∧ Below V.heap.size V w') := Lib.hid (fun V => by rw [hS2]; exact hNum H' V (by omega) (by omega))
        have HN3 : Hid (∀ V, Calls Try.prog 37 #[.int .i64 X'] V fun ee w' => ee = .returned (.string S3) ∧ Below V.heap.size V w') := Lib.hid (fun V => by rw [hS3]; exact hNum X' V (by omega) (by omega))
        have HN4 : Hid (∀ V, Calls Try.prog 37 #[.int .i64 Y'] V fun ee w' => ee = .returned (.string S4) ∧ Below V.heap.size V w') := Lib.hid (fun V => by rw [hS4]; exact hNum Y' V (by omega) (by omega))
        have HN5 : Hid (∀ V, Calls Try.prog 37 #[.int .i64 (m : Int)] V fun ee w' => ee = .returned (.string S5) ∧ Below V.heap.size V w') := Lib.hid (fun V => by rw [hS5]; exact hNum m V (by omega) (by omega))
        have hz1 : S1.size ≤ 9 := by rw [hS1]; exact enc_le _ (by omega)
        have hz2 : S2.size ≤ 9 := by rw [hS2]; exact enc_le _ (by omega)
        have hz3 : S3.size ≤ 9 := by rw [hS3]; exact enc_le _ (by omega)
        have hz4 : S4.size ≤ 9 := by rw [hS4]; exact enc_le _ (by omega)
        have hz5 : S5.size ≤ 9 := by rw [hS5]; exact enc_le _ (by omega)
        have hzf : fl.size = 1 := by rw [HFL.out]; rfl
        have HRES : Hid ((⟨D.toArray⟩ : ByteArray) = S1 ++ S2 ++ S3 ++ S4 ++ fl ++ S5 ++ OB) := Lib.hid (by
          rw [HD.out, hS1, hS2, hS3, hS4, hS5, HOB.out, HFL.out, ← HM.out]
          simp only [bytes_app, List.append_assoc])
        obtain ⟨E1, hE1⟩ : ∃ E, E = S1 ++ S2 := ⟨_, rfl⟩
        obtain ⟨E2, hE2⟩ : ∃ E, E = E1 ++ S3 := ⟨_, rfl⟩
        obtain ⟨E3, hE3⟩ : ∃ E, E = E2 ++ S4 := ⟨_, rfl⟩
        obtain ⟨E4, hE4⟩ : ∃ E, E = E3 ++ fl := ⟨_, rfl⟩
        obtain ⟨E5, hE5⟩ : ∃ E, E = E4 ++ S5 := ⟨_, rfl⟩
        obtain ⟨E6, hE6⟩ : ∃ E, E = E5 ++ OB := ⟨_, rfl⟩
        have y1 : E1.size ≤ 18 := by rw [hE1, ByteArray.size_append]; omega
        have y2 : E2.size ≤ 27 := by rw [hE2, ByteArray.size_append]; omega
        have y3 : E3.size ≤ 36 := by rw [hE3, ByteArray.size_append]; omega
        have y4 : E4.size ≤ 37 := by rw [hE4, ByteArray.size_append]; omega
        have y5 : E5.size ≤ 46 := by rw [hE5, ByteArray.size_append]; omega
        have q1 : ∀ W : World, (Op.stringOp .add S1 S2).run Try.prog W = .ok (.string E1) W := fun W => by rw [hE1]; exact run_string_add_sum W S1 S2 (by omega)
        have q2 : ∀ W : World, (Op.stringOp .add E1 S3).run Try.prog W = .ok (.string E2) W := fun W => by rw [hE2]; exact run_string_add_sum W E1 S3 (by omega)
        have q3 : ∀ W : World, (Op.stringOp .add E2 S4).run Try.prog W = .ok (.string E3) W := fun W => by rw [hE3]; exact run_string_add_sum W E2 S4 (by omega)
        have q4 : ∀ W : World, (Op.stringOp .add E3 fl).run Try.prog W = .ok (.string E4) W := fun W => by rw [hE4]; exact run_string_add_sum W E3 fl (by omega)
        have q5 : ∀ W : World, (Op.stringOp .add E4 S5).run Try.prog W = .ok (.string E5) W := fun W => by rw [hE5]; exact run_string_add_sum W E4 S5 (by omega)
        have q6 : ∀ W : World, (Op.stringOp .add E5 OB).run Try.prog W = .ok (.string E6) W := fun W => by rw [hE6]; exact run_string_add_sum W E5 OB (by omega)
        have HRES2 : Hid ((⟨D.toArray⟩ : ByteArray) = E6) := Lib.hid (by rw [hE6, hE5, hE4, hE3, hE2, hE1]; exact HRES.out)
        clear hS1 hS2 hS3 hS4 hS5 hE1 hE2 hE3 hE4 hE5 hE6 hNum HRES hz1 hz2 hz3 hz4 hz5 hzf
        obtain ⟨Wr, hWr⟩ : ∃ Wr, Wr = wr := ⟨_, rfl⟩
        have HC : Hid (∀ V, Below Wr.heap.size Wr V → V.cell? ⟨p + 1, 0, none⟩ = some (.int .i64 W') ∧ V.cell? ⟨p + 1, 1, none⟩ = some (.int .i64 H') ∧ V.cell? ⟨p + 1, 3, none⟩ = some (.int .i64 X') ∧ V.cell? ⟨p + 1, 4, none⟩ = some (.int .i64 Y')) := Lib.hid (fun V kk => by
          rw [hWr] at kk
          have h2 := (Keep.of_below (fun _ => False) kk).heap R2.out (fun x => x)
          exact ⟨cell_at h2 0, cell_at h2 1, cell_at h2 3, cell_at h2 4⟩)
        have HBF : Hid (∀ V, Below Wr.heap.size Wr V → Below w.heap.size w V) := Lib.hid (fun V kk => by rw [hWr] at kk; exact HBW.out.trans (kk.mono HBW.out.size))
        go_upto_region 18 with fail
        rw [← hWr]
        clear hWr a0 a1 a2 a3 a4 a5 b0 b1 b2 b3 b4 b5 R1 R2 HBW HB
        refine wp_region_noPanic ?_
        refine wp_region_held_drew (S := fun V => V.cell? ⟨p + 1, 0, none⟩ = some (.int .i64 W') ∧ V.cell? ⟨p + 1, 1, none⟩ = some (.int .i64 H') ∧ V.cell? ⟨p + 1, 3, none⟩ = some (.int .i64 X') ∧ V.cell? ⟨p + 1, 4, none⟩ = some (.int .i64 Y')) (by kernel_rfl) (HC.out Wr (Below.refl _ _)) (fun hHeld => ?_)
        obtain ⟨V0, hV0⟩ : ∃ V, V = Wr.drew := ⟨_, rfl⟩
        have HBV0 : Hid (Below Wr.heap.size Wr V0) := Lib.hid (by rw [hV0]; exact Below.drewN' (Below.refl _ Wr) 1)
        rw [← hV0]
        clear hV0 hHeld
        have hHeld := HC.out _ HBV0.out
        refine wpAnyH_take (i := 0) (oi := _) (v := ?vd0) rfl (by kernel_rfl) (by kernel_rfl) (by kernel_rfl) (fun _ _ _ h => h) (Or.inl ⟨by rfl, ?hyd0⟩) (by assumption) ?restd0
        case hyd0 => (intro w hSw; (try dsimp only at hSw); (try simp only [List.getElem_toArray, List.getElem_cons_zero, List.getElem_cons_succ]); go_simp; (try with_reducible rfl))
        (try simp only [Act.put, List.setIfInBounds_toArray, List.set_cons_zero, List.set_cons_succ, List.getElem_toArray, List.getElem_cons_zero, List.getElem_cons_succ])
        refine wpAnyH_take (i := 1) (oi := _) (v := ?vd1) rfl (by kernel_rfl) (by kernel_rfl) (by kernel_rfl) (fun _ _ _ h => h) (Or.inl ⟨by rfl, ?hyd1⟩) (by assumption) ?restd1
        case hyd1 => (intro w hSw; (try dsimp only at hSw); (try simp only [List.getElem_toArray, List.getElem_cons_zero, List.getElem_cons_succ]); go_simp; (try with_reducible rfl))
        (try simp only [Act.put, List.setIfInBounds_toArray, List.set_cons_zero, List.set_cons_succ, List.getElem_toArray, List.getElem_cons_zero, List.getElem_cons_succ])
        refine wpAnyH_take (i := 3) (oi := _) (v := ?vd3) rfl (by kernel_rfl) (by kernel_rfl) (by kernel_rfl) (fun _ _ _ h => h) (Or.inl ⟨by rfl, ?hyd3⟩) (by assumption) ?restd3
        case hyd3 => (intro w hSw; (try dsimp only at hSw); (try simp only [List.getElem_toArray, List.getElem_cons_zero, List.getElem_cons_succ]); go_simp; (try with_reducible rfl))
        (try simp only [Act.put, List.setIfInBounds_toArray, List.set_cons_zero, List.set_cons_succ, List.getElem_toArray, List.getElem_cons_zero, List.getElem_cons_succ])
        refine wpAnyH_take (i := 4) (oi := _) (v := ?vd4) rfl (by kernel_rfl) (by kernel_rfl) (by kernel_rfl) (fun _ _ _ h => h) (Or.inl ⟨by rfl, ?hyd4⟩) (by assumption) ?restd4
        case hyd4 => (intro w hSw; (try dsimp only at hSw); (try simp only [List.getElem_toArray, List.getElem_cons_zero, List.getElem_cons_succ]); go_simp; (try with_reducible rfl))
        (try simp only [Act.put, List.setIfInBounds_toArray, List.set_cons_zero, List.set_cons_succ, List.getElem_toArray, List.getElem_cons_zero, List.getElem_cons_succ])
        refine wpAnyH_take (i := 7) (oi := _) (v := ?vd7) rfl (by kernel_rfl) (by kernel_rfl) (by kernel_rfl) (fun _ _ _ h => h) (Or.inl ⟨by rfl, ?hyd7⟩) (by assumption) ?restd7
        case hyd7 => (intro w hSw; (try dsimp only at hSw); (try simp only [List.getElem_toArray, List.getElem_cons_zero, List.getElem_cons_succ]); go_simp; (try with_reducible rfl))
        (try simp only [Act.put, List.setIfInBounds_toArray, List.set_cons_zero, List.set_cons_succ, List.getElem_toArray, List.getElem_cons_zero, List.getElem_cons_succ])
        refine wpAnyH_take (i := 8) (oi := _) (v := ?vd8) rfl (by kernel_rfl) (by kernel_rfl) (by kernel_rfl) (fun _ _ _ h => h) (Or.inl ⟨by rfl, ?hyd8⟩) (by assumption) ?restd8
        case hyd8 => (intro w hSw; (try dsimp only at hSw); (try simp only [List.getElem_toArray, List.getElem_cons_zero, List.getElem_cons_succ]); go_simp; (try with_reducible rfl))
        (try simp only [Act.put, List.setIfInBounds_toArray, List.set_cons_zero, List.set_cons_succ, List.getElem_toArray, List.getElem_cons_zero, List.getElem_cons_succ])
        refine wpAnyH_take (i := 11) (oi := _) (v := ?vd11) rfl (by kernel_rfl) (by kernel_rfl) (by kernel_rfl) (fun _ _ _ h => h) (Or.inl ⟨by rfl, ?hyd11⟩) (by assumption) ?restd11
        case hyd11 => (intro w hSw; (try dsimp only at hSw); (try simp only [List.getElem_toArray, List.getElem_cons_zero, List.getElem_cons_succ]); go_simp; (try with_reducible rfl))
        (try simp only [Act.put, List.setIfInBounds_toArray, List.set_cons_zero, List.set_cons_succ, List.getElem_toArray, List.getElem_cons_zero, List.getElem_cons_succ])
        refine wpAnyH_take (i := 12) (oi := _) (v := ?vd12) rfl (by kernel_rfl) (by kernel_rfl) (by kernel_rfl) (fun _ _ _ h => h) (Or.inl ⟨by rfl, ?hyd12⟩) (by assumption) ?restd12
        case hyd12 => (intro w hSw; (try dsimp only at hSw); (try simp only [List.getElem_toArray, List.getElem_cons_zero, List.getElem_cons_succ]); go_simp; (try with_reducible rfl))
        (try simp only [Act.put, List.setIfInBounds_toArray, List.set_cons_zero, List.set_cons_succ, List.getElem_toArray, List.getElem_cons_zero, List.getElem_cons_succ])
        refine wpAnyH_take (i := 15) (oi := _) (v := ?vd15) rfl (by kernel_rfl) (by kernel_rfl) (by kernel_rfl) (fun _ _ _ h => h) (Or.inl ⟨by rfl, ?hyd15⟩) (by assumption) ?restd15
        case hyd15 => (intro w hSw; (try dsimp only at hSw); (try simp only [List.getElem_toArray, List.getElem_cons_zero, List.getElem_cons_succ]); go_simp; (try with_reducible rfl))
        (try simp only [Act.put, List.setIfInBounds_toArray, List.set_cons_zero, List.set_cons_succ, List.getElem_toArray, List.getElem_cons_zero, List.getElem_cons_succ])
        refine wpAnyH_take (i := 17) (oi := _) (v := ?vd17) rfl (by kernel_rfl) (by kernel_rfl) (by kernel_rfl) (fun _ _ _ h => h) (Or.inl ⟨by rfl, ?hyd17⟩) (by assumption) ?restd17
        case hyd17 => (intro w hSw; (try dsimp only at hSw); (try simp only [List.getElem_toArray, List.getElem_cons_zero, List.getElem_cons_succ]); go_simp; (try with_reducible rfl))
        (try simp only [Act.put, List.setIfInBounds_toArray, List.set_cons_zero, List.set_cons_succ, List.getElem_toArray, List.getElem_cons_zero, List.getElem_cons_succ])
        refine wpAnyH_take (i := 20) (oi := _) (v := ?vd20) rfl (by kernel_rfl) (by kernel_rfl) (by kernel_rfl) (fun _ _ _ h => h) (Or.inl ⟨by rfl, ?hyd20⟩) (by assumption) ?restd20
        case hyd20 => (intro w hSw; (try dsimp only at hSw); (try simp only [List.getElem_toArray, List.getElem_cons_zero, List.getElem_cons_succ]); go_simp; (try with_reducible rfl))
        (try simp only [Act.put, List.setIfInBounds_toArray, List.set_cons_zero, List.set_cons_succ, List.getElem_toArray, List.getElem_cons_zero, List.getElem_cons_succ])
        refine wpAnyH_ready (rs := [2]) (by kernel_rfl) (by simp) ?_
        refine AllReadyH.cons (o := _) rfl (fun K hK => ?_) AllReadyH.nil
        (try simp only [List.getElem_toArray, List.getElem_cons_zero, List.getElem_cons_succ])
        go_simp
        refine (HN1.out _).mono ?_; rintro e V1 ⟨rfl, hb⟩; have HBV1 : Hid (Below Wr.heap.size Wr V1) := Lib.hid (HBV0.out.trans (hb.mono HBV0.out.size)); clear hb
        refine hK.out _ _ ?_ (fun hHeld => ?_)
        · exact HC.out _ HBV1.out
        clear hK K
        (try simp only [Act.put, List.setIfInBounds_toArray, List.set_cons_zero, List.set_cons_succ, List.getElem_toArray, List.getElem_cons_zero, List.getElem_cons_succ])
        refine wpAnyH_ready (rs := [5]) (by kernel_rfl) (by simp) ?_
        refine AllReadyH.cons (o := _) rfl (fun K hK => ?_) AllReadyH.nil
        (try simp only [List.getElem_toArray, List.getElem_cons_zero, List.getElem_cons_succ])
        go_simp
        refine (HN2.out _).mono ?_; rintro e V2 ⟨rfl, hb⟩; have HBV2 : Hid (Below Wr.heap.size Wr V2) := Lib.hid (HBV1.out.trans (hb.mono HBV1.out.size)); clear hb
        refine hK.out _ _ ?_ (fun hHeld => ?_)
        · exact HC.out _ HBV2.out
        clear hK K
        (try simp only [Act.put, List.setIfInBounds_toArray, List.set_cons_zero, List.set_cons_succ, List.getElem_toArray, List.getElem_cons_zero, List.getElem_cons_succ])
        refine wpAnyH_take (i := 6) (oi := _) (v := ?vd6) rfl (by kernel_rfl) (by kernel_rfl) (by kernel_rfl) (fun _ _ _ h => h) (Or.inl ⟨by rfl, ?hyd6⟩) (by assumption) ?restd6
        case hyd6 => (intro w hSw; (try dsimp only at hSw); (try simp only [List.getElem_toArray, List.getElem_cons_zero, List.getElem_cons_succ]); go_simp; (try with_reducible rfl))
        (try simp only [Act.put, List.setIfInBounds_toArray, List.set_cons_zero, List.set_cons_succ, List.getElem_toArray, List.getElem_cons_zero, List.getElem_cons_succ])
        refine wpAnyH_ready (rs := [9]) (by kernel_rfl) (by simp) ?_
        refine AllReadyH.cons (o := _) rfl (fun K hK => ?_) AllReadyH.nil
        (try simp only [List.getElem_toArray, List.getElem_cons_zero, List.getElem_cons_succ])
        go_simp
        refine (HN3.out _).mono ?_; rintro e V3 ⟨rfl, hb⟩; have HBV3 : Hid (Below Wr.heap.size Wr V3) := Lib.hid (HBV2.out.trans (hb.mono HBV2.out.size)); clear hb
        refine hK.out _ _ ?_ (fun hHeld => ?_)
        · exact HC.out _ HBV3.out
        clear hK K
        (try simp only [Act.put, List.setIfInBounds_toArray, List.set_cons_zero, List.set_cons_succ, List.getElem_toArray, List.getElem_cons_zero, List.getElem_cons_succ])
        refine wpAnyH_take (i := 10) (oi := _) (v := ?vd10) rfl (by kernel_rfl) (by kernel_rfl) (by kernel_rfl) (fun _ _ _ h => h) (Or.inl ⟨by rfl, ?hyd10⟩) (by assumption) ?restd10
        case hyd10 => (intro w hSw; (try dsimp only at hSw); (try simp only [List.getElem_toArray, List.getElem_cons_zero, List.getElem_cons_succ]); go_simp; (try with_reducible rfl))
        (try simp only [Act.put, List.setIfInBounds_toArray, List.set_cons_zero, List.set_cons_succ, List.getElem_toArray, List.getElem_cons_zero, List.getElem_cons_succ])
        refine wpAnyH_ready (rs := [13]) (by kernel_rfl) (by simp) ?_
        refine AllReadyH.cons (o := _) rfl (fun K hK => ?_) AllReadyH.nil
        (try simp only [List.getElem_toArray, List.getElem_cons_zero, List.getElem_cons_succ])
        go_simp
        refine (HN4.out _).mono ?_; rintro e V4 ⟨rfl, hb⟩; have HBV4 : Hid (Below Wr.heap.size Wr V4) := Lib.hid (HBV3.out.trans (hb.mono HBV3.out.size)); clear hb
        refine hK.out _ _ ?_ (fun hHeld => ?_)
        · exact HC.out _ HBV4.out
        clear hK K
        (try simp only [Act.put, List.setIfInBounds_toArray, List.set_cons_zero, List.set_cons_succ, List.getElem_toArray, List.getElem_cons_zero, List.getElem_cons_succ])
        refine wpAnyH_take (i := 14) (oi := _) (v := ?vd14) rfl (by kernel_rfl) (by kernel_rfl) (by kernel_rfl) (fun _ _ _ h => h) (Or.inl ⟨by rfl, ?hyd14⟩) (by assumption) ?restd14
        case hyd14 => (intro w hSw; (try dsimp only at hSw); (try simp only [List.getElem_toArray, List.getElem_cons_zero, List.getElem_cons_succ]); go_simp; (try with_reducible rfl))
        (try simp only [Act.put, List.setIfInBounds_toArray, List.set_cons_zero, List.set_cons_succ, List.getElem_toArray, List.getElem_cons_zero, List.getElem_cons_succ])
        refine wpAnyH_take (i := 16) (oi := _) (v := ?vd16) rfl (by kernel_rfl) (by kernel_rfl) (by kernel_rfl) (fun _ _ _ h => h) (Or.inl ⟨by rfl, ?hyd16⟩) (by assumption) ?restd16
        case hyd16 => (intro w hSw; (try dsimp only at hSw); (try simp only [List.getElem_toArray, List.getElem_cons_zero, List.getElem_cons_succ]); go_simp; (try with_reducible rfl))
        (try simp only [Act.put, List.setIfInBounds_toArray, List.set_cons_zero, List.set_cons_succ, List.getElem_toArray, List.getElem_cons_zero, List.getElem_cons_succ])
        refine wpAnyH_ready (rs := [18]) (by kernel_rfl) (by simp) ?_
        refine AllReadyH.cons (o := _) rfl (fun K hK => ?_) AllReadyH.nil
        (try simp only [List.getElem_toArray, List.getElem_cons_zero, List.getElem_cons_succ])
        go_simp
        refine (HN5.out _).mono ?_; rintro e V5 ⟨rfl, hb⟩; have HBV5 : Hid (Below Wr.heap.size Wr V5) := Lib.hid (HBV4.out.trans (hb.mono HBV4.out.size)); clear hb
        refine hK.out _ _ ?_ (fun hHeld => ?_)
        · exact HC.out _ HBV5.out
        clear hK K
        (try simp only [Act.put, List.setIfInBounds_toArray, List.set_cons_zero, List.set_cons_succ, List.getElem_toArray, List.getElem_cons_zero, List.getElem_cons_succ])
        refine wpAnyH_take (i := 19) (oi := _) (v := ?vd19) rfl (by kernel_rfl) (by kernel_rfl) (by kernel_rfl) (fun _ _ _ h => h) (Or.inl ⟨by rfl, ?hyd19⟩) (by assumption) ?restd19
        case hyd19 => (intro w hSw; (try dsimp only at hSw); (try simp only [List.getElem_toArray, List.getElem_cons_zero, List.getElem_cons_succ]); go_simp; (try with_reducible rfl))
        (try simp only [Act.put, List.setIfInBounds_toArray, List.set_cons_zero, List.set_cons_succ, List.getElem_toArray, List.getElem_cons_zero, List.getElem_cons_succ])
        refine wpAnyH_take (i := 21) (oi := _) (v := ?vd21) rfl (by kernel_rfl) (by kernel_rfl) (by kernel_rfl) (fun _ _ _ h => h) (Or.inl ⟨by rfl, ?hyd21⟩) (by assumption) ?restd21
        case hyd21 => (intro w hSw; (try dsimp only at hSw); (try simp only [List.getElem_toArray, List.getElem_cons_zero, List.getElem_cons_succ]); go_simp; (try with_reducible rfl))
        (try simp only [Act.put, List.setIfInBounds_toArray, List.set_cons_zero, List.set_cons_succ, List.getElem_toArray, List.getElem_cons_zero, List.getElem_cons_succ])
        refine wpAnyH_take (i := 22) (oi := _) (v := ?vd22) rfl (by kernel_rfl) (by kernel_rfl) (by kernel_rfl) (fun _ _ _ h => h) (Or.inl ⟨by rfl, ?hyd22⟩) (by assumption) ?restd22
        case hyd22 => (intro w hSw; (try dsimp only at hSw); (try simp only [List.getElem_toArray, List.getElem_cons_zero, List.getElem_cons_succ]); go_simp; (try with_reducible rfl))
        (try simp only [Act.put, List.setIfInBounds_toArray, List.set_cons_zero, List.set_cons_succ, List.getElem_toArray, List.getElem_cons_zero, List.getElem_cons_succ])
        refine wpAnyH_done (by kernel_rfl) ?_ _
        refine NoPanic.normal ?_
        go_wp2_with fail
        go_ret
        exact ⟨by rw [HRES2.out]; rfl, HBF.out _ HBV5.out⟩

end Go.Proofs.Ytgomnigchfmfhaa
