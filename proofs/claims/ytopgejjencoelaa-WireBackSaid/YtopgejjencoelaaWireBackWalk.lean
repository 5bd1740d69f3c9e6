/- Law WireBack: the walk. Own work. -/
import Derived.Test.YtopgejjencoelaaBackLoop
namespace Go.Proofs.Ytopgejjencoelaa
set_option linter.unusedVariables false
set_option linter.unusedSimpArgs false
open Go.RowKit

set_option maxRecDepth 100000 in
set_option maxHeartbeats 6400000 in
theorem back_good (bin : Bool) (A : Option Addr) (n c : Nat) (zs : List ByteArray) (o : Nat) (B : Option Addr) (m d : Nat) (xs : List Int) (w : World) (hz : Strs w A n zs) (hx : Ints w B m xs) (hcap : n ≤ c) (hsh : shortB 12 500 zs = true) (ho : o ≤ 255) (hm : m ≤ 30) :
    Calls Try.prog 4 #[.bool bin, .slice A n c, .int .i64 (o : Int), .slice B m d] w fun e w' => e = .returned (.bool true) ∧ Below w.heap.size w w' := by
  obtain ⟨i0, hi, hz0, hz1, hz2⟩ := info_parts token_info
  have hq := of_decide_eq_true hsh
  have hsr := src_strs hz
  have hn : n ≤ 12 := by have := hz.1; omega
  have hsum : sum zs ≤ 500 := hq.2
  have HX := Lib.hid hx
  have HSUM := Lib.hid hsum
  have HSH := Lib.hid (short_any 12 500 A n c zs w hsr hz.2.2.1 (by omega) (by omega) hz.2.2.2)
  rw [hsh] at HSH
  have HS := Lib.hid hsr
  obtain ⟨J, hJ⟩ : ∃ J : ByteArray, J = ⟨(joinL zs).toArray⟩ := ⟨_, rfl⟩
  have hjd : J.data.toList = joinL zs := by rw [hJ]
  have hjs : J.size ≤ 500 := by rw [hJ, size_mk, joinL_len]; exact hsum
  obtain ⟨q, hq1⟩ : ∃ q : Nat, q = min J.size 40 := ⟨_, rfl⟩
  have hqm : min (J.size : Int) 40 = (q : Int) := by omega
  have hqj : (q : Int) ≤ (J.size : Int) := by omega
  have hq0 : (0 : Int) ≤ (q : Int) := by omega
  obtain ⟨X, hXe⟩ : ∃ X : ByteArray, X = J.extract 0 q := ⟨_, rfl⟩
  have hXd : X.data.toList = (joinL zs).take 40 := by
    have h1 := extract_mk J.data.toList 0 q
    rw [mk_data, hjd] at h1
    rw [hXe, h1]
    show ((joinL zs).take q).drop 0 = _
    rw [List.drop_zero, hq1, hJ, size_mk]
    rcases Nat.le_total (joinL zs).length 40 with h | h
    · rw [Nat.min_eq_left h, List.take_of_length_le (Nat.le_refl _), List.take_of_length_le h]
    · rw [Nat.min_eq_right h]
  have hXs : X.size ≤ 40 := by rw [Lib.size_eq, hXd, List.length_take]; omega
  obtain ⟨D, hD⟩ : ∃ D : ByteArray, D = ⟨(sentL bin (joinL zs)).toArray⟩ := ⟨_, rfl⟩
  obtain ⟨Y, hY⟩ : ∃ Y : ByteArray, Y = ⟨(optL 253 o).toArray⟩ := ⟨_, rfl⟩
  obtain ⟨Z, hZ⟩ : ∃ Z : ByteArray, Z = ⟨(subL o ((joinL zs).take 40)).toArray⟩ := ⟨_, rfl⟩
  have hDs : D.size ≤ 1000 := by rw [hD, size_mk]; have := (sent_len bin (joinL zs)).2; have e := joinL_len zs; omega
  have hDd : D.data.toList = sentL bin (joinL zs) := by rw [hD]
  have hYs : Y.size ≤ 3 := by rw [hY]; exact Nat.le_refl _
  have hZs : Z.size ≤ 85 := by
    rw [hZ, size_mk]
    have h1 := (sent_len true ((joinL zs).take 40)).2
    have h2 : ((joinL zs).take 40).length ≤ 40 := by rw [List.length_take]; omega
    simp only [subL, List.length_append, List.length_cons, List.length_nil]
    omega
  have hcat1 : ∀ W, (Op.stringOp .add D Y).run Try.prog W = .ok (.string (D ++ Y)) W := fun W => run_string_add_sum W D Y (by omega)
  have hcat2 : ∀ W, (Op.stringOp .add (D ++ Y) Z).run Try.prog W = .ok (.string (D ++ Y ++ Z)) W := fun W => run_string_add_sum W _ Z (by rw [ByteArray.size_append]; omega)
  have hBL : (D ++ Y ++ Z).data.toList = backL bin (joinL zs) o := by
    rw [hD, hY, hZ, mk_add, mk_add]; rfl
  have hBs : (D ++ Y ++ Z).size ≤ 1100 := by rw [ByteArray.size_append, ByteArray.size_append]; omega
  have HD1 := Lib.hid (show ∀ W : World, Src W A n (zs.map Value.string) → Calls Try.prog 14 #[.bool bin, .slice A n c] W fun e w' => e = .returned (.string D) ∧ Below W.heap.size W w' from fun W q => by
    rw [hD]; exact wire_data bin A n c zs W q hcap (by omega) (by omega))
  have HD2 := Lib.hid (show ∀ W : World, Calls Try.prog 14 #[.bool bin, .slice (some ⟨W.heap.size, 0, none⟩) 1 1] (W.alloc (.cells #[.string J] 9)) fun e w' => e = .returned (.string D) ∧ Below (W.alloc (.cells #[.string J] 9)).heap.size (W.alloc (.cells #[.string J] 9)) w' from fun W => by
    have h1 := wire_data bin (some ⟨W.heap.size, 0, none⟩) 1 1 [J] (W.alloc (.cells #[.string J] 9)) (src_one _ _ _ rfl) (Nat.le_refl _) (by rw [sum_one]; omega) (by omega)
    rw [show joinL [J] = joinL zs by rw [← hjd]; simp [joinL], ← hD] at h1
    exact h1)
  have HPL := Lib.hid (show ∀ W : World, Calls Try.prog 16 #[.bool bin, .string D] W fun e w' => e = .returned (.string J) ∧ Below W.heap.size W w' from fun W => by
    have h1 := wire_plain bin D W (by omega)
    rwa [hDd, sent_plain, ← hJ] at h1)
  have HOP := Lib.hid (show ∀ W : World, Calls Try.prog 10 #[.int .i64 253, .int .i64 (o : Int)] W fun e w' => e = .returned (.tuple #[.string Y, .int .i64 0]) ∧ Below W.heap.size W w' from fun W => by rw [hY]; exact wire_option 253 o W (by omega) (by omega) ho)
  have HSB := Lib.hid (show ∀ W : World, Calls Try.prog 11 #[.int .i64 (o : Int), .slice (some ⟨W.heap.size, 0, none⟩) 1 1] (W.alloc (.cells #[.string X] 9)) fun e w' => e = .returned (.tuple #[.string Z, .int .i64 0]) ∧ Below (W.alloc (.cells #[.string X] 9)).heap.size (W.alloc (.cells #[.string X] 9)) w' from fun W => by
    have h1 := wire_sub o (some ⟨W.heap.size, 0, none⟩) 1 1 [X] (W.alloc (.cells #[.string X] 9)) ho (src_one _ _ _ rfl) (by intro y hy; simp at hy; subst hy; unfold maxLen; omega) (Nat.le_refl _) (by omega) (by rw [sum_one]; omega)
    rw [show joinL [X] = (joinL zs).take 40 by rw [← hXd]; simp [joinL], ← hZ] at h1
    exact h1)
  have HJ := Lib.hid hJ
  have HJD := Lib.hid hjd
  have HXE := Lib.hid hXe
  have HXD := Lib.hid hXd
  have HBL := Lib.hid hBL
  have HBS := Lib.hid hBs
  have HT := Lib.hid (back_told bin (joinL zs) o ho)
  have t1 : ¬ ((o : Int) < 0) := by omega
  have t2 : ¬ (255 < (o : Int)) := by omega
  have t3 : ¬ (30 < (m : Int)) := by omega
  have t4 : (m : Int) ≤ 30 := by omega
  have e1 : decide ((o : Int) < 0) = false := by simp
  have e2 : decide (255 < (o : Int)) = false := by simp; omega
  have e3 : decide (30 < (m : Int)) = false := by simp; omega
  have t5 : (0 : Int) ≤ (J.size : Int) := by omega
  have t6 : (J.size : Int) ≤ 500 := by omega
  clear hz hx hsh hq hsr hcap hJ hjd hjs hq1 hXe hXd hXs hD hY hZ hDs hDd hYs hZs hBL hBs hsum
  go_enter Try.func4, Try.ntmps4
  go_wp2_with fail
  refine HSH.out.mono ?_
  rintro r w1 ⟨rfl, b1⟩
  have B1 := Lib.hid b1
  clear b1
  go_wp2_with fail
  refine (alive_any w1).mono ?_
  rintro r w2 ⟨rfl, b2⟩
  have B2 := Lib.hid (B1.out.trans (b2.mono B1.out.size))
  clear b2
  go_wp2_with fail
  refine (join_any A n c zs w2 (HS.out.below B2.out) (by omega) (by have := HSUM.out; omega)).mono ?_
  rintro r w3 ⟨rfl, rfl⟩
  rw [← HJ.out]
  go_wp2_with fail
  rw [← HXE.out]
  refine (HOP.out w2).mono ?_
  rintro r w4 ⟨rfl, b4⟩
  have B4 := Lib.hid (B2.out.trans (b4.mono B2.out.size))
  clear b4
  go_wp2_with fail
  refine (HSB.out w4).mono ?_
  rintro r w5 ⟨rfl, b5⟩
  have B5 := Lib.hid ((B4.out.alloc B4.out.size (.cells #[.string X] 9)).trans (b5.mono (by have := B4.out.size; simp; omega)))
  clear b5
  go_wp2_with fail
  refine (HD1.out w5 (HS.out.below B5.out)).mono ?_
  rintro r w6 ⟨rfl, b6⟩
  have B6 := Lib.hid (B5.out.trans (b6.mono B5.out.size))
  clear b6
  go_wp2_with fail
  refine (HPL.out w6).mono ?_
  rintro r w7 ⟨rfl, b7⟩
  have B7 := Lib.hid (B6.out.trans (b7.mono B6.out.size))
  clear b7
  obtain ⟨CS, hCS⟩ : ∃ CS, CS = rdCells bin := ⟨_, rfl⟩
  have hbt := rd_built bin
  have hnw := rd_new w7 bin
  rw [← hCS] at hbt hnw
  have HB := Lib.hid hbt
  have HN := Lib.hid hnw
  clear hCS hbt hnw
  go_wp2_with (with_reducible refine wpList_built rfl 62 #[(0, .tmp 77)] rfl CS ?hbuilt ?_)
  case hbuilt => first | exact HB.out | (simp; exact HB.out)
  have hd2 := HD2.out (w7.alloc (.cells CS 62))
  rw [show (w7.alloc (.cells CS 62)).heap.size = w7.heap.size + 1 by simp] at hd2
  refine hd2.mono ?_
  clear hd2
  rintro r w8 ⟨rfl, b8⟩
  have B8 := Lib.hid (((B7.out.alloc B7.out.size (.cells CS 62)).alloc (by have := B7.out.size; simp; omega) (.cells #[.string J] 9)).trans (b8.mono (by have := B7.out.size; simp; omega)))
  have HN8 := Lib.hid ((HN.out.alloc (.cells #[.string J] 9)).below b8)
  clear b8
  go_wp2_with fail
  refine (cuts_any (D ++ Y ++ Z) B m d xs w8 ((src_ints HX.out).below B8.out) HX.out.2.2.1 (by have := HBS.out; omega) (by omega)).mono ?_
  rintro r w9 ⟨v, ps, rfl, hr, hj, hl, b9⟩
  rw [HBL.out] at hj
  obtain ⟨p, hp⟩ : ∃ p, p = w7.heap.size := ⟨_, rfl⟩
  rw [← hp] at HN8 ⊢
  have hp8 : p < w8.heap.size := HN8.out.lt
  have hwp : w.heap.size ≤ p := by rw [hp]; exact B7.out.size
  have hps : sum ps ≤ 1100 := by
    rw [← joinL_len, hj, ← HBL.out, ← Lib.size_eq]
    exact HBS.out
  have HWP := Lib.hid hwp
  have HBA := Lib.hid (BackAt.new (HN8.out.below b9))
  have B9 := Lib.hid (B8.out.trans (b9.mono B8.out.size))
  have HR := Lib.hid hr
  have HPJ := Lib.hid hj
  have HPS := Lib.hid hps
  have hlb : (ps.length : Int) ≤ 31 := by omega
  obtain ⟨Ap, cp, rfl, _⟩ := own_form hr
  clear hr hj hl b9 hp hps
  go_wp2_with fail
  go_loopw [17, 18, 19] (fun dv ov i wr => ∃ k : Nat, i = .int .i64 k ∧ k ≤ ps.length ∧ dv = .string ⟨(dataOf (feedL bin Rd.new (joinL (ps.take k)))).toArray⟩ ∧ Hid (BackAt p bin w9 (joinL (ps.take k)) ov wr)) (fun _ _ i _ => ps.length - (intOf i).toNat)
  case atStart => exact ⟨0, rfl, by omega, rfl, HBA⟩
  case round =>
    obtain ⟨k, rfl, hk, rfl, hba⟩ := hrel
    have hk0 : (0 : Int) ≤ (k : Int) := by omega
    by_cases hlt : k < ps.length
    · have hki : (k : Int) < (ps.length : Int) := by omega
      obtain ⟨made, A1, c1, h1, h5, h6, h7, h8⟩ := hba.out
      obtain ⟨x, hxk⟩ : ∃ x, ps[k]? = some x := ⟨_, List.getElem?_eq_getElem hlt⟩
      have hlive : ∀ i, (Value.slice Ap ps.length cp).ownBlock = some i → ¬ Since p w9 i := fun i hi hs => by
        have h9 := HR.out.lt i hi
        rcases hs with h10 | h10
        · omega
        · omega
      have hrow := own_keep HR.out h8 hlive
      obtain ⟨ga, rfl⟩ : ∃ g, Ap = some ⟨g, 0, none⟩ := by
        obtain ⟨A2, c2, e, hA2⟩ := own_form HR.out
        injection e with e1 _ _
        subst e1
        exact hA2 (by omega)
      have hcx : wr.cell? ⟨ga, k, none⟩ = some (.string x) := by
        have := hrow.cells (g := ga) rfl k (.string x) (by rw [List.getElem?_map, hxk]; rfl)
        rwa [add_mk, Nat.zero_add] at this
      have hxs : x.size ≤ 1100 := Nat.le_trans (sum_mem (List.mem_of_getElem? hxk)) HPS.out
      obtain ⟨s, hs⟩ : ∃ s, s = joinL (ps.take k) := ⟨_, rfl⟩
      have hsx : joinL (ps.take (k + 1)) = s ++ x.data.toList := by rw [hs, take_next hxk, joinL_snoc]
      have hsl : (s ++ x.data.toList).length ≤ 1100 := by
        rw [← hsx, joinL_len]
        exact Nat.le_trans (sum_take ps (k + 1)) HPS.out
      rw [← hs] at h1 h5 ⊢
      obtain ⟨Ao, co, rfl, _⟩ := own_form h5
      have FF := Lib.hid (feed_one p bin made _ A1 c1 x wr h1 (by omega))
      have H5 := Lib.hid h5
      have H6 := Lib.hid h6
      have H1 := Lib.hid h1
      have H7 := Lib.hid h7
      have H8 := Lib.hid h8
      have HSX := Lib.hid hsx
      have HSL := Lib.hid hsl
      clear h1 h5 h6 h7 h8 hba hrow hlive hs hsx hsl hxk
      obtain ⟨DD, hDD⟩ : ∃ DD : ByteArray, DD = ⟨(dataOf (feedL bin Rd.new s)).toArray⟩ := ⟨_, rfl⟩
      rw [← hDD]
      have HDD := Lib.hid hDD
      clear hDD
      go_wp2_with fail
      refine FF.out.mono ?_
      rintro e w3 ⟨v3, rfl, hr3, A3, c3, g1, g2, g3⟩
      have HI0 := back_fed (x := x.data.toList) H1.out H5.out H6.out g2
      have HE := fun {v' : Value} {w' : World} {k' : Nat} => back_end (v' := v') (w' := w') (k := k') H5.out H6.out H7.out H8.out g1 g2
      have hlen := data_cut bin Rd.new s x.data.toList
      have hbd : (dataOf (feedL bin Rd.new (s ++ x.data.toList))).length ≤ 1100 := by
        have h1 := dataOf_len (feedL bin Rd.new (s ++ x.data.toList))
        have h2 := feed_sum bin Rd.new (s ++ x.data.toList)
        have h3 := HSL.out
        have h4 : Rd.new.text.length = 0 := rfl
        omega
      have hfl : (feedL bin (goL bin Rd.new s) x.data.toList).length ≤ 1100 := by
        have h1 := feed_len bin (goL bin Rd.new s) x.data.toList
        rw [← Lib.size_eq] at h1
        omega
      have hol : (othersOf (feedL bin Rd.new s)).length ≤ 1100 := by
        have h1 := othersOf_len (feedL bin Rd.new s)
        have h2 := feed_len bin Rd.new s
        have h3 := HSL.out
        rw [List.length_append] at h3
        omega
      obtain ⟨F, hF⟩ : ∃ F, F = feedL bin (goL bin Rd.new s) x.data.toList := ⟨_, rfl⟩
      obtain ⟨L, hL⟩ : ∃ L, L = othersOf (feedL bin Rd.new s) := ⟨_, rfl⟩
      rw [← hF] at hr3 HI0 HE hlen hfl
      rw [← hL] at HI0 HE hol
      have HTold := Lib.hid (show ∀ j v' w', InAt w9 w3 L F (.slice Ao (othersOf (feedL bin Rd.new s)).length co) j v' w' → w'.ownsRow wr.heap.size 67 4 v3 F.length (toks F) from fun j v' w' q => q.told hr3 (fun i hi => own_lt H5.out hi))
      rw [← hL] at HTold ⊢
      have HE2 := Lib.hid (show ∀ j v' w', InAt w9 w3 L F (.slice Ao L.length co) j v' w' → F.length ≤ j → BackAt p bin w9 (joinL (ps.take (k + 1))) v' w' from fun j v' w' q hj => by rw [HSX.out]; exact HE q hj)
      have HLEN := Lib.hid hlen
      have HBD := Lib.hid hbd
      have HI := Lib.hid HI0
      have HFL := Lib.hid hfl
      have HOL := Lib.hid hol
      have hflb : (F.length : Int) ≤ 1100 := by omega
      have hDS : DD.data.toList = dataOf (feedL bin Rd.new s) := by rw [HDD.out]
      have HDS := Lib.hid hDS
      have HW3 := Lib.hid (show w9.heap.size ≤ w3.heap.size from Nat.le_trans H8.out.size g2.1.size)
      obtain ⟨Av, cv, rfl, _⟩ := own_form hr3
      clear hr3 g1 g2 g3 HI0 HE hlen hbd hfl hol hF hL hDS H5 H6 H1 H7 H8
      go_wp2_with fail
      go_loopw [17, 18, 21] (fun dv ov i w' => ∃ (j : Nat) (E : ByteArray), i = .int .i64 j ∧ j ≤ F.length ∧ dv = .string E ∧ Hid (E = ⟨(DD.data.toList ++ dataOf (F.take j)).toArray⟩) ∧ Hid (InAt w9 w3 L F (.slice Ao L.length co) j ov w')) (fun _ _ i _ => F.length - (intOf i).toNat)
      case atStart => exact ⟨0, DD, rfl, by omega, rfl, Lib.hid (by simp [dataOf, mk_data]), HI⟩
      case round =>
        obtain ⟨j, E, rfl, hj, rfl, he, hi3⟩ := hrel
        have hj0 : (0 : Int) ≤ (j : Int) := by omega
        by_cases hlj : j < F.length
        · have hji : (j : Int) < (F.length : Int) := by omega
          obtain ⟨t, ht⟩ : ∃ t, F[j]? = some t := ⟨_, List.getElem?_eq_getElem hlj⟩
          obtain ⟨g5, d5, e5, hg5, p0, p1, p2, p3⟩ := tok_cells (HTold.out _ _ _ hi3.out) ht
          injection e5 with e5 _ e6
          subst e5 e6
          obtain ⟨T, hT⟩ : ∃ T : ByteArray, T = ⟨t.text.toArray⟩ := ⟨_, rfl⟩
          rw [← hT] at p3
          have hTd : T.data.toList = t.text := by rw [hT]
          have hnx : dataOf (F.take (j + 1)) = dataOf (F.take j) ++ (if t.kind = 0 then t.text else []) := by rw [take_next ht, dataOf_add]; simp [dataOf]
          by_cases hkz : t.kind = 0
          · have tk : (t.kind == 0) = true := by simpa using hkz
            have hz : E.size + T.size ≤ 9223372036854775807 := by
              have h1 := HBD.out
              rw [HLEN.out, ← HDS.out, List.length_append] at h1
              have h2 : (dataOf (F.take (j + 1))).length ≤ (dataOf F).length := by
                have := congrArg List.length (dataOf_add (F.take (j + 1)) (F.drop (j + 1)))
                rw [List.take_append_drop, List.length_append] at this
                omega
              rw [hnx, if_pos hkz, List.length_append] at h2
              rw [he.out, size_mk, hT, size_mk, List.length_append]
              omega
            have HE3 := Lib.hid (show E ++ T = ⟨(DD.data.toList ++ dataOf (F.take (j + 1))).toArray⟩ by rw [he.out, hT, mk_add, hnx, if_pos hkz, List.append_assoc])
            have HI4 := Lib.hid (hi3.out.same ht hkz)
            clear ht hT hTd hnx hkz
            go_wp2_with fail
            go_roundw
            case rel => exact ⟨j + 1, E ++ T, by go_num, by omega, rfl, HE3, HI4⟩
            case measure => simp [intOf]; omega
          · have tk : (t.kind == 0) = false := by simpa using hkz
            have HE3 := Lib.hid (show E = ⟨(DD.data.toList ++ dataOf (F.take (j + 1))).toArray⟩ by rw [he.out, hnx, if_neg hkz, List.append_nil])
            obtain ⟨K, hK⟩ : ∃ K, K = L ++ othersOf (F.take j) := ⟨_, rfl⟩
            have ho3 := hi3.out.o
            rw [← hK] at ho3
            have hKl : K.length ≤ 2200 := by
              rw [hK, List.length_append]
              have h1 := othersOf_len (F.take j)
              rw [List.length_take] at h1
              have h2 := HOL.out
              have h3 := HFL.out
              omega
            obtain ⟨Ak, ck, rfl, _⟩ := own_form ho3
            have HO3 := Lib.hid ho3
            have HKL := Lib.hid hKl
            have hzz := hi3.out.k.size
            have HMORE := Lib.hid (fun (v' : Value) (W' : World) (X : Obj) (m' : Nat) (q1 : m' = (L ++ othersOf (F.take j)).length + 1) q2 q3 q4 => hi3.out.more (v' := v') (w' := W') (X := X) (m := m') ht hkz q1 q2 q3 q4)
            rw [← hK] at HMORE
            have hcell : t.cells = [.int .i64 t.kind, .int .i64 t.cmd, .int .i64 t.opt, .string T] := by rw [hT]; rfl
            rw [hcell] at HMORE
            have HZ3 := Lib.hid (show w9.heap.size ≤ wr.heap.size from Nat.le_trans HW3.out hzz)
            clear ht hT hTd hnx hkz hK hcell ho3 hKl hzz
            go_wp2_with (at_builtin; refine wpList_own_at _ rfl (.tmp 122) (.tmp 127) 64 rfl w9.heap.size 67 i0 _ 4 40 Try.underlying64 hi hz0 hz1 hz2 rfl (by decide) _ _ _ rfl (own_keep HO3.out ((Keep.refl (fun _ => False) wr).alloc _) (fun _ _ x => x)) ⟨wr.heap.size, 0, none⟩ 1 1 [.int .i64 t.kind, .int .i64 t.cmd, .int .i64 t.opt, .string T] rfl rfl (cells_new wr _ _ _ rfl) (one_tok _ _ _ T) ?c3 ?c4 ?c5 ?_)
            case c3 => have := HKL.out; unfold maxLen; omega
            case c4 => have := HKL.out; omega
            case c5 => have := HZ3.out; simp; omega
            intro v5 w5 hown hkeep hat
            have HI5 := Lib.hid (HMORE.out v5 w5 _ _ rfl hown hkeep (fun i q => by have := hat i q; rw [World.size_alloc]; exact this))
            clear hown hkeep hat
            go_wp2_with fail
            go_roundw
            case rel => exact ⟨j + 1, E, by go_num, by omega, rfl, HE3, HI5⟩
            case measure => simp [intOf]; omega
        · have hjf : j = F.length := by omega
          subst hjf
          have HBA2 := Lib.hid (HE2.out _ _ _ hi3.out (Nat.le_refl _))
          have HE3 := Lib.hid (show E = ⟨(dataOf (feedL bin Rd.new (joinL (ps.take (k + 1))))).toArray⟩ by rw [he.out, List.take_of_length_le (Nat.le_refl _), HSX.out, HLEN.out, HDS.out])
          go_wp2_with fail
          go_roundw
          case rel => exact ⟨k + 1, by go_num, by omega, by rw [HE3.out], HBA2⟩
          case measure => simp [intOf]; omega
    · have hkn : k = ps.length := by omega
      subst hkn
      obtain ⟨made, A1, c1, h1, h5, h6, h7, h8⟩ := hba.out
      rw [List.take_of_length_le (Nat.le_refl _), HPJ.out] at h1 h5 ⊢
      obtain ⟨q1, q2, q3⟩ := HT.out
      rw [q2] at h5
      rw [q1, ← HJ.out]
      obtain ⟨ga, ca, rfl, hga, p0, p1, p2, p3⟩ := tok_cells (l := [⟨2, 253, o, []⟩, ⟨3, 0, o, (joinL zs).take 40⟩]) h5 (i := 0) rfl
      obtain ⟨gb, cb, eg, _, r0, r1, r2, r3⟩ := tok_cells (l := [⟨2, 253, o, []⟩, ⟨3, 0, o, (joinL zs).take 40⟩]) h5 (i := 1) rfl
      injection eg with eg _ _
      injection eg with eg
      injection eg with eg
      subst eg
      have hXX : (⟨((joinL zs).take 40).toArray⟩ : ByteArray) = X := by rw [← HXD.out, mk_data]
      rw [show ((⟨3, 0, o, (joinL zs).take 40⟩ : Tok)).text = (joinL zs).take 40 from rfl, hXX] at r3
      have HWA := whole_any p bin made _ A1 c1 wr h1
      rw [show wholeL (goL bin Rd.new (backL bin (joinL zs) o)) = true by unfold wholeL; rw [q3]; rfl] at HWA
      have HWW := Lib.hid HWA
      have HF := Lib.hid (show Below w.heap.size w wr from B9.out.trans (h8.below B9.out.size (fun i hi hs => by
        have := B9.out.size
        have := HWP.out
        rcases hs with x | x <;> omega)))
      clear h1 h5 h6 h7 h8 hba q1 q2 q3 HWA hXX
      go_wp2_with fail
      refine HWW.out.mono ?_
      rintro e w10 ⟨rfl, rfl⟩
      go_wp2_with fail
      go_ret
      exact ⟨rfl, HF.out⟩

set_option maxRecDepth 100000 in
set_option maxHeartbeats 1600000 in
theorem walk_WireBack (bin : Bool) (A : Option Addr) (n c : Nat) (zs : List ByteArray) (o : Int) (wo : (Lit.int .i64 o).wf = true) (B : Option Addr) (m d : Nat) (xs : List Int) (w : World) (hz : Strs w A n zs ∧ n ≤ c) (hx : Ints w B m xs) :
    Calls Try.prog 4 #[.bool bin, .slice A n c, .int .i64 o, .slice B m d] w fun e w' => e = .returned (.bool true) ∧ Below w.heap.size w w' := by
  obtain ⟨ho0, ho1⟩ := wf_bounds wo
  have hmm : (m : Int) ≤ 9223372036854775807 := by have := hx.2.2.2; unfold maxLen at this; omega
  have HSH := Lib.hid (short_any 12 500 A n c zs w (src_strs hz.1) hz.1.2.2.1 (by omega) (by omega) hz.1.2.2.2)
  by_cases hsh : shortB 12 500 zs = true
  · by_cases o0 : 0 ≤ o
    · by_cases o1 : o ≤ 255
      · by_cases hm : m ≤ 30
        · obtain ⟨k, rfl⟩ : ∃ k : Nat, o = (k : Int) := ⟨o.toNat, by omega⟩
          exact back_good bin A n c zs k B m d xs w hz.1 hx hz.2 hsh (by omega) hm
        · have e1 : decide (o < 0) = false := by simp; omega
          have e2 : decide (255 < o) = false := by simp; omega
          have e3 : decide (30 < (m : Int)) = true := by simp; omega
          rw [hsh] at HSH
          clear hz hx hsh
          go_enter Try.func4, Try.ntmps4
          go_wp2_with fail
          refine HSH.out.mono ?_
          rintro r w1 ⟨rfl, b1⟩
          have B1 := Lib.hid b1
          clear b1
          go_wp2_with fail
          refine (alive_any w1).mono ?_
          rintro r w2 ⟨rfl, b2⟩
          have B2 := Lib.hid (B1.out.trans (b2.mono B1.out.size))
          clear b2
          go_wp2_with fail
          go_ret
          exact ⟨rfl, B2.out⟩
      · have e1 : decide (o < 0) = false := by simp; omega
        have e2 : decide (255 < o) = true := by simp; omega
        rw [hsh] at HSH
        clear hz hx hsh
        go_enter Try.func4, Try.ntmps4
        go_wp2_with fail
        refine HSH.out.mono ?_
        rintro r w1 ⟨rfl, b1⟩
        have B1 := Lib.hid b1
        clear b1
        go_wp2_with fail
        refine (alive_any w1).mono ?_
        rintro r w2 ⟨rfl, b2⟩
        have B2 := Lib.hid (B1.out.trans (b2.mono B1.out.size))
        clear b2
        go_wp2_with fail
        go_ret
        exact ⟨rfl, B2.out⟩
    · have e1 : decide (o < 0) = true := by simp; omega
      rw [hsh] at HSH
      clear hz hx hsh
      go_enter Try.func4, Try.ntmps4
      go_wp2_with fail
      refine HSH.out.mono ?_
      rintro r w1 ⟨rfl, b1⟩
      have B1 := Lib.hid b1
      clear b1
      go_wp2_with fail
      refine (alive_any w1).mono ?_
      rintro r w2 ⟨rfl, b2⟩
      have B2 := Lib.hid (B1.out.trans (b2.mono B1.out.size))
      clear b2
      go_wp2_with fail
      go_ret
      exact ⟨rfl, B2.out⟩
  · rw [show shortB 12 500 zs = false by simpa using hsh] at HSH
    clear hz hx hsh
    go_enter Try.func4, Try.ntmps4
    go_wp2_with fail
    refine HSH.out.mono ?_
    rintro r w1 ⟨rfl, b1⟩
    have B1 := Lib.hid b1
    clear b1
    go_wp2_with fail
    refine (alive_any w1).mono ?_
    rintro r w2 ⟨rfl, b2⟩
    have B2 := Lib.hid (B1.out.trans (b2.mono B1.out.size))
    clear b2
    go_wp2_with fail
    go_ret
    exact ⟨rfl, B2.out⟩

end Go.Proofs.Ytopgejjencoelaa
