/- Law NvtLines: the walk. Own work. -/
import Derived.Test.YtnnkgdggkinblaaNvtLinesM
import Derived.Test.YtnnkgdggkinblaaNvtAlive
import Derived.Test.YtnnkgdggkinblaaFeedOne
namespace Go.Proofs.Ytnnkgdggkinblaa
set_option linter.unusedVariables false
set_option linter.unusedSimpArgs false
open Go.RowKit

set_option maxRecDepth 100000 in
set_option maxHeartbeats 6400000 in
theorem lines_good (A : Option Addr) (n c : Nat) (zs : List ByteArray) (bin : Bool) (w : World) (hz : Strs w A n zs) (hn : n ≤ 20) :
    Calls Try.prog 5 #[.slice A n c, .bool bin] w fun e w' => e = .returned (.bool true) ∧ Below w.heap.size w w' := by
  have k1 : ¬ (20 < (n : Int)) := by omega
  have hnb : (n : Int) ≤ 20 := by omega
  have HZ := Lib.hid hz
  clear hz
  go_enter Try.func5, Try.ntmps5
  go_wp2_with fail
  refine (alive_any w).mono ?_
  rintro r w1 ⟨rfl, b1⟩
  have B1 := Lib.hid b1
  clear b1
  go_wp2_with fail
  go_loopw [5, 6, 7, 8, 9] (fun sv wv i jv ev wr => ∃ (k : Nat) (S W : List UInt8), i = .int .i64 k ∧ k ≤ n ∧ sv = .string ⟨S.toArray⟩ ∧ wv = .string ⟨W.toArray⟩ ∧ Hid (LinesAt bin k S W) ∧ Hid (Below w.heap.size w wr)) (fun _ _ i _ _ _ => n - (intOf i).toNat)
  case atStart => exact ⟨0, [], [], rfl, by omega, rfl, rfl, Lib.hid (lines_nil bin), B1⟩
  case round =>
    obtain ⟨k, S, W, rfl, hk, rfl, rfl, hl, hb⟩ := hrel
    have hk0 : (0 : Int) ≤ (k : Int) := by omega
    have hkb : (k : Int) ≤ 20 := by omega
    by_cases hlt : k < n
    · have hki : (k : Int) < (n : Int) := by omega
      obtain ⟨b, o, rfl, hbl, hcs⟩ := HZ.out.2.1 (by omega)
      obtain ⟨x, hx⟩ : ∃ x, zs[k]? = some x := ⟨zs[k]'(by rw [HZ.out.1]; exact hlt), List.getElem?_eq_getElem _⟩
      have hcx : wr.cell? ⟨b, o + k, none⟩ = some (.string x) := (hb.out.cell (p := ⟨b, o + k, none⟩) hbl).trans (hcs k x hx)
      have hxm : x.size ≤ maxLen := HZ.out.2.2.1 x (List.mem_of_getElem? hx)
      unfold maxLen at hxm
      have hblr : b < wr.heap.size := Nat.lt_of_lt_of_le hbl hb.out.size
      clear hcs hx hbl
      go_wp2_with fail
      go_loop [8] (fun i => ∃ j : Nat, i = .int .i64 j ∧ j ≤ x.size ∧ Hid (∀ b ∈ x.data.toList.take j, 32 ≤ b ∧ b ≤ 126)) (fun i => x.size - (intOf i).toNat)
      case atStart => exact ⟨0, rfl, by omega, Lib.hid (by simp)⟩
      case round =>
        obtain ⟨j, rfl, hj, hok⟩ := hrel
        have hj0 : (0 : Int) ≤ (j : Int) := by omega
        by_cases hlj : j < x.size
        · have hji : (j : Int) < (x.size : Int) := by omega
          obtain ⟨y, hy⟩ : ∃ y, y = x[j] := ⟨_, rfl⟩
          by_cases y1 : (y.toNat : Int) < 32
          · have t1 : ((x[j]).toNat : Int) < 32 := by rw [← hy]; exact y1
            clear hy y1
            go_wp2_with fail
            go_ret
            exact ⟨rfl, hb.out⟩
          · have t1 : ¬ ((x[j]).toNat : Int) < 32 := by rw [← hy]; exact y1
            by_cases y2 : (126 : Int) < (y.toNat : Int)
            · have t2 : (126 : Int) < ((x[j]).toNat : Int) := by rw [← hy]; exact y2
              clear hy y1 y2
              go_wp2_with fail
              go_ret
              exact ⟨rfl, hb.out⟩
            · have t2 : ¬ (126 : Int) < ((x[j]).toNat : Int) := by rw [← hy]; exact y2
              have HO : Hid (∀ b ∈ x.data.toList.take (j + 1), 32 ≤ b ∧ b ≤ 126) := Lib.hid (by
                intro b hb
                rw [List.take_succ_eq_append_getElem (by simpa using hlj)] at hb
                rcases List.mem_append.1 hb with hb | hb
                · exact hok.out b hb
                · have : b = y := by have := List.mem_singleton.1 hb; rw [this, hy]; rfl
                  rw [this, UInt8.le_iff_toNat_le, UInt8.le_iff_toNat_le]
                  show 32 ≤ y.toNat ∧ y.toNat ≤ 126
                  omega)
              clear hy y1 y2
              go_wp2_with fail
              go_round
              case rel => exact ⟨j + 1, by go_num, by omega, HO⟩
              case measure => simp [intOf]; omega
        · have hjx : j = x.size := by omega
          subst hjx
          have HOK : Hid (∀ b ∈ x.data.toList, 32 ≤ b ∧ b ≤ 126) := Lib.hid (by
            have := hok.out
            rwa [List.take_of_length_le (by rw [← Lib.size_eq]; exact Nat.le_refl _)] at this)
          clear hok
          by_cases h50 : 50 < x.size
          · have t1 : (50 : Int) < (x.size : Int) := by omega
            go_wp2_with fail
            go_ret
            exact ⟨rfl, hb.out⟩
          · have t1 : ¬ (50 : Int) < (x.size : Int) := by omega
            have HNX := Lib.hid (lines_next hl.out HOK.out (by rw [← Lib.size_eq]; omega))
            have hs1 := hl.out.s
            have hw1 := hl.out.w
            obtain ⟨SS, hSS⟩ : ∃ SS : ByteArray, SS = ⟨S.toArray⟩ := ⟨_, rfl⟩
            obtain ⟨WW, hWW⟩ : ∃ WW : ByteArray, WW = ⟨W.toArray⟩ := ⟨_, rfl⟩
            have hSz : SS.size ≤ 1040 := by rw [hSS, size_mk]; omega
            have hWz : WW.size ≤ 1040 := by rw [hWW, size_mk]; omega
            have HSS := Lib.hid hSS
            have HWW := Lib.hid hWW
            rw [← hSS, ← hWW]
            clear hs1 hw1 hSS hWW
            rcases (show k % 3 = 0 ∨ k % 3 = 1 ∨ k % 3 = 2 by omega) with hm | hm | hm
            · cases bin
              · skip
                have HS2 := Lib.hid (show (⟨(S ++ x.data.toList ++ endOf k).toArray⟩ : ByteArray) = SS ++ x ++ ⟨#[13, 10]⟩ by rw [show endOf k = [13, 10] by simp [endOf, hm], HSS.out, mk_add', mk_add'])
                have HW2 := Lib.hid (show (⟨(W ++ x.data.toList ++ wantEnd false k).toArray⟩ : ByteArray) = WW ++ x ++ ⟨#[13, 10]⟩ by rw [show wantEnd false k = [13, 10] by simp [wantEnd, hm], HWW.out, mk_add', mk_add'])
                go_wp2_with fail
                go_roundw
                case rel => exact ⟨k + 1, _, _, by go_num, by omega, by rw [HS2.out], by rw [HW2.out], HNX, hb.out.alloc hb.out.size _⟩
                case measure => simp [intOf]; omega
              · skip
                have HS2 := Lib.hid (show (⟨(S ++ x.data.toList ++ endOf k).toArray⟩ : ByteArray) = SS ++ x ++ ⟨#[13, 10]⟩ by rw [show endOf k = [13, 10] by simp [endOf, hm], HSS.out, mk_add', mk_add'])
                have HW2 := Lib.hid (show (⟨(W ++ x.data.toList ++ wantEnd true k).toArray⟩ : ByteArray) = WW ++ x ++ ⟨#[13, 10]⟩ by rw [show wantEnd true k = [13, 10] by simp [wantEnd, hm], HWW.out, mk_add', mk_add'])
                go_wp2_with fail
                go_roundw
                case rel => exact ⟨k + 1, _, _, by go_num, by omega, by rw [HS2.out], by rw [HW2.out], HNX, hb.out.alloc hb.out.size _⟩
                case measure => simp [intOf]; omega
            · cases bin
              · skip
                have HS2 := Lib.hid (show (⟨(S ++ x.data.toList ++ endOf k).toArray⟩ : ByteArray) = SS ++ x ++ ⟨#[13, 0]⟩ by rw [show endOf k = [13, 0] by simp [endOf, hm], HSS.out, mk_add', mk_add'])
                have HW2 := Lib.hid (show (⟨(W ++ x.data.toList ++ wantEnd false k).toArray⟩ : ByteArray) = WW ++ x ++ ⟨#[13]⟩ by rw [show wantEnd false k = [13] by simp [wantEnd, hm], HWW.out, mk_add', mk_add'])
                go_wp2_with fail
                go_roundw
                case rel => exact ⟨k + 1, _, _, by go_num, by omega, by rw [HS2.out], by rw [HW2.out], HNX, hb.out.alloc hb.out.size _⟩
                case measure => simp [intOf]; omega
              · skip
                have HS2 := Lib.hid (show (⟨(S ++ x.data.toList ++ endOf k).toArray⟩ : ByteArray) = SS ++ x ++ ⟨#[13, 0]⟩ by rw [show endOf k = [13, 0] by simp [endOf, hm], HSS.out, mk_add', mk_add'])
                have HW2 := Lib.hid (show (⟨(W ++ x.data.toList ++ wantEnd true k).toArray⟩ : ByteArray) = WW ++ x ++ ⟨#[13, 0]⟩ by rw [show wantEnd true k = [13, 0] by simp [wantEnd, hm], HWW.out, mk_add', mk_add'])
                go_wp2_with fail
                go_roundw
                case rel => exact ⟨k + 1, _, _, by go_num, by omega, by rw [HS2.out], by rw [HW2.out], HNX, hb.out.alloc hb.out.size _⟩
                case measure => simp [intOf]; omega
            · cases bin
              · skip
                have HS2 := Lib.hid (show (⟨(S ++ x.data.toList ++ endOf k).toArray⟩ : ByteArray) = SS ++ x ++ ⟨#[13]⟩ by rw [show endOf k = [13] by simp [endOf, hm], HSS.out, mk_add', mk_add'])
                have HW2 := Lib.hid (show (⟨(W ++ x.data.toList ++ wantEnd false k).toArray⟩ : ByteArray) = WW ++ x ++ ⟨#[13]⟩ by rw [show wantEnd false k = [13] by simp [wantEnd, hm], HWW.out, mk_add', mk_add'])
                go_wp2_with fail
                go_roundw
                case rel => exact ⟨k + 1, _, _, by go_num, by omega, by rw [HS2.out], by rw [HW2.out], HNX, hb.out.alloc hb.out.size _⟩
                case measure => simp [intOf]; omega
              · skip
                have HS2 := Lib.hid (show (⟨(S ++ x.data.toList ++ endOf k).toArray⟩ : ByteArray) = SS ++ x ++ ⟨#[13]⟩ by rw [show endOf k = [13] by simp [endOf, hm], HSS.out, mk_add', mk_add'])
                have HW2 := Lib.hid (show (⟨(W ++ x.data.toList ++ wantEnd true k).toArray⟩ : ByteArray) = WW ++ x ++ ⟨#[13]⟩ by rw [show wantEnd true k = [13] by simp [wantEnd, hm], HWW.out, mk_add', mk_add'])
                go_wp2_with fail
                go_roundw
                case rel => exact ⟨k + 1, _, _, by go_num, by omega, by rw [HS2.out], by rw [HW2.out], HNX, hb.out.alloc hb.out.size _⟩
                case measure => simp [intOf]; omega
    · have hkn : k = n := by omega
      subst hkn
      obtain ⟨hf1, hf2, hf3⟩ := lines_fed hl.out
      have hs1 := hl.out.s
      have hw1 := hl.out.w
      have he := hl.out.e
      obtain ⟨SS, hSS⟩ : ∃ SS : ByteArray, SS = ⟨S.toArray⟩ := ⟨_, rfl⟩
      obtain ⟨WW, hWW⟩ : ∃ WW : ByteArray, WW = ⟨W.toArray⟩ := ⟨_, rfl⟩
      have hSd : SS.data.toList = S := by rw [hSS]
      have hSz : SS.size ≤ 1040 := by rw [hSS, size_mk]; omega
      rw [← hSS, ← hWW]
      obtain ⟨CS, hCS⟩ : ∃ CS, CS = rdCells bin := ⟨_, rfl⟩
      have hbt := rd_built bin
      have hnw := rd_new wr bin
      rw [← hCS] at hbt hnw
      have F1 := feed_one wr.heap.size bin false Rd.new none 0 SS _ hnw (by omega)
      rw [hSd, hf1, show (wr.alloc (.cells CS 48)).heap.size = wr.heap.size + 1 by simp] at F1
      have HB := Lib.hid hbt
      have HN := Lib.hid hnw
      have FF := Lib.hid F1
      have HWH := Lib.hid hf2
      have HPL := Lib.hid (show (⟨(plainOf bin SS.data.toList).toArray⟩ : ByteArray) = WW by rw [hSd, hf3, hWW])
      have HSZ := Lib.hid hSz
      have HSE := Lib.hid (show S = [] → SS.size = 0 by intro e; rw [hSS, size_mk, e]; rfl)
      have HSN := Lib.hid (show S ≠ [] → SS.size ≠ 0 by intro e h; rw [hSS, size_mk] at h; exact e (List.eq_nil_of_length_eq_zero h))
      have HWW := Lib.hid hWW
      have HSD := Lib.hid hSd
      clear hf1 hf2 hf3 hs1 hw1 hSS hWW hSd hCS hbt hnw F1 hSz
      go_wp2_with (with_reducible refine wpList_built rfl 48 #[(0, .tmp 90)] rfl CS ?hbuilt ?_)
      case hbuilt => first | exact HB.out | (simp; exact HB.out)
      refine FF.out.mono ?_
      rintro e w3 ⟨v3, rfl, hr3, A3, c3, h3, s3, n3⟩
      have BW := Lib.hid (show Below w.heap.size w w3 from (hb.out.alloc hb.out.size _).trans (s3.1.below (Nat.le_trans hb.out.size (by simp)) (fun i hi z => by
        have := rdOwn_none z
        have := hb.out.size
        omega)))
      have HWA := whole_any wr.heap.size bin true _ A3 c3 w3 h3
      rw [HWH.out] at HWA
      have HWW2 := Lib.hid HWA
      clear h3 s3 n3 HWA
      by_cases hS : S = []
      · have hW : W = [] := he.1 hS
        rw [if_pos hW] at hr3
        have h0 := HSE.out hS
        obtain rfl := is_empty h0
        obtain ⟨A5, c5, rfl, _⟩ := own_form hr3
        clear hr3 hS hW he h0
        go_wp2_with fail
        go_ret
        exact ⟨rfl, BW.out⟩
      · have hW : W ≠ [] := fun x => hS (he.2 x)
        rw [if_neg hW] at hr3
        have h0 := HSN.out hS
        have hne := not_empty h0
        obtain ⟨g3, c5, rfl, hg3, p0, p1, p2, p3⟩ := tok_cells (l := [⟨0, 0, 0, W⟩]) hr3 (i := 0) rfl
        rw [← HWW.out] at p3
        have HRR := Lib.hid hr3
        clear hr3 hS hW he h0
        go_wp2_with fail
        refine HWW2.out.mono ?_
        rintro e w4 ⟨rfl, rfl⟩
        go_wp2_with fail
        refine (plain_ref bin SS w3 (by have := HSZ.out; omega)).mono ?_
        rintro e w4 ⟨rfl, hb4⟩
        rw [HPL.out]
        have HF := Lib.hid (BW.out.trans (hb4.mono BW.out.size))
        clear hb4
        go_wp2_with fail
        go_ret
        exact ⟨rfl, HF.out⟩

set_option maxRecDepth 100000 in
set_option maxHeartbeats 1600000 in
theorem walk_NvtLines (A : Option Addr) (n c : Nat) (zs : List ByteArray) (bin : Bool) (w : World) (hz : Strs w A n zs) :
    Calls Try.prog 5 #[.slice A n c, .bool bin] w fun e w' => e = .returned (.bool true) ∧ Below w.heap.size w w' := by
  by_cases h1 : 20 < n
  · have h1' : (20 : Int) < (n : Int) := by omega
    have hm : (n : Int) ≤ 9223372036854775807 := by have := hz.2.2.2; unfold maxLen at this; omega
    clear hz
    go_enter Try.func5, Try.ntmps5
    go_wp2_with fail
    refine (alive_any w).mono ?_
    rintro r w1 ⟨rfl, b1⟩
    go_wp2_with fail
    go_ret
    exact ⟨rfl, b1⟩
  exact lines_good A n c zs bin w hz (by omega)

end Go.Proofs.Ytnnkgdggkinblaa
