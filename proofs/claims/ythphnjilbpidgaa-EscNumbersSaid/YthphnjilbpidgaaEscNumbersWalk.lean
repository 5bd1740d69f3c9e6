/- Law EscNumbers: the walk. By program (rgn/XEscNumbersWalk.py). Own work. -/
import Derived.Test.YthphnjilbpidgaaEscNumM
import Derived.Test.YthphnjilbpidgaaBkSameI
import Derived.Test.YthphnjilbpidgaaActsR
import Derived.IntWalk
namespace Go.Proofs.Ythphnjilbpidgaa
set_option linter.unusedVariables false
set_option linter.unusedSimpArgs false
open Go.RowKit

theorem rem63 (c : Int) : ∃ tm : Int, c.tmod 63 = tm ∧ -63 < tm ∧ tm < 63 ∧ ∃ m : Nat, (tm + 63) % 63 = (m : Int) ∧ m < 63 := by
  refine ⟨_, rfl, ?_, Int.tmod_lt_of_pos c (by omega), ((c.tmod 63 + 63) % 63).toNat, by omega, by omega⟩
  have h1 := Int.natAbs_tmod c 63
  have h2 := Nat.mod_lt c.natAbs (show 0 < (63 : Int).natAbs by omega)
  rw [← h1] at h2
  omega

theorem valsN_take (l : List Int) (k : Nat) (hk : k < l.length) (h8 : k < 8) : (valsN l (k + 1)).take 8 = (valsN l k).take 8 ++ [valN (l.getD k 0)] := by
  have hl : (valsN l k).length = k := by unfold valsN; rw [List.length_map, List.length_take]; omega
  rw [valsN_succ l k hk, List.take_of_length_le (by simp; omega), List.take_of_length_le (by omega)]
theorem valsN_take8 (l : List Int) (k : Nat) (hk : k < l.length) (h8 : ¬ k < 8) : (valsN l (k + 1)).take 8 = (valsN l k).take 8 := by
  have hl : (valsN l k).length = k := by unfold valsN; rw [List.length_map, List.length_take]; omega
  rw [valsN_succ l k hk, List.take_append_of_le_length (by omega)]
theorem valsN_all (l : List Int) : valsN l l.length = l.map valN := by simp [valsN]

set_option maxRecDepth 100000 in
set_option maxHeartbeats 1600000 in
theorem escNumbers_early (A0 : Option Addr) (n cap : Nat) (m f : Int) (w : World) (h : (n : Int) > 20) :
    Calls Try.prog 5 #[.slice A0 n cap, .int .i64 m, .int .i64 f] w fun e w' => e = .returned (.bool true) ∧ Below w.heap.size w w' := by
  go_enter Try.func5, Try.ntmps5
  go_wp2_with fail
  refine (alive_any _).mono ?_
  rintro e w1 ⟨rfl, hb⟩
  have HB := Lib.hid hb
  clear hb
  go_wp2_with fail
  go_ret
  exact ⟨rfl, HB.out⟩

/-- What the law's loop has made. -/
structure NumR (w : World) (PRE : List Nat) (xs : List Int) (k r : Nat) (S : ByteArray) (A : Option Addr) (c : Nat) (wr : World) : Prop where
  r8 : r = min k 8
  s : natsOf S = PRE ++ txtN xs k
  z : S.size ≤ 3 + 7 * k
  o : wr.ownsRow w.heap.size 3 1 (.slice A r c) r (((valsN xs k).take 8).map (Value.int .i64))
  b : Below w.heap.size w wr

set_option maxRecDepth 100000 in
set_option maxHeartbeats 6400000 in
theorem escNumbers_low (A0 : Option Addr) (n cap : Nat) (xs : List Int) (m f : Int) (w : World) (h : Ints w A0 n xs) (h20 : ¬ (n : Int) > 20) (t2 : Int) (F m2 : Nat) 
    (e3 : f.tmod 63 = t2) (l3 : -63 < t2) (l4 : t2 < 63) (e4 : (t2 + 63) % 63 = (m2 : Int)) (hF : F = 64 + m2) (hm2 : m2 < 63) (h60 : m < 60) :
    Calls Try.prog 5 #[.slice A0 n cap, .int .i64 m, .int .i64 f] w fun e w' => e = .returned (.bool true) ∧ Below w.heap.size w w' := by
  have e6 : (64 : Int) + (m2 : Int) = (F : Int) := by omega
  have e8 : IntKind.u8.wrap (F : Int) = (F : Int) := by rw [u8_of (by omega), toNat_ofNat (by omega)]
  have hF1 : Hid (64 ≤ F ∧ F ≤ 126) := Lib.hid (by omega)
  obtain ⟨i0, hi0, hz0, hz1, hz2⟩ := info_parts int_info
  have HS := Lib.hid (src_ints h)
  have HL := Lib.hid h.1
  clear hF hm2 h
  have hm60 : ¬ m ≥ 60 := by omega
  go_enter Try.func5, Try.ntmps5
  go_wp2_with fail
  refine (alive_any _).mono ?_
  rintro e w1 ⟨rfl, hb⟩
  have HB1 := Lib.hid hb
  clear hb
  go_upto_region 4 with fail
  rw [e4]
  clear e3 e4 e6 l3 l4
  go_wp2_with fail
  go_loopw [8, 10, 11] (fun s v i wr => ∃ (k r : Nat) (S : ByteArray) (A : Option Addr) (c : Nat), i = .int .i64 k ∧ k ≤ n ∧ s = .string S ∧ v = .slice A r c ∧ Hid (NumR w [27, 91] xs k r S A c wr)) (fun _ _ i _ => n - (intOf i).toNat)
  case atStart => exact ⟨0, 0, _, none, 0, rfl, Nat.zero_le _, rfl, rfl, Lib.hid ⟨rfl, by simp [natsOf, txtN], by show 2 ≤ _; omega, World.ownsRow_nil _ _ _ _, HB1.out⟩⟩
  case round =>
    obtain ⟨k, r, S, A, c, rfl, hk, rfl, rfl, HR⟩ := hrel
    by_cases hlt : k < n
    · obtain ⟨x, hx⟩ : ∃ x, xs[k]? = some x := ⟨xs[k]'(by rw [HL.out]; exact hlt), List.getElem?_eq_getElem _⟩
      obtain ⟨b, off, rfl, hbl, hcs⟩ := (HS.out.below HR.out.b).2 (by omega)
      have hcx : wr.cell? ⟨b, off + k, none⟩ = some (.int .i64 x) := hcs k _ (by rw [List.getElem?_map, hx]; rfl)
      have HGD : Hid (xs.getD k 0 = x) := Lib.hid (by rw [List.getD_eq_getElem?_getD, hx]; rfl)
      have hkl : Hid (k < xs.length) := Lib.hid (by rw [HL.out]; exact hlt)
      have hki : ((k : Int) < (n : Int)) := by omega
      have hk20 : (k : Int) ≤ 20 := by omega
      have hk0 : (0 : Int) ≤ (k : Int) := by omega
      have hSz : S.size ≤ 200 := by have := HR.out.z; omega
      have HSZ := Lib.hid hSz
      have q59 : S.size + (⟨#[59]⟩ : ByteArray).size ≤ 9223372036854775807 := by show S.size + 1 ≤ _; omega
      clear hcs hx hSz
      rcases Nat.eq_zero_or_pos k with hk00 | hkp
      · subst hk00
        have hcx0 : wr.cell? ⟨b, off, none⟩ = some (.int .i64 x) := hcx
        by_cases hxn : x < 0
        · skip
          have hp0 : ¬ x ≥ 0 := by omega
          have hmx : max x (-1) = -1 := by omega
          have HV : Hid (valN x = -1) := Lib.hid (if_pos (by omega))
          have HPT : Hid (partN 0 x = []) := Lib.hid (by unfold partN digN; rw [if_pos (show x < 0 by omega)]; rfl)
          have O5 := Lib.hid HR.out.o
          have B5 := Lib.hid HR.out.b
          go_wp2_with (at_builtin; refine wpList_own_at _ rfl (.tmp 65) (.tmp 69) 22 rfl w.heap.size 3 i0 (.int .i64 0) 1 8 Try.underlying22 hi0 hz0 hz1 hz2 rfl (by decide) (.slice A r c) r (((valsN xs 0).take 8).map (Value.int .i64)) rfl (O5.out.alloc _) ⟨wr.heap.size, 0, none⟩ 1 1 [.int .i64 (-1)] rfl rfl (cell_one_new _ _ _) ?c2a ?c3a ?c4a ?c5a ?_)
          case c2a => first | rfl | (intro u hu; simp at hu; subst hu; rfl)
          case c3a => have := HR.out.r8; unfold maxLen; omega
          case c4a => have := HR.out.r8; omega
          case c5a => have := B5.out.size; simp; omega
          intro v6 w6 hown6 hk6 hat6
          obtain ⟨A6, c6, rfl, -⟩ := own_form hown6
          have HN6 : Hid (NumR w [27, 91] xs (0 + 1) (r + 1) (S) A6 c6 w6) := Lib.hid (by
            have q1 := HR.out.r8
            refine ⟨by omega, ?_, ?_, ?_, B5.out.trans (((Below.refl _ wr).alloc (Nat.le_refl _) _ |>.mono B5.out.size).trans (hk6.below (by have := B5.out.size; simp; omega) (fun j hj e => by have := (O5.out.lt j e).1; omega)))⟩
            · show natsOf _ = _ ++ (txtN xs 0 ++ partN 0 (xs.getD 0 0))
              rw [HGD.out, HPT.out, ← List.append_assoc, ← HR.out.s]
              try simp only [natsOf_add, List.append_assoc]
              rw [List.append_nil]
            · have := HR.out.z; omega
            · have := valsN_take xs 0 hkl.out (by omega)
              rw [this, HGD.out, HV.out, List.map_append]
              first | exact hown6 | (rw [List.map_take]; exact hown6))
          clear hown6 hk6 hat6
          go_wp2_with fail
          go_roundw
          case rel => exact ⟨0 + 1, r + 1, _, A6, c6, by go_num, by omega, rfl, rfl, HN6⟩
          case measure => simp [intOf]; omega
        · skip
          have hp0 : x ≥ 0 := by omega
          obtain ⟨d, hd⟩ : ∃ d : Nat, x % 100000 = (d : Int) := ⟨(x % 100000).toNat, by omega⟩
          have hd5 : d < 100000 := by omega
          have HDG := Lib.hid (digits_any d hd5)
          obtain ⟨D, hD⟩ : ∃ D, D = bytesN (decN d) := ⟨_, rfl⟩
          have hDs : D.size ≤ 5 := by rw [hD, bytesN_size]; exact decN_len 4 d (by omega)
          have hDn : natsOf D = decN d := by rw [hD]; exact natsOf_bytesN _ (fun c hc => by have := decN_mem d c hc; omega)
          rw [← hD] at HDG
          have HDN := Lib.hid hDn
          have HDS := Lib.hid hDs
          obtain ⟨M, hM⟩ : ∃ M : Nat, min (d : Int) 9999 = (M : Int) := ⟨min d 9999, by omega⟩
          have hmx : max (d : Int) (-1) = (d : Int) := by omega
          have HV : Hid (valN x = (M : Int)) := Lib.hid (by unfold valN; rw [if_neg (by omega), hd, hM])
          have HPT : Hid (partN 0 x = decN d) := Lib.hid (by unfold partN digN; rw [if_neg (show ¬ x < 0 by omega), hd, Int.toNat_natCast]; rfl)
          have hqD : (S).size + D.size ≤ 9223372036854775807 := by have := HSZ.out; omega
          clear hD hDs hDn
          go_wp2_with fail
          refine (HDG.out _).mono ?_
          rintro e w5 ⟨rfl, hb5⟩
          have O5 : Hid (w5.ownsRow w.heap.size 3 1 (.slice A r c) r (((valsN xs 0).take 8).map (Value.int .i64))) := Lib.hid (own_below HR.out.o hb5 (fun i hi => (HR.out.o.lt i hi).2))
          have B5 : Hid (Below w.heap.size w w5) := Lib.hid (HR.out.b.trans (hb5.mono HR.out.b.size))
          clear hb5 HDG
          go_wp2_with (at_builtin; refine wpList_own_at _ rfl (.tmp 65) (.tmp 69) 22 rfl w.heap.size 3 i0 (.int .i64 0) 1 8 Try.underlying22 hi0 hz0 hz1 hz2 rfl (by decide) (.slice A r c) r (((valsN xs 0).take 8).map (Value.int .i64)) rfl (O5.out.alloc _) ⟨w5.heap.size, 0, none⟩ 1 1 [.int .i64 (M : Int)] rfl rfl (cell_one_new _ _ _) ?c2b ?c3b ?c4b ?c5b ?_)
          case c2b => first | rfl | (intro u hu; simp at hu; subst hu; rfl)
          case c3b => have := HR.out.r8; unfold maxLen; omega
          case c4b => have := HR.out.r8; omega
          case c5b => have := B5.out.size; simp; omega
          intro v6 w6 hown6 hk6 hat6
          obtain ⟨A6, c6, rfl, -⟩ := own_form hown6
          have HN6 : Hid (NumR w [27, 91] xs (0 + 1) (r + 1) (S ++ D) A6 c6 w6) := Lib.hid (by
            have q1 := HR.out.r8
            refine ⟨by omega, ?_, ?_, ?_, B5.out.trans (((Below.refl _ w5).alloc (Nat.le_refl _) _ |>.mono B5.out.size).trans (hk6.below (by have := B5.out.size; simp; omega) (fun j hj e => by have := (O5.out.lt j e).1; omega)))⟩
            · show natsOf _ = _ ++ (txtN xs 0 ++ partN 0 (xs.getD 0 0))
              rw [HGD.out, HPT.out, ← List.append_assoc, ← HR.out.s]
              try simp only [natsOf_add, List.append_assoc]
              rw [HDN.out]
            · have := HR.out.z; rw [ByteArray.size_append]; have := HDS.out; omega
            · have := valsN_take xs 0 hkl.out (by omega)
              rw [this, HGD.out, HV.out, List.map_append]
              first | exact hown6 | (rw [List.map_take]; exact hown6))
          clear hown6 hk6 hat6
          go_wp2_with fail
          go_roundw
          case rel => exact ⟨0 + 1, r + 1, _, A6, c6, by go_num, by omega, rfl, rfl, HN6⟩
          case measure => simp [intOf]; omega
      · have hkg : ((k : Int) > 0) := by omega
        by_cases h8 : k < 8
        · by_cases hxn : x < 0
          · skip
            have hp0 : ¬ x ≥ 0 := by omega
            have hmx : max x (-1) = -1 := by omega
            have HV : Hid (valN x = -1) := Lib.hid (if_pos (by omega))
            have HPT : Hid (partN k x = [59]) := Lib.hid (by unfold partN digN; rw [if_pos (show x < 0 by omega), if_pos hkp]; rfl)
            have O5 := Lib.hid HR.out.o
            have B5 := Lib.hid HR.out.b
            clear hkp
            have hk8 : ((k : Int) < 8) := by omega
            go_wp2_with (at_builtin; refine wpList_own_at _ rfl (.tmp 65) (.tmp 69) 22 rfl w.heap.size 3 i0 (.int .i64 0) 1 8 Try.underlying22 hi0 hz0 hz1 hz2 rfl (by decide) (.slice A r c) r (((valsN xs k).take 8).map (Value.int .i64)) rfl (O5.out.alloc _) ⟨wr.heap.size, 0, none⟩ 1 1 [.int .i64 (-1)] rfl rfl (cell_one_new _ _ _) ?c2c ?c3c ?c4c ?c5c ?_)
            case c2c => first | rfl | (intro u hu; simp at hu; subst hu; rfl)
            case c3c => have := HR.out.r8; unfold maxLen; omega
            case c4c => have := HR.out.r8; omega
            case c5c => have := B5.out.size; simp; omega
            intro v6 w6 hown6 hk6 hat6
            obtain ⟨A6, c6, rfl, -⟩ := own_form hown6
            have HN6 : Hid (NumR w [27, 91] xs (k + 1) (r + 1) (S ++ ⟨#[59]⟩) A6 c6 w6) := Lib.hid (by
              have q1 := HR.out.r8
              refine ⟨by omega, ?_, ?_, ?_, B5.out.trans (((Below.refl _ wr).alloc (Nat.le_refl _) _ |>.mono B5.out.size).trans (hk6.below (by have := B5.out.size; simp; omega) (fun j hj e => by have := (O5.out.lt j e).1; omega)))⟩
              · show natsOf _ = _ ++ (txtN xs k ++ partN k (xs.getD k 0))
                rw [HGD.out, HPT.out, ← List.append_assoc, ← HR.out.s]
                try simp only [natsOf_add, List.append_assoc]
                rfl
              · have := HR.out.z; rw [ByteArray.size_append]; show S.size + 1 ≤ _; omega
              · have := valsN_take xs k hkl.out (by omega)
                rw [this, HGD.out, HV.out, List.map_append]
                first | exact hown6 | (rw [List.map_take]; exact hown6))
            clear hown6 hk6 hat6
            go_wp2_with fail
            go_roundw
            case rel => exact ⟨k + 1, r + 1, _, A6, c6, by go_num, by omega, rfl, rfl, HN6⟩
            case measure => simp [intOf]; omega
          · skip
            have hp0 : x ≥ 0 := by omega
            obtain ⟨d, hd⟩ : ∃ d : Nat, x % 100000 = (d : Int) := ⟨(x % 100000).toNat, by omega⟩
            have hd5 : d < 100000 := by omega
            have HDG := Lib.hid (digits_any d hd5)
            obtain ⟨D, hD⟩ : ∃ D, D = bytesN (decN d) := ⟨_, rfl⟩
            have hDs : D.size ≤ 5 := by rw [hD, bytesN_size]; exact decN_len 4 d (by omega)
            have hDn : natsOf D = decN d := by rw [hD]; exact natsOf_bytesN _ (fun c hc => by have := decN_mem d c hc; omega)
            rw [← hD] at HDG
            have HDN := Lib.hid hDn
            have HDS := Lib.hid hDs
            obtain ⟨M, hM⟩ : ∃ M : Nat, min (d : Int) 9999 = (M : Int) := ⟨min d 9999, by omega⟩
            have hmx : max (d : Int) (-1) = (d : Int) := by omega
            have HV : Hid (valN x = (M : Int)) := Lib.hid (by unfold valN; rw [if_neg (by omega), hd, hM])
            have HPT : Hid (partN k x = [59] ++ decN d) := Lib.hid (by unfold partN digN; rw [if_neg (show ¬ x < 0 by omega), hd, Int.toNat_natCast, if_pos hkp])
            have hqD : (S ++ ⟨#[59]⟩).size + D.size ≤ 9223372036854775807 := by have := HSZ.out; rw [ByteArray.size_append]; show S.size + 1 + D.size ≤ _; omega
            clear hD hDs hDn hkp
            go_wp2_with fail
            refine (HDG.out _).mono ?_
            rintro e w5 ⟨rfl, hb5⟩
            have O5 : Hid (w5.ownsRow w.heap.size 3 1 (.slice A r c) r (((valsN xs k).take 8).map (Value.int .i64))) := Lib.hid (own_below HR.out.o hb5 (fun i hi => (HR.out.o.lt i hi).2))
            have B5 : Hid (Below w.heap.size w w5) := Lib.hid (HR.out.b.trans (hb5.mono HR.out.b.size))
            clear hb5 HDG
            have hk8 : ((k : Int) < 8) := by omega
            go_wp2_with (at_builtin; refine wpList_own_at _ rfl (.tmp 65) (.tmp 69) 22 rfl w.heap.size 3 i0 (.int .i64 0) 1 8 Try.underlying22 hi0 hz0 hz1 hz2 rfl (by decide) (.slice A r c) r (((valsN xs k).take 8).map (Value.int .i64)) rfl (O5.out.alloc _) ⟨w5.heap.size, 0, none⟩ 1 1 [.int .i64 (M : Int)] rfl rfl (cell_one_new _ _ _) ?c2d ?c3d ?c4d ?c5d ?_)
            case c2d => first | rfl | (intro u hu; simp at hu; subst hu; rfl)
            case c3d => have := HR.out.r8; unfold maxLen; omega
            case c4d => have := HR.out.r8; omega
            case c5d => have := B5.out.size; simp; omega
            intro v6 w6 hown6 hk6 hat6
            obtain ⟨A6, c6, rfl, -⟩ := own_form hown6
            have HN6 : Hid (NumR w [27, 91] xs (k + 1) (r + 1) (S ++ ⟨#[59]⟩ ++ D) A6 c6 w6) := Lib.hid (by
              have q1 := HR.out.r8
              refine ⟨by omega, ?_, ?_, ?_, B5.out.trans (((Below.refl _ w5).alloc (Nat.le_refl _) _ |>.mono B5.out.size).trans (hk6.below (by have := B5.out.size; simp; omega) (fun j hj e => by have := (O5.out.lt j e).1; omega)))⟩
              · show natsOf _ = _ ++ (txtN xs k ++ partN k (xs.getD k 0))
                rw [HGD.out, HPT.out, ← List.append_assoc, ← HR.out.s]
                try simp only [natsOf_add, List.append_assoc]
                rw [HDN.out]; rfl
              · have := HR.out.z; rw [ByteArray.size_append, ByteArray.size_append]; have := HDS.out; show S.size + 1 + D.size ≤ _; omega
              · have := valsN_take xs k hkl.out (by omega)
                rw [this, HGD.out, HV.out, List.map_append]
                first | exact hown6 | (rw [List.map_take]; exact hown6))
            clear hown6 hk6 hat6
            go_wp2_with fail
            go_roundw
            case rel => exact ⟨k + 1, r + 1, _, A6, c6, by go_num, by omega, rfl, rfl, HN6⟩
            case measure => simp [intOf]; omega
        · by_cases hxn : x < 0
          · skip
            have hp0 : ¬ x ≥ 0 := by omega
            have hmx : max x (-1) = -1 := by omega
            have HV : Hid (valN x = -1) := Lib.hid (if_pos (by omega))
            have HPT : Hid (partN k x = [59]) := Lib.hid (by unfold partN digN; rw [if_pos (show x < 0 by omega), if_pos hkp]; rfl)
            have O5 := Lib.hid HR.out.o
            have B5 := Lib.hid HR.out.b
            clear hkp
            have hk8 : ¬ ((k : Int) < 8) := by omega
            have HN6 : Hid (NumR w [27, 91] xs (k + 1) r (S ++ ⟨#[59]⟩) A c wr) := Lib.hid (by
              have q1 := HR.out.r8
              refine ⟨by omega, ?_, ?_, ?_, B5.out⟩
              · show natsOf _ = _ ++ (txtN xs k ++ partN k (xs.getD k 0))
                rw [HGD.out, HPT.out, ← List.append_assoc, ← HR.out.s]
                try simp only [natsOf_add, List.append_assoc]
                rfl
              · have := HR.out.z; rw [ByteArray.size_append]; show S.size + 1 ≤ _; omega
              · rw [valsN_take8 xs k hkl.out (by omega)]
                exact O5.out)
            go_wp2_with fail
            go_roundw
            case rel => exact ⟨k + 1, r, _, A, c, by go_num, by omega, rfl, rfl, HN6⟩
            case measure => simp [intOf]; omega
          · skip
            have hp0 : x ≥ 0 := by omega
            obtain ⟨d, hd⟩ : ∃ d : Nat, x % 100000 = (d : Int) := ⟨(x % 100000).toNat, by omega⟩
            have hd5 : d < 100000 := by omega
            have HDG := Lib.hid (digits_any d hd5)
            obtain ⟨D, hD⟩ : ∃ D, D = bytesN (decN d) := ⟨_, rfl⟩
            have hDs : D.size ≤ 5 := by rw [hD, bytesN_size]; exact decN_len 4 d (by omega)
            have hDn : natsOf D = decN d := by rw [hD]; exact natsOf_bytesN _ (fun c hc => by have := decN_mem d c hc; omega)
            rw [← hD] at HDG
            have HDN := Lib.hid hDn
            have HDS := Lib.hid hDs
            obtain ⟨M, hM⟩ : ∃ M : Nat, min (d : Int) 9999 = (M : Int) := ⟨min d 9999, by omega⟩
            have hmx : max (d : Int) (-1) = (d : Int) := by omega
            have HV : Hid (valN x = (M : Int)) := Lib.hid (by unfold valN; rw [if_neg (by omega), hd, hM])
            have HPT : Hid (partN k x = [59] ++ decN d) := Lib.hid (by unfold partN digN; rw [if_neg (show ¬ x < 0 by omega), hd, Int.toNat_natCast, if_pos hkp])
            have hqD : (S ++ ⟨#[59]⟩).size + D.size ≤ 9223372036854775807 := by have := HSZ.out; rw [ByteArray.size_append]; show S.size + 1 + D.size ≤ _; omega
            clear hD hDs hDn hkp
            go_wp2_with fail
            refine (HDG.out _).mono ?_
            rintro e w5 ⟨rfl, hb5⟩
            have O5 : Hid (w5.ownsRow w.heap.size 3 1 (.slice A r c) r (((valsN xs k).take 8).map (Value.int .i64))) := Lib.hid (own_below HR.out.o hb5 (fun i hi => (HR.out.o.lt i hi).2))
            have B5 : Hid (Below w.heap.size w w5) := Lib.hid (HR.out.b.trans (hb5.mono HR.out.b.size))
            clear hb5 HDG
            have hk8 : ¬ ((k : Int) < 8) := by omega
            have HN6 : Hid (NumR w [27, 91] xs (k + 1) r (S ++ ⟨#[59]⟩ ++ D) A c w5) := Lib.hid (by
              have q1 := HR.out.r8
              refine ⟨by omega, ?_, ?_, ?_, B5.out⟩
              · show natsOf _ = _ ++ (txtN xs k ++ partN k (xs.getD k 0))
                rw [HGD.out, HPT.out, ← List.append_assoc, ← HR.out.s]
                try simp only [natsOf_add, List.append_assoc]
                rw [HDN.out]; rfl
              · have := HR.out.z; rw [ByteArray.size_append, ByteArray.size_append]; have := HDS.out; show S.size + 1 + D.size ≤ _; omega
              · rw [valsN_take8 xs k hkl.out (by omega)]
                exact O5.out)
            go_wp2_with fail
            go_roundw
            case rel => exact ⟨k + 1, r, _, A, c, by go_num, by omega, rfl, rfl, HN6⟩
            case measure => simp [intOf]; omega
    · have hkn : k = n := by omega
      subst hkn
      clear hlt hk
      by_cases h1 : k = 1
      · subst h1
        obtain ⟨x, hx⟩ : ∃ x, xs[0]? = some x := ⟨xs[0]'(by rw [HL.out]; omega), List.getElem?_eq_getElem _⟩
        obtain ⟨b, off, rfl, hbl, hcs⟩ := (HS.out.below HR.out.b).2 (by omega)
        have hcx : wr.cell? ⟨b, off, none⟩ = some (.int .i64 x) := hcs 0 _ (by rw [List.getElem?_map, hx]; rfl)
        have HGD : Hid (xs.getD 0 0 = x) := Lib.hid (by rw [List.getD_eq_getElem?_getD, hx]; rfl)
        clear hcs hx
        by_cases hx0 : x < 0
        · have HW : Hid (Src wr none 0 ((wantN xs).map (Value.int .i64)) ∧ ∀ i, blk none = some i → i < wr.heap.size) := Lib.hid (by
            have e : wantN xs = [] := if_pos ⟨HL.out, by rw [HGD.out]; exact hx0⟩
            rw [e]
            exact ⟨⟨rfl, fun h => absurd h (by omega)⟩, fun i hi => by simp [blk] at hi⟩)
          go_upto_region 24 with fail
          obtain ⟨w3, hw3⟩ : ∃ w3, w3 = wr.alloc (.cells parserCs 37) := ⟨_, rfl⟩
          have HE3 : Hid (EscAt w3 wr.heap.size 0 .z) := Lib.hid (by rw [hw3]; exact esc_new wr)
          have HB3 : Hid (Below w.heap.size w w3) := Lib.hid (by rw [hw3]; exact HR.out.b.alloc HR.out.b.size _)
          have hz3 : w3.heap.size = wr.heap.size + 1 := by rw [hw3]; simp
          have hq : w.heap.size ≤ wr.heap.size := HR.out.b.size
          have HWS3 : Hid (Src w3 none 0 ((wantN xs).map (Value.int .i64)) ∧ ∀ i, blk none = some i → i < wr.heap.size) := Lib.hid (by rw [hw3]; exact ⟨HW.out.1.below ((Below.refl _ wr).alloc (Nat.le_refl _) _), HW.out.2⟩)
          unfold parserCs at hw3
          rw [← hw3]
          obtain ⟨p, hp⟩ : ∃ p, p = wr.heap.size := ⟨_, rfl⟩
          rw [← hp] at HE3 hz3 hq HWS3
          try rw [← hp]
          have HZ3 := Lib.hid hz3
          have HSK := Lib.hid HR.out.s
          have HSZ := Lib.hid HR.out.z
          have hr8 : Hid (0 ≤ 8) := Lib.hid (by omega)
          clear hw3 hp hz3 HR HW
          have hpl : p < w3.heap.size := by have := HZ3.out; omega
          have hcv := bytes_str (W := w3.alloc (.cells #[.int .u8 (F : Int)] 5)) (P := Try.prog) 48 9 5 [F] #[.int .u8 (F : Int)] w3.heap.size 1 (heap_alloc_new w3 _) rfl (by intro c hc; simp at hc; have := hF1.out; omega) rfl (by unfold maxLen; omega) Try.underlying48 Try.underlying5 Try.underlying9
          obtain ⟨G, hG⟩ : ∃ G, G = bytesN [F] := ⟨_, rfl⟩
          have HG := Lib.hid hG
          rw [← hG] at hcv
          clear hG
          have HFED : Hid ((feedsE .z [S, G]).2 = [eCsi 0 (wantN xs) [] F] ∧ (feedsE .z [S, G]).1.ground = true) := Lib.hid (by
            have hf1 := hF1.out
            have hall : feedP (pAt 0) ([S, G].flatMap natsOf) = (pAt 0, [eCsi 0 (wantN xs) [] F]) := by
              simp only [List.flatMap_cons, List.flatMap_nil, List.append_nil]
              rw [HG.out, natsOf_bytesN _ (by intro x hx; simp at hx; omega), HSK.out, List.append_assoc]
              obtain ⟨q, hq, hn⟩ := numS_all (p := pAt 2) (m := 0) ⟨rfl, rfl, rfl, rfl, .inl ⟨rfl, rfl, .inl rfl⟩⟩ xs _ (Nat.le_of_eq HL.out.symm)
              rw [List.cons_append, List.cons_append, List.nil_append, open_csi, feedP_add, hq]
              simp only
              rw [feedP_one, csi_end q hn.st hn.w F hf1.1 hf1.2, hn.m, hn.i]
              rw [← HL.out] at hn
              rw [hn.want]
              rfl
            have h2 := feed_alikeE ([S, G].flatMap natsOf) AlikeE.z
            rw [hall] at h2
            rw [feedsE_nats]
            exact ⟨h2.2, (AlikeE.at0 h2.1 rfl rfl).1⟩)
          have hGs : G.size = 1 := by rw [HG.out, bytesN_size]; rfl
          have HGS := Lib.hid hGs
          clear hGs
          go_wp2_with fail
          have hsr : Src ((w3.alloc (.cells #[.int .u8 (F : Int)] 5)).alloc (.cells #[.string S, .string G] 9)) (some ⟨w3.heap.size + 1, 0, none⟩) 2 ([S, G].map Value.string) := src_new (w3.alloc (.cells #[.int .u8 (F : Int)] 5)) ([S, G].map Value.string) 9 (w3.heap.size + 1) (by simp) 2 rfl
          have X : Below w3.heap.size w3 ((w3.alloc (.cells #[.int .u8 (F : Int)] 5)).alloc (.cells #[.string S, .string G] 9)) := ((Below.refl _ w3).alloc (Nat.le_refl _) _).alloc (by simp) _
          refine (esc_feed p 0 .z _ 2 2 [S, G] _ (HE3.out.below X) hsr (fun _ => by simp [blk]; omega) (by omega) (by have a := HSZ.out; have b := HGS.out; simp only [sum, List.map_cons, List.map_nil, List.foldr_cons, List.foldr_nil]; omega) (by decide)).mono ?_
          rintro e w4 ⟨A4, n4, c4, rfl, hn4, ha4, he4, hk4⟩
          have HB4 : Hid (Below w.heap.size w w4) := Lib.hid (by
            have hs3 := HB3.out.size
            exact HB3.out.trans ((X.mono hs3).trans (hk4.keep.below (Nat.le_trans hs3 X.size) (fun k hk e => by omega))))
          have HWS4 : Hid (Src w4 none 0 ((wantN xs).map (Value.int .i64))) := Lib.hid ((HWS3.out.1.below X).of_keep hk4.keep (fun i hi e => by have := HWS3.out.2 i hi; omega))
          rw [HFED.out.1] at ha4 hn4
          obtain ⟨g, rfl, hg, hcs⟩ := ha4.cells (by rw [hn4]; simp)
          replace hn4 : n4 = 1 := hn4
          subst hn4
          obtain ⟨⟨A1, d1⟩, hn1, c0⟩ := hcs 0 _ rfl
          have hlr : (wantN xs).length = 0 := by have := HWS4.out.1; rwa [List.length_map] at this
          have d00 : w4.cell? ⟨g, 0, none⟩ = some (.int .i64 4) := c0 0 _ rfl
          have d02 : w4.cell? ⟨g, 2, none⟩ = some (.int .i64 (F : Int)) := c0 2 _ rfl
          have d03 : w4.cell? ⟨g, 3, none⟩ = some (.int .i64 0) := c0 3 _ rfl
          have d04 : w4.cell? ⟨g, 4, none⟩ = some (.slice A1 0 d1) := by rw [← hlr]; exact c0 4 _ rfl
          have d05 : w4.cell? ⟨g, 5, none⟩ = some (.string ⟨#[]⟩) := c0 5 _ rfl
          have HNR : Hid (Src w4 A1 0 ((wantN xs).map (Value.int .i64))) := Lib.hid (by have := own_src1 hn1 (by rw [List.length_map]); rwa [show (eCsi 0 (wantN xs) [] F).nums = wantN xs from rfl, hlr] at this)
          clear ha4 hcs c0 hcv hg he4 hk4 X hsr hn1 hlr
          go_wp2_with fail
          refine (sameI_Ints A1 none 0 d1 0 (wantN xs) _ HNR.out HWS4.out (by have := hr8.out; omega)).mono ?_
          rintro e w5 ⟨rfl, k5, rfl⟩
          go_wp2_with fail
          go_ret
          exact ⟨rfl, HB4.out.os, HB4.out.tape, HB4.out.output, HB4.out.size, HB4.out.block⟩
        · have HW : Hid (Src wr A r ((wantN xs).map (Value.int .i64)) ∧ ∀ i, blk A = some i → i < wr.heap.size) := Lib.hid (by
            have e : wantN xs = (valsN xs 1).take 8 := by
              rw [← HL.out, valsN_all]; exact if_neg (fun x => hx0 (by have := x.2; rwa [HGD.out] at this))
            rw [e]
            exact ⟨(Buf.of_own HR.out.o).src, fun i hi => (HR.out.o.lt i (by rw [ownBlock_slice]; exact hi)).2⟩)
          go_upto_region 24 with fail
          obtain ⟨w3, hw3⟩ : ∃ w3, w3 = wr.alloc (.cells parserCs 37) := ⟨_, rfl⟩
          have HE3 : Hid (EscAt w3 wr.heap.size 0 .z) := Lib.hid (by rw [hw3]; exact esc_new wr)
          have HB3 : Hid (Below w.heap.size w w3) := Lib.hid (by rw [hw3]; exact HR.out.b.alloc HR.out.b.size _)
          have hz3 : w3.heap.size = wr.heap.size + 1 := by rw [hw3]; simp
          have hq : w.heap.size ≤ wr.heap.size := HR.out.b.size
          have HWS3 : Hid (Src w3 A r ((wantN xs).map (Value.int .i64)) ∧ ∀ i, blk A = some i → i < wr.heap.size) := Lib.hid (by rw [hw3]; exact ⟨HW.out.1.below ((Below.refl _ wr).alloc (Nat.le_refl _) _), HW.out.2⟩)
          unfold parserCs at hw3
          rw [← hw3]
          obtain ⟨p, hp⟩ : ∃ p, p = wr.heap.size := ⟨_, rfl⟩
          rw [← hp] at HE3 hz3 hq HWS3
          try rw [← hp]
          have HZ3 := Lib.hid hz3
          have HSK := Lib.hid HR.out.s
          have HSZ := Lib.hid HR.out.z
          have hr8 : Hid (r ≤ 8) := Lib.hid (by have := HR.out.r8; omega)
          clear hw3 hp hz3 HR HW
          have hpl : p < w3.heap.size := by have := HZ3.out; omega
          have hcv := bytes_str (W := w3.alloc (.cells #[.int .u8 (F : Int)] 5)) (P := Try.prog) 48 9 5 [F] #[.int .u8 (F : Int)] w3.heap.size 1 (heap_alloc_new w3 _) rfl (by intro c hc; simp at hc; have := hF1.out; omega) rfl (by unfold maxLen; omega) Try.underlying48 Try.underlying5 Try.underlying9
          obtain ⟨G, hG⟩ : ∃ G, G = bytesN [F] := ⟨_, rfl⟩
          have HG := Lib.hid hG
          rw [← hG] at hcv
          clear hG
          have HFED : Hid ((feedsE .z [S, G]).2 = [eCsi 0 (wantN xs) [] F] ∧ (feedsE .z [S, G]).1.ground = true) := Lib.hid (by
            have hf1 := hF1.out
            have hall : feedP (pAt 0) ([S, G].flatMap natsOf) = (pAt 0, [eCsi 0 (wantN xs) [] F]) := by
              simp only [List.flatMap_cons, List.flatMap_nil, List.append_nil]
              rw [HG.out, natsOf_bytesN _ (by intro x hx; simp at hx; omega), HSK.out, List.append_assoc]
              obtain ⟨q, hq, hn⟩ := numS_all (p := pAt 2) (m := 0) ⟨rfl, rfl, rfl, rfl, .inl ⟨rfl, rfl, .inl rfl⟩⟩ xs _ (Nat.le_of_eq HL.out.symm)
              rw [List.cons_append, List.cons_append, List.nil_append, open_csi, feedP_add, hq]
              simp only
              rw [feedP_one, csi_end q hn.st hn.w F hf1.1 hf1.2, hn.m, hn.i]
              rw [← HL.out] at hn
              rw [hn.want]
              rfl
            have h2 := feed_alikeE ([S, G].flatMap natsOf) AlikeE.z
            rw [hall] at h2
            rw [feedsE_nats]
            exact ⟨h2.2, (AlikeE.at0 h2.1 rfl rfl).1⟩)
          have hGs : G.size = 1 := by rw [HG.out, bytesN_size]; rfl
          have HGS := Lib.hid hGs
          clear hGs
          go_wp2_with fail
          have hsr : Src ((w3.alloc (.cells #[.int .u8 (F : Int)] 5)).alloc (.cells #[.string S, .string G] 9)) (some ⟨w3.heap.size + 1, 0, none⟩) 2 ([S, G].map Value.string) := src_new (w3.alloc (.cells #[.int .u8 (F : Int)] 5)) ([S, G].map Value.string) 9 (w3.heap.size + 1) (by simp) 2 rfl
          have X : Below w3.heap.size w3 ((w3.alloc (.cells #[.int .u8 (F : Int)] 5)).alloc (.cells #[.string S, .string G] 9)) := ((Below.refl _ w3).alloc (Nat.le_refl _) _).alloc (by simp) _
          refine (esc_feed p 0 .z _ 2 2 [S, G] _ (HE3.out.below X) hsr (fun _ => by simp [blk]; omega) (by omega) (by have a := HSZ.out; have b := HGS.out; simp only [sum, List.map_cons, List.map_nil, List.foldr_cons, List.foldr_nil]; omega) (by decide)).mono ?_
          rintro e w4 ⟨A4, n4, c4, rfl, hn4, ha4, he4, hk4⟩
          have HB4 : Hid (Below w.heap.size w w4) := Lib.hid (by
            have hs3 := HB3.out.size
            exact HB3.out.trans ((X.mono hs3).trans (hk4.keep.below (Nat.le_trans hs3 X.size) (fun k hk e => by omega))))
          have HWS4 : Hid (Src w4 A r ((wantN xs).map (Value.int .i64))) := Lib.hid ((HWS3.out.1.below X).of_keep hk4.keep (fun i hi e => by have := HWS3.out.2 i hi; omega))
          rw [HFED.out.1] at ha4 hn4
          obtain ⟨g, rfl, hg, hcs⟩ := ha4.cells (by rw [hn4]; simp)
          replace hn4 : n4 = 1 := hn4
          subst hn4
          obtain ⟨⟨A1, d1⟩, hn1, c0⟩ := hcs 0 _ rfl
          have hlr : (wantN xs).length = r := by have := HWS4.out.1; rwa [List.length_map] at this
          have d00 : w4.cell? ⟨g, 0, none⟩ = some (.int .i64 4) := c0 0 _ rfl
          have d02 : w4.cell? ⟨g, 2, none⟩ = some (.int .i64 (F : Int)) := c0 2 _ rfl
          have d03 : w4.cell? ⟨g, 3, none⟩ = some (.int .i64 0) := c0 3 _ rfl
          have d04 : w4.cell? ⟨g, 4, none⟩ = some (.slice A1 r d1) := by rw [← hlr]; exact c0 4 _ rfl
          have d05 : w4.cell? ⟨g, 5, none⟩ = some (.string ⟨#[]⟩) := c0 5 _ rfl
          have HNR : Hid (Src w4 A1 r ((wantN xs).map (Value.int .i64))) := Lib.hid (by have := own_src1 hn1 (by rw [List.length_map]); rwa [show (eCsi 0 (wantN xs) [] F).nums = wantN xs from rfl, hlr] at this)
          clear ha4 hcs c0 hcv hg he4 hk4 X hsr hn1 hlr
          go_wp2_with fail
          refine (sameI_Ints A1 A r d1 c (wantN xs) _ HNR.out HWS4.out (by have := hr8.out; omega)).mono ?_
          rintro e w5 ⟨rfl, k5, rfl⟩
          go_wp2_with fail
          go_ret
          exact ⟨rfl, HB4.out.os, HB4.out.tape, HB4.out.output, HB4.out.size, HB4.out.block⟩
      · have hk1 : ((k : Int) == 1) = false := by simp; omega
        have HW : Hid (Src wr A r ((wantN xs).map (Value.int .i64)) ∧ ∀ i, blk A = some i → i < wr.heap.size) := Lib.hid (by
          have e : wantN xs = (valsN xs k).take 8 := by
            rw [← HL.out, valsN_all]; exact if_neg (fun x => h1 (HL.out.symm.trans x.1))
          rw [e]
          exact ⟨(Buf.of_own HR.out.o).src, fun i hi => (HR.out.o.lt i (by rw [ownBlock_slice]; exact hi)).2⟩)
        clear h1
        go_upto_region 24 with fail
        obtain ⟨w3, hw3⟩ : ∃ w3, w3 = wr.alloc (.cells parserCs 37) := ⟨_, rfl⟩
        have HE3 : Hid (EscAt w3 wr.heap.size 0 .z) := Lib.hid (by rw [hw3]; exact esc_new wr)
        have HB3 : Hid (Below w.heap.size w w3) := Lib.hid (by rw [hw3]; exact HR.out.b.alloc HR.out.b.size _)
        have hz3 : w3.heap.size = wr.heap.size + 1 := by rw [hw3]; simp
        have hq : w.heap.size ≤ wr.heap.size := HR.out.b.size
        have HWS3 : Hid (Src w3 A r ((wantN xs).map (Value.int .i64)) ∧ ∀ i, blk A = some i → i < wr.heap.size) := Lib.hid (by rw [hw3]; exact ⟨HW.out.1.below ((Below.refl _ wr).alloc (Nat.le_refl _) _), HW.out.2⟩)
        unfold parserCs at hw3
        rw [← hw3]
        obtain ⟨p, hp⟩ : ∃ p, p = wr.heap.size := ⟨_, rfl⟩
        rw [← hp] at HE3 hz3 hq HWS3
        try rw [← hp]
        have HZ3 := Lib.hid hz3
        have HSK := Lib.hid HR.out.s
        have HSZ := Lib.hid HR.out.z
        have hr8 : Hid (r ≤ 8) := Lib.hid (by have := HR.out.r8; omega)
        clear hw3 hp hz3 HR HW
        have hpl : p < w3.heap.size := by have := HZ3.out; omega
        have hcv := bytes_str (W := w3.alloc (.cells #[.int .u8 (F : Int)] 5)) (P := Try.prog) 48 9 5 [F] #[.int .u8 (F : Int)] w3.heap.size 1 (heap_alloc_new w3 _) rfl (by intro c hc; simp at hc; have := hF1.out; omega) rfl (by unfold maxLen; omega) Try.underlying48 Try.underlying5 Try.underlying9
        obtain ⟨G, hG⟩ : ∃ G, G = bytesN [F] := ⟨_, rfl⟩
        have HG := Lib.hid hG
        rw [← hG] at hcv
        clear hG
        have HFED : Hid ((feedsE .z [S, G]).2 = [eCsi 0 (wantN xs) [] F] ∧ (feedsE .z [S, G]).1.ground = true) := Lib.hid (by
          have hf1 := hF1.out
          have hall : feedP (pAt 0) ([S, G].flatMap natsOf) = (pAt 0, [eCsi 0 (wantN xs) [] F]) := by
            simp only [List.flatMap_cons, List.flatMap_nil, List.append_nil]
            rw [HG.out, natsOf_bytesN _ (by intro x hx; simp at hx; omega), HSK.out, List.append_assoc]
            obtain ⟨q, hq, hn⟩ := numS_all (p := pAt 2) (m := 0) ⟨rfl, rfl, rfl, rfl, .inl ⟨rfl, rfl, .inl rfl⟩⟩ xs _ (Nat.le_of_eq HL.out.symm)
            rw [List.cons_append, List.cons_append, List.nil_append, open_csi, feedP_add, hq]
            simp only
            rw [feedP_one, csi_end q hn.st hn.w F hf1.1 hf1.2, hn.m, hn.i]
            rw [← HL.out] at hn
            rw [hn.want]
            rfl
          have h2 := feed_alikeE ([S, G].flatMap natsOf) AlikeE.z
          rw [hall] at h2
          rw [feedsE_nats]
          exact ⟨h2.2, (AlikeE.at0 h2.1 rfl rfl).1⟩)
        have hGs : G.size = 1 := by rw [HG.out, bytesN_size]; rfl
        have HGS := Lib.hid hGs
        clear hGs
        go_wp2_with fail
        have hsr : Src ((w3.alloc (.cells #[.int .u8 (F : Int)] 5)).alloc (.cells #[.string S, .string G] 9)) (some ⟨w3.heap.size + 1, 0, none⟩) 2 ([S, G].map Value.string) := src_new (w3.alloc (.cells #[.int .u8 (F : Int)] 5)) ([S, G].map Value.string) 9 (w3.heap.size + 1) (by simp) 2 rfl
        have X : Below w3.heap.size w3 ((w3.alloc (.cells #[.int .u8 (F : Int)] 5)).alloc (.cells #[.string S, .string G] 9)) := ((Below.refl _ w3).alloc (Nat.le_refl _) _).alloc (by simp) _
        refine (esc_feed p 0 .z _ 2 2 [S, G] _ (HE3.out.below X) hsr (fun _ => by simp [blk]; omega) (by omega) (by have a := HSZ.out; have b := HGS.out; simp only [sum, List.map_cons, List.map_nil, List.foldr_cons, List.foldr_nil]; omega) (by decide)).mono ?_
        rintro e w4 ⟨A4, n4, c4, rfl, hn4, ha4, he4, hk4⟩
        have HB4 : Hid (Below w.heap.size w w4) := Lib.hid (by
          have hs3 := HB3.out.size
          exact HB3.out.trans ((X.mono hs3).trans (hk4.keep.below (Nat.le_trans hs3 X.size) (fun k hk e => by omega))))
        have HWS4 : Hid (Src w4 A r ((wantN xs).map (Value.int .i64))) := Lib.hid ((HWS3.out.1.below X).of_keep hk4.keep (fun i hi e => by have := HWS3.out.2 i hi; omega))
        rw [HFED.out.1] at ha4 hn4
        obtain ⟨g, rfl, hg, hcs⟩ := ha4.cells (by rw [hn4]; simp)
        replace hn4 : n4 = 1 := hn4
        subst hn4
        obtain ⟨⟨A1, d1⟩, hn1, c0⟩ := hcs 0 _ rfl
        have hlr : (wantN xs).length = r := by have := HWS4.out.1; rwa [List.length_map] at this
        have d00 : w4.cell? ⟨g, 0, none⟩ = some (.int .i64 4) := c0 0 _ rfl
        have d02 : w4.cell? ⟨g, 2, none⟩ = some (.int .i64 (F : Int)) := c0 2 _ rfl
        have d03 : w4.cell? ⟨g, 3, none⟩ = some (.int .i64 0) := c0 3 _ rfl
        have d04 : w4.cell? ⟨g, 4, none⟩ = some (.slice A1 r d1) := by rw [← hlr]; exact c0 4 _ rfl
        have d05 : w4.cell? ⟨g, 5, none⟩ = some (.string ⟨#[]⟩) := c0 5 _ rfl
        have HNR : Hid (Src w4 A1 r ((wantN xs).map (Value.int .i64))) := Lib.hid (by have := own_src1 hn1 (by rw [List.length_map]); rwa [show (eCsi 0 (wantN xs) [] F).nums = wantN xs from rfl, hlr] at this)
        clear ha4 hcs c0 hcv hg he4 hk4 X hsr hn1 hlr
        go_wp2_with fail
        refine (sameI_Ints A1 A r d1 c (wantN xs) _ HNR.out HWS4.out (by have := hr8.out; omega)).mono ?_
        rintro e w5 ⟨rfl, k5, rfl⟩
        go_wp2_with fail
        go_ret
        exact ⟨rfl, HB4.out.os, HB4.out.tape, HB4.out.output, HB4.out.size, HB4.out.block⟩

set_option maxRecDepth 100000 in
set_option maxHeartbeats 6400000 in
theorem escNumbers_high (A0 : Option Addr) (n cap : Nat) (xs : List Int) (m f : Int) (w : World) (h : Ints w A0 n xs) (h20 : ¬ (n : Int) > 20) (t2 : Int) (F m2 : Nat) 
    (e3 : f.tmod 63 = t2) (l3 : -63 < t2) (l4 : t2 < 63) (e4 : (t2 + 63) % 63 = (m2 : Int)) (hF : F = 64 + m2) (hm2 : m2 < 63) (h60 : m > 63) :
    Calls Try.prog 5 #[.slice A0 n cap, .int .i64 m, .int .i64 f] w fun e w' => e = .returned (.bool true) ∧ Below w.heap.size w w' := by
  have e6 : (64 : Int) + (m2 : Int) = (F : Int) := by omega
  have e8 : IntKind.u8.wrap (F : Int) = (F : Int) := by rw [u8_of (by omega), toNat_ofNat (by omega)]
  have hF1 : Hid (64 ≤ F ∧ F ≤ 126) := Lib.hid (by omega)
  obtain ⟨i0, hi0, hz0, hz1, hz2⟩ := info_parts int_info
  have HS := Lib.hid (src_ints h)
  have HL := Lib.hid h.1
  clear hF hm2 h
  have hm60 : m ≥ 60 := by omega
  have hm63 : ¬ m ≤ 63 := by omega
  have hm64 : decide (m ≤ 63) = false := by simp; omega
  go_enter Try.func5, Try.ntmps5
  go_wp2_with fail
  refine (alive_any _).mono ?_
  rintro e w1 ⟨rfl, hb⟩
  have HB1 := Lib.hid hb
  clear hb
  go_upto_region 4 with fail
  rw [e4]
  clear e3 e4 e6 l3 l4
  go_upto_region 9 with fail
  clear hm60 hm63 hm64 h60
  go_wp2_with fail
  go_loopw [8, 10, 11] (fun s v i wr => ∃ (k r : Nat) (S : ByteArray) (A : Option Addr) (c : Nat), i = .int .i64 k ∧ k ≤ n ∧ s = .string S ∧ v = .slice A r c ∧ Hid (NumR w [27, 91] xs k r S A c wr)) (fun _ _ i _ => n - (intOf i).toNat)
  case atStart => exact ⟨0, 0, _, none, 0, rfl, Nat.zero_le _, rfl, rfl, Lib.hid ⟨rfl, by simp [natsOf, txtN], by show 2 ≤ _; omega, World.ownsRow_nil _ _ _ _, HB1.out⟩⟩
  case round =>
    obtain ⟨k, r, S, A, c, rfl, hk, rfl, rfl, HR⟩ := hrel
    by_cases hlt : k < n
    · obtain ⟨x, hx⟩ : ∃ x, xs[k]? = some x := ⟨xs[k]'(by rw [HL.out]; exact hlt), List.getElem?_eq_getElem _⟩
      obtain ⟨b, off, rfl, hbl, hcs⟩ := (HS.out.below HR.out.b).2 (by omega)
      have hcx : wr.cell? ⟨b, off + k, none⟩ = some (.int .i64 x) := hcs k _ (by rw [List.getElem?_map, hx]; rfl)
      have HGD : Hid (xs.getD k 0 = x) := Lib.hid (by rw [List.getD_eq_getElem?_getD, hx]; rfl)
      have hkl : Hid (k < xs.length) := Lib.hid (by rw [HL.out]; exact hlt)
      have hki : ((k : Int) < (n : Int)) := by omega
      have hk20 : (k : Int) ≤ 20 := by omega
      have hk0 : (0 : Int) ≤ (k : Int) := by omega
      have hSz : S.size ≤ 200 := by have := HR.out.z; omega
      have HSZ := Lib.hid hSz
      have q59 : S.size + (⟨#[59]⟩ : ByteArray).size ≤ 9223372036854775807 := by show S.size + 1 ≤ _; omega
      clear hcs hx hSz
      rcases Nat.eq_zero_or_pos k with hk00 | hkp
      · subst hk00
        have hcx0 : wr.cell? ⟨b, off, none⟩ = some (.int .i64 x) := hcx
        by_cases hxn : x < 0
        · skip
          have hp0 : ¬ x ≥ 0 := by omega
          have hmx : max x (-1) = -1 := by omega
          have HV : Hid (valN x = -1) := Lib.hid (if_pos (by omega))
          have HPT : Hid (partN 0 x = []) := Lib.hid (by unfold partN digN; rw [if_pos (show x < 0 by omega)]; rfl)
          have O5 := Lib.hid HR.out.o
          have B5 := Lib.hid HR.out.b
          go_wp2_with (at_builtin; refine wpList_own_at _ rfl (.tmp 65) (.tmp 69) 22 rfl w.heap.size 3 i0 (.int .i64 0) 1 8 Try.underlying22 hi0 hz0 hz1 hz2 rfl (by decide) (.slice A r c) r (((valsN xs 0).take 8).map (Value.int .i64)) rfl (O5.out.alloc _) ⟨wr.heap.size, 0, none⟩ 1 1 [.int .i64 (-1)] rfl rfl (cell_one_new _ _ _) ?c2a ?c3a ?c4a ?c5a ?_)
          case c2a => first | rfl | (intro u hu; simp at hu; subst hu; rfl)
          case c3a => have := HR.out.r8; unfold maxLen; omega
          case c4a => have := HR.out.r8; omega
          case c5a => have := B5.out.size; simp; omega
          intro v6 w6 hown6 hk6 hat6
          obtain ⟨A6, c6, rfl, -⟩ := own_form hown6
          have HN6 : Hid (NumR w [27, 91] xs (0 + 1) (r + 1) (S) A6 c6 w6) := Lib.hid (by
            have q1 := HR.out.r8
            refine ⟨by omega, ?_, ?_, ?_, B5.out.trans (((Below.refl _ wr).alloc (Nat.le_refl _) _ |>.mono B5.out.size).trans (hk6.below (by have := B5.out.size; simp; omega) (fun j hj e => by have := (O5.out.lt j e).1; omega)))⟩
            · show natsOf _ = _ ++ (txtN xs 0 ++ partN 0 (xs.getD 0 0))
              rw [HGD.out, HPT.out, ← List.append_assoc, ← HR.out.s]
              try simp only [natsOf_add, List.append_assoc]
              rw [List.append_nil]
            · have := HR.out.z; omega
            · have := valsN_take xs 0 hkl.out (by omega)
              rw [this, HGD.out, HV.out, List.map_append]
              first | exact hown6 | (rw [List.map_take]; exact hown6))
          clear hown6 hk6 hat6
          go_wp2_with fail
          go_roundw
          case rel => exact ⟨0 + 1, r + 1, _, A6, c6, by go_num, by omega, rfl, rfl, HN6⟩
          case measure => simp [intOf]; omega
        · skip
          have hp0 : x ≥ 0 := by omega
          obtain ⟨d, hd⟩ : ∃ d : Nat, x % 100000 = (d : Int) := ⟨(x % 100000).toNat, by omega⟩
          have hd5 : d < 100000 := by omega
          have HDG := Lib.hid (digits_any d hd5)
          obtain ⟨D, hD⟩ : ∃ D, D = bytesN (decN d) := ⟨_, rfl⟩
          have hDs : D.size ≤ 5 := by rw [hD, bytesN_size]; exact decN_len 4 d (by omega)
          have hDn : natsOf D = decN d := by rw [hD]; exact natsOf_bytesN _ (fun c hc => by have := decN_mem d c hc; omega)
          rw [← hD] at HDG
          have HDN := Lib.hid hDn
          have HDS := Lib.hid hDs
          obtain ⟨M, hM⟩ : ∃ M : Nat, min (d : Int) 9999 = (M : Int) := ⟨min d 9999, by omega⟩
          have hmx : max (d : Int) (-1) = (d : Int) := by omega
          have HV : Hid (valN x = (M : Int)) := Lib.hid (by unfold valN; rw [if_neg (by omega), hd, hM])
          have HPT : Hid (partN 0 x = decN d) := Lib.hid (by unfold partN digN; rw [if_neg (show ¬ x < 0 by omega), hd, Int.toNat_natCast]; rfl)
          have hqD : (S).size + D.size ≤ 9223372036854775807 := by have := HSZ.out; omega
          clear hD hDs hDn
          go_wp2_with fail
          refine (HDG.out _).mono ?_
          rintro e w5 ⟨rfl, hb5⟩
          have O5 : Hid (w5.ownsRow w.heap.size 3 1 (.slice A r c) r (((valsN xs 0).take 8).map (Value.int .i64))) := Lib.hid (own_below HR.out.o hb5 (fun i hi => (HR.out.o.lt i hi).2))
          have B5 : Hid (Below w.heap.size w w5) := Lib.hid (HR.out.b.trans (hb5.mono HR.out.b.size))
          clear hb5 HDG
          go_wp2_with (at_builtin; refine wpList_own_at _ rfl (.tmp 65) (.tmp 69) 22 rfl w.heap.size 3 i0 (.int .i64 0) 1 8 Try.underlying22 hi0 hz0 hz1 hz2 rfl (by decide) (.slice A r c) r (((valsN xs 0).take 8).map (Value.int .i64)) rfl (O5.out.alloc _) ⟨w5.heap.size, 0, none⟩ 1 1 [.int .i64 (M : Int)] rfl rfl (cell_one_new _ _ _) ?c2b ?c3b ?c4b ?c5b ?_)
          case c2b => first | rfl | (intro u hu; simp at hu; subst hu; rfl)
          case c3b => have := HR.out.r8; unfold maxLen; omega
          case c4b => have := HR.out.r8; omega
          case c5b => have := B5.out.size; simp; omega
          intro v6 w6 hown6 hk6 hat6
          obtain ⟨A6, c6, rfl, -⟩ := own_form hown6
          have HN6 : Hid (NumR w [27, 91] xs (0 + 1) (r + 1) (S ++ D) A6 c6 w6) := Lib.hid (by
            have q1 := HR.out.r8
            refine ⟨by omega, ?_, ?_, ?_, B5.out.trans (((Below.refl _ w5).alloc (Nat.le_refl _) _ |>.mono B5.out.size).trans (hk6.below (by have := B5.out.size; simp; omega) (fun j hj e => by have := (O5.out.lt j e).1; omega)))⟩
            · show natsOf _ = _ ++ (txtN xs 0 ++ partN 0 (xs.getD 0 0))
              rw [HGD.out, HPT.out, ← List.append_assoc, ← HR.out.s]
              try simp only [natsOf_add, List.append_assoc]
              rw [HDN.out]
            · have := HR.out.z; rw [ByteArray.size_append]; have := HDS.out; omega
            · have := valsN_take xs 0 hkl.out (by omega)
              rw [this, HGD.out, HV.out, List.map_append]
              first | exact hown6 | (rw [List.map_take]; exact hown6))
          clear hown6 hk6 hat6
          go_wp2_with fail
          go_roundw
          case rel => exact ⟨0 + 1, r + 1, _, A6, c6, by go_num, by omega, rfl, rfl, HN6⟩
          case measure => simp [intOf]; omega
      · have hkg : ((k : Int) > 0) := by omega
        by_cases h8 : k < 8
        · by_cases hxn : x < 0
          · skip
            have hp0 : ¬ x ≥ 0 := by omega
            have hmx : max x (-1) = -1 := by omega
            have HV : Hid (valN x = -1) := Lib.hid (if_pos (by omega))
            have HPT : Hid (partN k x = [59]) := Lib.hid (by unfold partN digN; rw [if_pos (show x < 0 by omega), if_pos hkp]; rfl)
            have O5 := Lib.hid HR.out.o
            have B5 := Lib.hid HR.out.b
            clear hkp
            have hk8 : ((k : Int) < 8) := by omega
            go_wp2_with (at_builtin; refine wpList_own_at _ rfl (.tmp 65) (.tmp 69) 22 rfl w.heap.size 3 i0 (.int .i64 0) 1 8 Try.underlying22 hi0 hz0 hz1 hz2 rfl (by decide) (.slice A r c) r (((valsN xs k).take 8).map (Value.int .i64)) rfl (O5.out.alloc _) ⟨wr.heap.size, 0, none⟩ 1 1 [.int .i64 (-1)] rfl rfl (cell_one_new _ _ _) ?c2c ?c3c ?c4c ?c5c ?_)
            case c2c => first | rfl | (intro u hu; simp at hu; subst hu; rfl)
            case c3c => have := HR.out.r8; unfold maxLen; omega
            case c4c => have := HR.out.r8; omega
            case c5c => have := B5.out.size; simp; omega
            intro v6 w6 hown6 hk6 hat6
            obtain ⟨A6, c6, rfl, -⟩ := own_form hown6
            have HN6 : Hid (NumR w [27, 91] xs (k + 1) (r + 1) (S ++ ⟨#[59]⟩) A6 c6 w6) := Lib.hid (by
              have q1 := HR.out.r8
              refine ⟨by omega, ?_, ?_, ?_, B5.out.trans (((Below.refl _ wr).alloc (Nat.le_refl _) _ |>.mono B5.out.size).trans (hk6.below (by have := B5.out.size; simp; omega) (fun j hj e => by have := (O5.out.lt j e).1; omega)))⟩
              · show natsOf _ = _ ++ (txtN xs k ++ partN k (xs.getD k 0))
                rw [HGD.out, HPT.out, ← List.append_assoc, ← HR.out.s]
                try simp only [natsOf_add, List.append_assoc]
                rfl
              · have := HR.out.z; rw [ByteArray.size_append]; show S.size + 1 ≤ _; omega
              · have := valsN_take xs k hkl.out (by omega)
                rw [this, HGD.out, HV.out, List.map_append]
                first | exact hown6 | (rw [List.map_take]; exact hown6))
            clear hown6 hk6 hat6
            go_wp2_with fail
            go_roundw
            case rel => exact ⟨k + 1, r + 1, _, A6, c6, by go_num, by omega, rfl, rfl, HN6⟩
            case measure => simp [intOf]; omega
          · skip
            have hp0 : x ≥ 0 := by omega
            obtain ⟨d, hd⟩ : ∃ d : Nat, x % 100000 = (d : Int) := ⟨(x % 100000).toNat, by omega⟩
            have hd5 : d < 100000 := by omega
            have HDG := Lib.hid (digits_any d hd5)
            obtain ⟨D, hD⟩ : ∃ D, D = bytesN (decN d) := ⟨_, rfl⟩
            have hDs : D.size ≤ 5 := by rw [hD, bytesN_size]; exact decN_len 4 d (by omega)
            have hDn : natsOf D = decN d := by rw [hD]; exact natsOf_bytesN _ (fun c hc => by have := decN_mem d c hc; omega)
            rw [← hD] at HDG
            have HDN := Lib.hid hDn
            have HDS := Lib.hid hDs
            obtain ⟨M, hM⟩ : ∃ M : Nat, min (d : Int) 9999 = (M : Int) := ⟨min d 9999, by omega⟩
            have hmx : max (d : Int) (-1) = (d : Int) := by omega
            have HV : Hid (valN x = (M : Int)) := Lib.hid (by unfold valN; rw [if_neg (by omega), hd, hM])
            have HPT : Hid (partN k x = [59] ++ decN d) := Lib.hid (by unfold partN digN; rw [if_neg (show ¬ x < 0 by omega), hd, Int.toNat_natCast, if_pos hkp])
            have hqD : (S ++ ⟨#[59]⟩).size + D.size ≤ 9223372036854775807 := by have := HSZ.out; rw [ByteArray.size_append]; show S.size + 1 + D.size ≤ _; omega
            clear hD hDs hDn hkp
            go_wp2_with fail
            refine (HDG.out _).mono ?_
            rintro e w5 ⟨rfl, hb5⟩
            have O5 : Hid (w5.ownsRow w.heap.size 3 1 (.slice A r c) r (((valsN xs k).take 8).map (Value.int .i64))) := Lib.hid (own_below HR.out.o hb5 (fun i hi => (HR.out.o.lt i hi).2))
            have B5 : Hid (Below w.heap.size w w5) := Lib.hid (HR.out.b.trans (hb5.mono HR.out.b.size))
            clear hb5 HDG
            have hk8 : ((k : Int) < 8) := by omega
            go_wp2_with (at_builtin; refine wpList_own_at _ rfl (.tmp 65) (.tmp 69) 22 rfl w.heap.size 3 i0 (.int .i64 0) 1 8 Try.underlying22 hi0 hz0 hz1 hz2 rfl (by decide) (.slice A r c) r (((valsN xs k).take 8).map (Value.int .i64)) rfl (O5.out.alloc _) ⟨w5.heap.size, 0, none⟩ 1 1 [.int .i64 (M : Int)] rfl rfl (cell_one_new _ _ _) ?c2d ?c3d ?c4d ?c5d ?_)
            case c2d => first | rfl | (intro u hu; simp at hu; subst hu; rfl)
            case c3d => have := HR.out.r8; unfold maxLen; omega
            case c4d => have := HR.out.r8; omega
            case c5d => have := B5.out.size; simp; omega
            intro v6 w6 hown6 hk6 hat6
            obtain ⟨A6, c6, rfl, -⟩ := own_form hown6
            have HN6 : Hid (NumR w [27, 91] xs (k + 1) (r + 1) (S ++ ⟨#[59]⟩ ++ D) A6 c6 w6) := Lib.hid (by
              have q1 := HR.out.r8
              refine ⟨by omega, ?_, ?_, ?_, B5.out.trans (((Below.refl _ w5).alloc (Nat.le_refl _) _ |>.mono B5.out.size).trans (hk6.below (by have := B5.out.size; simp; omega) (fun j hj e => by have := (O5.out.lt j e).1; omega)))⟩
              · show natsOf _ = _ ++ (txtN xs k ++ partN k (xs.getD k 0))
                rw [HGD.out, HPT.out, ← List.append_assoc, ← HR.out.s]
                try simp only [natsOf_add, List.append_assoc]
                rw [HDN.out]; rfl
              · have := HR.out.z; rw [ByteArray.size_append, ByteArray.size_append]; have := HDS.out; show S.size + 1 + D.size ≤ _; omega
              · have := valsN_take xs k hkl.out (by omega)
                rw [this, HGD.out, HV.out, List.map_append]
                first | exact hown6 | (rw [List.map_take]; exact hown6))
            clear hown6 hk6 hat6
            go_wp2_with fail
            go_roundw
            case rel => exact ⟨k + 1, r + 1, _, A6, c6, by go_num, by omega, rfl, rfl, HN6⟩
            case measure => simp [intOf]; omega
        · by_cases hxn : x < 0
          · skip
            have hp0 : ¬ x ≥ 0 := by omega
            have hmx : max x (-1) = -1 := by omega
            have HV : Hid (valN x = -1) := Lib.hid (if_pos (by omega))
            have HPT : Hid (partN k x = [59]) := Lib.hid (by unfold partN digN; rw [if_pos (show x < 0 by omega), if_pos hkp]; rfl)
            have O5 := Lib.hid HR.out.o
            have B5 := Lib.hid HR.out.b
            clear hkp
            have hk8 : ¬ ((k : Int) < 8) := by omega
            have HN6 : Hid (NumR w [27, 91] xs (k + 1) r (S ++ ⟨#[59]⟩) A c wr) := Lib.hid (by
              have q1 := HR.out.r8
              refine ⟨by omega, ?_, ?_, ?_, B5.out⟩
              · show natsOf _ = _ ++ (txtN xs k ++ partN k (xs.getD k 0))
                rw [HGD.out, HPT.out, ← List.append_assoc, ← HR.out.s]
                try simp only [natsOf_add, List.append_assoc]
                rfl
              · have := HR.out.z; rw [ByteArray.size_append]; show S.size + 1 ≤ _; omega
              · rw [valsN_take8 xs k hkl.out (by omega)]
                exact O5.out)
            go_wp2_with fail
            go_roundw
            case rel => exact ⟨k + 1, r, _, A, c, by go_num, by omega, rfl, rfl, HN6⟩
            case measure => simp [intOf]; omega
          · skip
            have hp0 : x ≥ 0 := by omega
            obtain ⟨d, hd⟩ : ∃ d : Nat, x % 100000 = (d : Int) := ⟨(x % 100000).toNat, by omega⟩
            have hd5 : d < 100000 := by omega
            have HDG := Lib.hid (digits_any d hd5)
            obtain ⟨D, hD⟩ : ∃ D, D = bytesN (decN d) := ⟨_, rfl⟩
            have hDs : D.size ≤ 5 := by rw [hD, bytesN_size]; exact decN_len 4 d (by omega)
            have hDn : natsOf D = decN d := by rw [hD]; exact natsOf_bytesN _ (fun c hc => by have := decN_mem d c hc; omega)
            rw [← hD] at HDG
            have HDN := Lib.hid hDn
            have HDS := Lib.hid hDs
            obtain ⟨M, hM⟩ : ∃ M : Nat, min (d : Int) 9999 = (M : Int) := ⟨min d 9999, by omega⟩
            have hmx : max (d : Int) (-1) = (d : Int) := by omega
            have HV : Hid (valN x = (M : Int)) := Lib.hid (by unfold valN; rw [if_neg (by omega), hd, hM])
            have HPT : Hid (partN k x = [59] ++ decN d) := Lib.hid (by unfold partN digN; rw [if_neg (show ¬ x < 0 by omega), hd, Int.toNat_natCast, if_pos hkp])
            have hqD : (S ++ ⟨#[59]⟩).size + D.size ≤ 9223372036854775807 := by have := HSZ.out; rw [ByteArray.size_append]; show S.size + 1 + D.size ≤ _; omega
            clear hD hDs hDn hkp
            go_wp2_with fail
            refine (HDG.out _).mono ?_
            rintro e w5 ⟨rfl, hb5⟩
            have O5 : Hid (w5.ownsRow w.heap.size 3 1 (.slice A r c) r (((valsN xs k).take 8).map (Value.int .i64))) := Lib.hid (own_below HR.out.o hb5 (fun i hi => (HR.out.o.lt i hi).2))
            have B5 : Hid (Below w.heap.size w w5) := Lib.hid (HR.out.b.trans (hb5.mono HR.out.b.size))
            clear hb5 HDG
            have hk8 : ¬ ((k : Int) < 8) := by omega
            have HN6 : Hid (NumR w [27, 91] xs (k + 1) r (S ++ ⟨#[59]⟩ ++ D) A c w5) := Lib.hid (by
              have q1 := HR.out.r8
              refine ⟨by omega, ?_, ?_, ?_, B5.out⟩
              · show natsOf _ = _ ++ (txtN xs k ++ partN k (xs.getD k 0))
                rw [HGD.out, HPT.out, ← List.append_assoc, ← HR.out.s]
                try simp only [natsOf_add, List.append_assoc]
                rw [HDN.out]; rfl
              · have := HR.out.z; rw [ByteArray.size_append, ByteArray.size_append]; have := HDS.out; show S.size + 1 + D.size ≤ _; omega
              · rw [valsN_take8 xs k hkl.out (by omega)]
                exact O5.out)
            go_wp2_with fail
            go_roundw
            case rel => exact ⟨k + 1, r, _, A, c, by go_num, by omega, rfl, rfl, HN6⟩
            case measure => simp [intOf]; omega
    · have hkn : k = n := by omega
      subst hkn
      clear hlt hk
      by_cases h1 : k = 1
      · subst h1
        obtain ⟨x, hx⟩ : ∃ x, xs[0]? = some x := ⟨xs[0]'(by rw [HL.out]; omega), List.getElem?_eq_getElem _⟩
        obtain ⟨b, off, rfl, hbl, hcs⟩ := (HS.out.below HR.out.b).2 (by omega)
        have hcx : wr.cell? ⟨b, off, none⟩ = some (.int .i64 x) := hcs 0 _ (by rw [List.getElem?_map, hx]; rfl)
        have HGD : Hid (xs.getD 0 0 = x) := Lib.hid (by rw [List.getD_eq_getElem?_getD, hx]; rfl)
        clear hcs hx
        by_cases hx0 : x < 0
        · have HW : Hid (Src wr none 0 ((wantN xs).map (Value.int .i64)) ∧ ∀ i, blk none = some i → i < wr.heap.size) := Lib.hid (by
            have e : wantN xs = [] := if_pos ⟨HL.out, by rw [HGD.out]; exact hx0⟩
            rw [e]
            exact ⟨⟨rfl, fun h => absurd h (by omega)⟩, fun i hi => by simp [blk] at hi⟩)
          go_upto_region 24 with fail
          obtain ⟨w3, hw3⟩ : ∃ w3, w3 = wr.alloc (.cells parserCs 37) := ⟨_, rfl⟩
          have HE3 : Hid (EscAt w3 wr.heap.size 0 .z) := Lib.hid (by rw [hw3]; exact esc_new wr)
          have HB3 : Hid (Below w.heap.size w w3) := Lib.hid (by rw [hw3]; exact HR.out.b.alloc HR.out.b.size _)
          have hz3 : w3.heap.size = wr.heap.size + 1 := by rw [hw3]; simp
          have hq : w.heap.size ≤ wr.heap.size := HR.out.b.size
          have HWS3 : Hid (Src w3 none 0 ((wantN xs).map (Value.int .i64)) ∧ ∀ i, blk none = some i → i < wr.heap.size) := Lib.hid (by rw [hw3]; exact ⟨HW.out.1.below ((Below.refl _ wr).alloc (Nat.le_refl _) _), HW.out.2⟩)
          unfold parserCs at hw3
          rw [← hw3]
          obtain ⟨p, hp⟩ : ∃ p, p = wr.heap.size := ⟨_, rfl⟩
          rw [← hp] at HE3 hz3 hq HWS3
          try rw [← hp]
          have HZ3 := Lib.hid hz3
          have HSK := Lib.hid HR.out.s
          have HSZ := Lib.hid HR.out.z
          have hr8 : Hid (0 ≤ 8) := Lib.hid (by omega)
          clear hw3 hp hz3 HR HW
          have hpl : p < w3.heap.size := by have := HZ3.out; omega
          have hcv := bytes_str (W := w3.alloc (.cells #[.int .u8 (F : Int)] 5)) (P := Try.prog) 48 9 5 [F] #[.int .u8 (F : Int)] w3.heap.size 1 (heap_alloc_new w3 _) rfl (by intro c hc; simp at hc; have := hF1.out; omega) rfl (by unfold maxLen; omega) Try.underlying48 Try.underlying5 Try.underlying9
          obtain ⟨G, hG⟩ : ∃ G, G = bytesN [F] := ⟨_, rfl⟩
          have HG := Lib.hid hG
          rw [← hG] at hcv
          clear hG
          have HFED : Hid ((feedsE .z [S, G]).2 = [eCsi 0 (wantN xs) [] F] ∧ (feedsE .z [S, G]).1.ground = true) := Lib.hid (by
            have hf1 := hF1.out
            have hall : feedP (pAt 0) ([S, G].flatMap natsOf) = (pAt 0, [eCsi 0 (wantN xs) [] F]) := by
              simp only [List.flatMap_cons, List.flatMap_nil, List.append_nil]
              rw [HG.out, natsOf_bytesN _ (by intro x hx; simp at hx; omega), HSK.out, List.append_assoc]
              obtain ⟨q, hq, hn⟩ := numS_all (p := pAt 2) (m := 0) ⟨rfl, rfl, rfl, rfl, .inl ⟨rfl, rfl, .inl rfl⟩⟩ xs _ (Nat.le_of_eq HL.out.symm)
              rw [List.cons_append, List.cons_append, List.nil_append, open_csi, feedP_add, hq]
              simp only
              rw [feedP_one, csi_end q hn.st hn.w F hf1.1 hf1.2, hn.m, hn.i]
              rw [← HL.out] at hn
              rw [hn.want]
              rfl
            have h2 := feed_alikeE ([S, G].flatMap natsOf) AlikeE.z
            rw [hall] at h2
            rw [feedsE_nats]
            exact ⟨h2.2, (AlikeE.at0 h2.1 rfl rfl).1⟩)
          have hGs : G.size = 1 := by rw [HG.out, bytesN_size]; rfl
          have HGS := Lib.hid hGs
          clear hGs
          go_wp2_with fail
          have hsr : Src ((w3.alloc (.cells #[.int .u8 (F : Int)] 5)).alloc (.cells #[.string S, .string G] 9)) (some ⟨w3.heap.size + 1, 0, none⟩) 2 ([S, G].map Value.string) := src_new (w3.alloc (.cells #[.int .u8 (F : Int)] 5)) ([S, G].map Value.string) 9 (w3.heap.size + 1) (by simp) 2 rfl
          have X : Below w3.heap.size w3 ((w3.alloc (.cells #[.int .u8 (F : Int)] 5)).alloc (.cells #[.string S, .string G] 9)) := ((Below.refl _ w3).alloc (Nat.le_refl _) _).alloc (by simp) _
          refine (esc_feed p 0 .z _ 2 2 [S, G] _ (HE3.out.below X) hsr (fun _ => by simp [blk]; omega) (by omega) (by have a := HSZ.out; have b := HGS.out; simp only [sum, List.map_cons, List.map_nil, List.foldr_cons, List.foldr_nil]; omega) (by decide)).mono ?_
          rintro e w4 ⟨A4, n4, c4, rfl, hn4, ha4, he4, hk4⟩
          have HB4 : Hid (Below w.heap.size w w4) := Lib.hid (by
            have hs3 := HB3.out.size
            exact HB3.out.trans ((X.mono hs3).trans (hk4.keep.below (Nat.le_trans hs3 X.size) (fun k hk e => by omega))))
          have HWS4 : Hid (Src w4 none 0 ((wantN xs).map (Value.int .i64))) := Lib.hid ((HWS3.out.1.below X).of_keep hk4.keep (fun i hi e => by have := HWS3.out.2 i hi; omega))
          rw [HFED.out.1] at ha4 hn4
          obtain ⟨g, rfl, hg, hcs⟩ := ha4.cells (by rw [hn4]; simp)
          replace hn4 : n4 = 1 := hn4
          subst hn4
          obtain ⟨⟨A1, d1⟩, hn1, c0⟩ := hcs 0 _ rfl
          have hlr : (wantN xs).length = 0 := by have := HWS4.out.1; rwa [List.length_map] at this
          have d00 : w4.cell? ⟨g, 0, none⟩ = some (.int .i64 4) := c0 0 _ rfl
          have d02 : w4.cell? ⟨g, 2, none⟩ = some (.int .i64 (F : Int)) := c0 2 _ rfl
          have d03 : w4.cell? ⟨g, 3, none⟩ = some (.int .i64 0) := c0 3 _ rfl
          have d04 : w4.cell? ⟨g, 4, none⟩ = some (.slice A1 0 d1) := by rw [← hlr]; exact c0 4 _ rfl
          have d05 : w4.cell? ⟨g, 5, none⟩ = some (.string ⟨#[]⟩) := c0 5 _ rfl
          have HNR : Hid (Src w4 A1 0 ((wantN xs).map (Value.int .i64))) := Lib.hid (by have := own_src1 hn1 (by rw [List.length_map]); rwa [show (eCsi 0 (wantN xs) [] F).nums = wantN xs from rfl, hlr] at this)
          clear ha4 hcs c0 hcv hg he4 hk4 X hsr hn1 hlr
          go_wp2_with fail
          refine (sameI_Ints A1 none 0 d1 0 (wantN xs) _ HNR.out HWS4.out (by have := hr8.out; omega)).mono ?_
          rintro e w5 ⟨rfl, k5, rfl⟩
          go_wp2_with fail
          go_ret
          exact ⟨rfl, HB4.out.os, HB4.out.tape, HB4.out.output, HB4.out.size, HB4.out.block⟩
        · have HW : Hid (Src wr A r ((wantN xs).map (Value.int .i64)) ∧ ∀ i, blk A = some i → i < wr.heap.size) := Lib.hid (by
            have e : wantN xs = (valsN xs 1).take 8 := by
              rw [← HL.out, valsN_all]; exact if_neg (fun x => hx0 (by have := x.2; rwa [HGD.out] at this))
            rw [e]
            exact ⟨(Buf.of_own HR.out.o).src, fun i hi => (HR.out.o.lt i (by rw [ownBlock_slice]; exact hi)).2⟩)
          go_upto_region 24 with fail
          obtain ⟨w3, hw3⟩ : ∃ w3, w3 = wr.alloc (.cells parserCs 37) := ⟨_, rfl⟩
          have HE3 : Hid (EscAt w3 wr.heap.size 0 .z) := Lib.hid (by rw [hw3]; exact esc_new wr)
          have HB3 : Hid (Below w.heap.size w w3) := Lib.hid (by rw [hw3]; exact HR.out.b.alloc HR.out.b.size _)
          have hz3 : w3.heap.size = wr.heap.size + 1 := by rw [hw3]; simp
          have hq : w.heap.size ≤ wr.heap.size := HR.out.b.size
          have HWS3 : Hid (Src w3 A r ((wantN xs).map (Value.int .i64)) ∧ ∀ i, blk A = some i → i < wr.heap.size) := Lib.hid (by rw [hw3]; exact ⟨HW.out.1.below ((Below.refl _ wr).alloc (Nat.le_refl _) _), HW.out.2⟩)
          unfold parserCs at hw3
          rw [← hw3]
          obtain ⟨p, hp⟩ : ∃ p, p = wr.heap.size := ⟨_, rfl⟩
          rw [← hp] at HE3 hz3 hq HWS3
          try rw [← hp]
          have HZ3 := Lib.hid hz3
          have HSK := Lib.hid HR.out.s
          have HSZ := Lib.hid HR.out.z
          have hr8 : Hid (r ≤ 8) := Lib.hid (by have := HR.out.r8; omega)
          clear hw3 hp hz3 HR HW
          have hpl : p < w3.heap.size := by have := HZ3.out; omega
          have hcv := bytes_str (W := w3.alloc (.cells #[.int .u8 (F : Int)] 5)) (P := Try.prog) 48 9 5 [F] #[.int .u8 (F : Int)] w3.heap.size 1 (heap_alloc_new w3 _) rfl (by intro c hc; simp at hc; have := hF1.out; omega) rfl (by unfold maxLen; omega) Try.underlying48 Try.underlying5 Try.underlying9
          obtain ⟨G, hG⟩ : ∃ G, G = bytesN [F] := ⟨_, rfl⟩
          have HG := Lib.hid hG
          rw [← hG] at hcv
          clear hG
          have HFED : Hid ((feedsE .z [S, G]).2 = [eCsi 0 (wantN xs) [] F] ∧ (feedsE .z [S, G]).1.ground = true) := Lib.hid (by
            have hf1 := hF1.out
            have hall : feedP (pAt 0) ([S, G].flatMap natsOf) = (pAt 0, [eCsi 0 (wantN xs) [] F]) := by
              simp only [List.flatMap_cons, List.flatMap_nil, List.append_nil]
              rw [HG.out, natsOf_bytesN _ (by intro x hx; simp at hx; omega), HSK.out, List.append_assoc]
              obtain ⟨q, hq, hn⟩ := numS_all (p := pAt 2) (m := 0) ⟨rfl, rfl, rfl, rfl, .inl ⟨rfl, rfl, .inl rfl⟩⟩ xs _ (Nat.le_of_eq HL.out.symm)
              rw [List.cons_append, List.cons_append, List.nil_append, open_csi, feedP_add, hq]
              simp only
              rw [feedP_one, csi_end q hn.st hn.w F hf1.1 hf1.2, hn.m, hn.i]
              rw [← HL.out] at hn
              rw [hn.want]
              rfl
            have h2 := feed_alikeE ([S, G].flatMap natsOf) AlikeE.z
            rw [hall] at h2
            rw [feedsE_nats]
            exact ⟨h2.2, (AlikeE.at0 h2.1 rfl rfl).1⟩)
          have hGs : G.size = 1 := by rw [HG.out, bytesN_size]; rfl
          have HGS := Lib.hid hGs
          clear hGs
          go_wp2_with fail
          have hsr : Src ((w3.alloc (.cells #[.int .u8 (F : Int)] 5)).alloc (.cells #[.string S, .string G] 9)) (some ⟨w3.heap.size + 1, 0, none⟩) 2 ([S, G].map Value.string) := src_new (w3.alloc (.cells #[.int .u8 (F : Int)] 5)) ([S, G].map Value.string) 9 (w3.heap.size + 1) (by simp) 2 rfl
          have X : Below w3.heap.size w3 ((w3.alloc (.cells #[.int .u8 (F : Int)] 5)).alloc (.cells #[.string S, .string G] 9)) := ((Below.refl _ w3).alloc (Nat.le_refl _) _).alloc (by simp) _
          refine (esc_feed p 0 .z _ 2 2 [S, G] _ (HE3.out.below X) hsr (fun _ => by simp [blk]; omega) (by omega) (by have a := HSZ.out; have b := HGS.out; simp only [sum, List.map_cons, List.map_nil, List.foldr_cons, List.foldr_nil]; omega) (by decide)).mono ?_
          rintro e w4 ⟨A4, n4, c4, rfl, hn4, ha4, he4, hk4⟩
          have HB4 : Hid (Below w.heap.size w w4) := Lib.hid (by
            have hs3 := HB3.out.size
            exact HB3.out.trans ((X.mono hs3).trans (hk4.keep.below (Nat.le_trans hs3 X.size) (fun k hk e => by omega))))
          have HWS4 : Hid (Src w4 A r ((wantN xs).map (Value.int .i64))) := Lib.hid ((HWS3.out.1.below X).of_keep hk4.keep (fun i hi e => by have := HWS3.out.2 i hi; omega))
          rw [HFED.out.1] at ha4 hn4
          obtain ⟨g, rfl, hg, hcs⟩ := ha4.cells (by rw [hn4]; simp)
          replace hn4 : n4 = 1 := hn4
          subst hn4
          obtain ⟨⟨A1, d1⟩, hn1, c0⟩ := hcs 0 _ rfl
          have hlr : (wantN xs).length = r := by have := HWS4.out.1; rwa [List.length_map] at this
          have d00 : w4.cell? ⟨g, 0, none⟩ = some (.int .i64 4) := c0 0 _ rfl
          have d02 : w4.cell? ⟨g, 2, none⟩ = some (.int .i64 (F : Int)) := c0 2 _ rfl
          have d03 : w4.cell? ⟨g, 3, none⟩ = some (.int .i64 0) := c0 3 _ rfl
          have d04 : w4.cell? ⟨g, 4, none⟩ = some (.slice A1 r d1) := by rw [← hlr]; exact c0 4 _ rfl
          have d05 : w4.cell? ⟨g, 5, none⟩ = some (.string ⟨#[]⟩) := c0 5 _ rfl
          have HNR : Hid (Src w4 A1 r ((wantN xs).map (Value.int .i64))) := Lib.hid (by have := own_src1 hn1 (by rw [List.length_map]); rwa [show (eCsi 0 (wantN xs) [] F).nums = wantN xs from rfl, hlr] at this)
          clear ha4 hcs c0 hcv hg he4 hk4 X hsr hn1 hlr
          go_wp2_with fail
          refine (sameI_Ints A1 A r d1 c (wantN xs) _ HNR.out HWS4.out (by have := hr8.out; omega)).mono ?_
          rintro e w5 ⟨rfl, k5, rfl⟩
          go_wp2_with fail
          go_ret
          exact ⟨rfl, HB4.out.os, HB4.out.tape, HB4.out.output, HB4.out.size, HB4.out.block⟩
      · have hk1 : ((k : Int) == 1) = false := by simp; omega
        have HW : Hid (Src wr A r ((wantN xs).map (Value.int .i64)) ∧ ∀ i, blk A = some i → i < wr.heap.size) := Lib.hid (by
          have e : wantN xs = (valsN xs k).take 8 := by
            rw [← HL.out, valsN_all]; exact if_neg (fun x => h1 (HL.out.symm.trans x.1))
          rw [e]
          exact ⟨(Buf.of_own HR.out.o).src, fun i hi => (HR.out.o.lt i (by rw [ownBlock_slice]; exact hi)).2⟩)
        clear h1
        go_upto_region 24 with fail
        obtain ⟨w3, hw3⟩ : ∃ w3, w3 = wr.alloc (.cells parserCs 37) := ⟨_, rfl⟩
        have HE3 : Hid (EscAt w3 wr.heap.size 0 .z) := Lib.hid (by rw [hw3]; exact esc_new wr)
        have HB3 : Hid (Below w.heap.size w w3) := Lib.hid (by rw [hw3]; exact HR.out.b.alloc HR.out.b.size _)
        have hz3 : w3.heap.size = wr.heap.size + 1 := by rw [hw3]; simp
        have hq : w.heap.size ≤ wr.heap.size := HR.out.b.size
        have HWS3 : Hid (Src w3 A r ((wantN xs).map (Value.int .i64)) ∧ ∀ i, blk A = some i → i < wr.heap.size) := Lib.hid (by rw [hw3]; exact ⟨HW.out.1.below ((Below.refl _ wr).alloc (Nat.le_refl _) _), HW.out.2⟩)
        unfold parserCs at hw3
        rw [← hw3]
        obtain ⟨p, hp⟩ : ∃ p, p = wr.heap.size := ⟨_, rfl⟩
        rw [← hp] at HE3 hz3 hq HWS3
        try rw [← hp]
        have HZ3 := Lib.hid hz3
        have HSK := Lib.hid HR.out.s
        have HSZ := Lib.hid HR.out.z
        have hr8 : Hid (r ≤ 8) := Lib.hid (by have := HR.out.r8; omega)
        clear hw3 hp hz3 HR HW
        have hpl : p < w3.heap.size := by have := HZ3.out; omega
        have hcv := bytes_str (W := w3.alloc (.cells #[.int .u8 (F : Int)] 5)) (P := Try.prog) 48 9 5 [F] #[.int .u8 (F : Int)] w3.heap.size 1 (heap_alloc_new w3 _) rfl (by intro c hc; simp at hc; have := hF1.out; omega) rfl (by unfold maxLen; omega) Try.underlying48 Try.underlying5 Try.underlying9
        obtain ⟨G, hG⟩ : ∃ G, G = bytesN [F] := ⟨_, rfl⟩
        have HG := Lib.hid hG
        rw [← hG] at hcv
        clear hG
        have HFED : Hid ((feedsE .z [S, G]).2 = [eCsi 0 (wantN xs) [] F] ∧ (feedsE .z [S, G]).1.ground = true) := Lib.hid (by
          have hf1 := hF1.out
          have hall : feedP (pAt 0) ([S, G].flatMap natsOf) = (pAt 0, [eCsi 0 (wantN xs) [] F]) := by
            simp only [List.flatMap_cons, List.flatMap_nil, List.append_nil]
            rw [HG.out, natsOf_bytesN _ (by intro x hx; simp at hx; omega), HSK.out, List.append_assoc]
            obtain ⟨q, hq, hn⟩ := numS_all (p := pAt 2) (m := 0) ⟨rfl, rfl, rfl, rfl, .inl ⟨rfl, rfl, .inl rfl⟩⟩ xs _ (Nat.le_of_eq HL.out.symm)
            rw [List.cons_append, List.cons_append, List.nil_append, open_csi, feedP_add, hq]
            simp only
            rw [feedP_one, csi_end q hn.st hn.w F hf1.1 hf1.2, hn.m, hn.i]
            rw [← HL.out] at hn
            rw [hn.want]
            rfl
          have h2 := feed_alikeE ([S, G].flatMap natsOf) AlikeE.z
          rw [hall] at h2
          rw [feedsE_nats]
          exact ⟨h2.2, (AlikeE.at0 h2.1 rfl rfl).1⟩)
        have hGs : G.size = 1 := by rw [HG.out, bytesN_size]; rfl
        have HGS := Lib.hid hGs
        clear hGs
        go_wp2_with fail
        have hsr : Src ((w3.alloc (.cells #[.int .u8 (F : Int)] 5)).alloc (.cells #[.string S, .string G] 9)) (some ⟨w3.heap.size + 1, 0, none⟩) 2 ([S, G].map Value.string) := src_new (w3.alloc (.cells #[.int .u8 (F : Int)] 5)) ([S, G].map Value.string) 9 (w3.heap.size + 1) (by simp) 2 rfl
        have X : Below w3.heap.size w3 ((w3.alloc (.cells #[.int .u8 (F : Int)] 5)).alloc (.cells #[.string S, .string G] 9)) := ((Below.refl _ w3).alloc (Nat.le_refl _) _).alloc (by simp) _
        refine (esc_feed p 0 .z _ 2 2 [S, G] _ (HE3.out.below X) hsr (fun _ => by simp [blk]; omega) (by omega) (by have a := HSZ.out; have b := HGS.out; simp only [sum, List.map_cons, List.map_nil, List.foldr_cons, List.foldr_nil]; omega) (by decide)).mono ?_
        rintro e w4 ⟨A4, n4, c4, rfl, hn4, ha4, he4, hk4⟩
        have HB4 : Hid (Below w.heap.size w w4) := Lib.hid (by
          have hs3 := HB3.out.size
          exact HB3.out.trans ((X.mono hs3).trans (hk4.keep.below (Nat.le_trans hs3 X.size) (fun k hk e => by omega))))
        have HWS4 : Hid (Src w4 A r ((wantN xs).map (Value.int .i64))) := Lib.hid ((HWS3.out.1.below X).of_keep hk4.keep (fun i hi e => by have := HWS3.out.2 i hi; omega))
        rw [HFED.out.1] at ha4 hn4
        obtain ⟨g, rfl, hg, hcs⟩ := ha4.cells (by rw [hn4]; simp)
        replace hn4 : n4 = 1 := hn4
        subst hn4
        obtain ⟨⟨A1, d1⟩, hn1, c0⟩ := hcs 0 _ rfl
        have hlr : (wantN xs).length = r := by have := HWS4.out.1; rwa [List.length_map] at this
        have d00 : w4.cell? ⟨g, 0, none⟩ = some (.int .i64 4) := c0 0 _ rfl
        have d02 : w4.cell? ⟨g, 2, none⟩ = some (.int .i64 (F : Int)) := c0 2 _ rfl
        have d03 : w4.cell? ⟨g, 3, none⟩ = some (.int .i64 0) := c0 3 _ rfl
        have d04 : w4.cell? ⟨g, 4, none⟩ = some (.slice A1 r d1) := by rw [← hlr]; exact c0 4 _ rfl
        have d05 : w4.cell? ⟨g, 5, none⟩ = some (.string ⟨#[]⟩) := c0 5 _ rfl
        have HNR : Hid (Src w4 A1 r ((wantN xs).map (Value.int .i64))) := Lib.hid (by have := own_src1 hn1 (by rw [List.length_map]); rwa [show (eCsi 0 (wantN xs) [] F).nums = wantN xs from rfl, hlr] at this)
        clear ha4 hcs c0 hcv hg he4 hk4 X hsr hn1 hlr
        go_wp2_with fail
        refine (sameI_Ints A1 A r d1 c (wantN xs) _ HNR.out HWS4.out (by have := hr8.out; omega)).mono ?_
        rintro e w5 ⟨rfl, k5, rfl⟩
        go_wp2_with fail
        go_ret
        exact ⟨rfl, HB4.out.os, HB4.out.tape, HB4.out.output, HB4.out.size, HB4.out.block⟩

theorem open_mark (Q : Nat) (h1 : 60 ≤ Q) (h2 : Q ≤ 63) (l : List Nat) : feedP (pAt 0) (27 :: 91 :: Q :: l) = feedP { pAt 2 with first := false, mark := Q } l := by
  rw [open_csi, feedP_cons, byteP_csi (pAt 2) rfl Q (by omega) (by omega)]
  unfold csiP
  rw [if_neg (by omega), if_pos ⟨h1, h2, rfl⟩]
  simp

set_option maxRecDepth 100000 in
set_option maxHeartbeats 6400000 in
theorem escNumbers_mark (A0 : Option Addr) (n cap : Nat) (xs : List Int) (m f : Int) (w : World) (h : Ints w A0 n xs) (h20 : ¬ (n : Int) > 20) (t2 : Int) (F m2 : Nat) 
    (e3 : f.tmod 63 = t2) (l3 : -63 < t2) (l4 : t2 < 63) (e4 : (t2 + 63) % 63 = (m2 : Int)) (hF : F = 64 + m2) (hm2 : m2 < 63) (h60 : 60 ≤ m) (h63 : m ≤ 63) :
    Calls Try.prog 5 #[.slice A0 n cap, .int .i64 m, .int .i64 f] w fun e w' => e = .returned (.bool true) ∧ Below w.heap.size w w' := by
  have e6 : (64 : Int) + (m2 : Int) = (F : Int) := by omega
  have e8 : IntKind.u8.wrap (F : Int) = (F : Int) := by rw [u8_of (by omega), toNat_ofNat (by omega)]
  have hF1 : Hid (64 ≤ F ∧ F ≤ 126) := Lib.hid (by omega)
  obtain ⟨i0, hi0, hz0, hz1, hz2⟩ := info_parts int_info
  have HS := Lib.hid (src_ints h)
  have HL := Lib.hid h.1
  clear hF hm2 h
  have hm60 : m ≥ 60 := by omega
  have hm63 : m ≤ 63 := by omega
  obtain ⟨Q, hQ⟩ : ∃ Q : Nat, m = (Q : Int) := ⟨m.toNat, by omega⟩
  have hQ1 : Hid (60 ≤ Q ∧ Q ≤ 63) := Lib.hid (by omega)
  have HQ := Lib.hid hQ
  have e9 : IntKind.u8.wrap m = m := by rw [hQ, u8_of (by omega), toNat_ofNat (by omega)]
  clear hQ
  go_enter Try.func5, Try.ntmps5
  go_wp2_with fail
  refine (alive_any _).mono ?_
  rintro e w1 ⟨rfl, hb⟩
  have HB1 := Lib.hid hb
  clear hb
  have hcv := bytes_str (W := w1.alloc (.cells #[.int .u8 m] 5)) (P := Try.prog) 48 9 5 [Q] #[.int .u8 m] w1.heap.size 1 (heap_alloc_new w1 _) (by rw [HQ.out]; rfl) (by intro c hc; simp at hc; have := hQ1.out; omega) rfl (by unfold maxLen; omega) Try.underlying48 Try.underlying5 Try.underlying9
  have hz9 : (⟨#[27, 91]⟩ : ByteArray).size + (bytesN [Q]).size ≤ 9223372036854775807 := by rw [bytesN_size]; show 2 + 1 ≤ _; omega
  go_upto_region 4 with fail
  rw [e4]
  clear e3 e4 e6 l3 l4
  go_upto_region 9 with fail
  clear hm60 hm63 h60 h63 hcv e9
  go_wp2_with fail
  go_loopw [8, 10, 11] (fun s v i wr => ∃ (k r : Nat) (S : ByteArray) (A : Option Addr) (c : Nat), i = .int .i64 k ∧ k ≤ n ∧ s = .string S ∧ v = .slice A r c ∧ Hid (NumR w [27, 91, Q] xs k r S A c wr)) (fun _ _ i _ => n - (intOf i).toNat)
  case atStart => exact ⟨0, 0, _, none, 0, rfl, Nat.zero_le _, rfl, rfl, Lib.hid ⟨rfl, by rw [natsOf_add, natsOf_bytesN _ (by intro c hc; simp at hc; have := hQ1.out; omega)]; simp [natsOf, txtN], by rw [ByteArray.size_append, bytesN_size]; show 2 + 1 ≤ _; omega, World.ownsRow_nil _ _ _ _, HB1.out.alloc HB1.out.size _⟩⟩
  case round =>
    obtain ⟨k, r, S, A, c, rfl, hk, rfl, rfl, HR⟩ := hrel
    by_cases hlt : k < n
    · obtain ⟨x, hx⟩ : ∃ x, xs[k]? = some x := ⟨xs[k]'(by rw [HL.out]; exact hlt), List.getElem?_eq_getElem _⟩
      obtain ⟨b, off, rfl, hbl, hcs⟩ := (HS.out.below HR.out.b).2 (by omega)
      have hcx : wr.cell? ⟨b, off + k, none⟩ = some (.int .i64 x) := hcs k _ (by rw [List.getElem?_map, hx]; rfl)
      have HGD : Hid (xs.getD k 0 = x) := Lib.hid (by rw [List.getD_eq_getElem?_getD, hx]; rfl)
      have hkl : Hid (k < xs.length) := Lib.hid (by rw [HL.out]; exact hlt)
      have hki : ((k : Int) < (n : Int)) := by omega
      have hk20 : (k : Int) ≤ 20 := by omega
      have hk0 : (0 : Int) ≤ (k : Int) := by omega
      have hSz : S.size ≤ 200 := by have := HR.out.z; omega
      have HSZ := Lib.hid hSz
      have q59 : S.size + (⟨#[59]⟩ : ByteArray).size ≤ 9223372036854775807 := by show S.size + 1 ≤ _; omega
      clear hcs hx hSz
      rcases Nat.eq_zero_or_pos k with hk00 | hkp
      · subst hk00
        have hcx0 : wr.cell? ⟨b, off, none⟩ = some (.int .i64 x) := hcx
        by_cases hxn : x < 0
        · skip
          have hp0 : ¬ x ≥ 0 := by omega
          have hmx : max x (-1) = -1 := by omega
          have HV : Hid (valN x = -1) := Lib.hid (if_pos (by omega))
          have HPT : Hid (partN 0 x = []) := Lib.hid (by unfold partN digN; rw [if_pos (show x < 0 by omega)]; rfl)
          have O5 := Lib.hid HR.out.o
          have B5 := Lib.hid HR.out.b
          go_wp2_with (at_builtin; refine wpList_own_at _ rfl (.tmp 65) (.tmp 69) 22 rfl w.heap.size 3 i0 (.int .i64 0) 1 8 Try.underlying22 hi0 hz0 hz1 hz2 rfl (by decide) (.slice A r c) r (((valsN xs 0).take 8).map (Value.int .i64)) rfl (O5.out.alloc _) ⟨wr.heap.size, 0, none⟩ 1 1 [.int .i64 (-1)] rfl rfl (cell_one_new _ _ _) ?c2a ?c3a ?c4a ?c5a ?_)
          case c2a => first | rfl | (intro u hu; simp at hu; subst hu; rfl)
          case c3a => have := HR.out.r8; unfold maxLen; omega
          case c4a => have := HR.out.r8; omega
          case c5a => have := B5.out.size; simp; omega
          intro v6 w6 hown6 hk6 hat6
          obtain ⟨A6, c6, rfl, -⟩ := own_form hown6
          have HN6 : Hid (NumR w [27, 91, Q] xs (0 + 1) (r + 1) (S) A6 c6 w6) := Lib.hid (by
            have q1 := HR.out.r8
            refine ⟨by omega, ?_, ?_, ?_, B5.out.trans (((Below.refl _ wr).alloc (Nat.le_refl _) _ |>.mono B5.out.size).trans (hk6.below (by have := B5.out.size; simp; omega) (fun j hj e => by have := (O5.out.lt j e).1; omega)))⟩
            · show natsOf _ = _ ++ (txtN xs 0 ++ partN 0 (xs.getD 0 0))
              rw [HGD.out, HPT.out, ← List.append_assoc, ← HR.out.s]
              try simp only [natsOf_add, List.append_assoc]
              rw [List.append_nil]
            · have := HR.out.z; omega
            · have := valsN_take xs 0 hkl.out (by omega)
              rw [this, HGD.out, HV.out, List.map_append]
              first | exact hown6 | (rw [List.map_take]; exact hown6))
          clear hown6 hk6 hat6
          go_wp2_with fail
          go_roundw
          case rel => exact ⟨0 + 1, r + 1, _, A6, c6, by go_num, by omega, rfl, rfl, HN6⟩
          case measure => simp [intOf]; omega
        · skip
          have hp0 : x ≥ 0 := by omega
          obtain ⟨d, hd⟩ : ∃ d : Nat, x % 100000 = (d : Int) := ⟨(x % 100000).toNat, by omega⟩
          have hd5 : d < 100000 := by omega
          have HDG := Lib.hid (digits_any d hd5)
          obtain ⟨D, hD⟩ : ∃ D, D = bytesN (decN d) := ⟨_, rfl⟩
          have hDs : D.size ≤ 5 := by rw [hD, bytesN_size]; exact decN_len 4 d (by omega)
          have hDn : natsOf D = decN d := by rw [hD]; exact natsOf_bytesN _ (fun c hc => by have := decN_mem d c hc; omega)
          rw [← hD] at HDG
          have HDN := Lib.hid hDn
          have HDS := Lib.hid hDs
          obtain ⟨M, hM⟩ : ∃ M : Nat, min (d : Int) 9999 = (M : Int) := ⟨min d 9999, by omega⟩
          have hmx : max (d : Int) (-1) = (d : Int) := by omega
          have HV : Hid (valN x = (M : Int)) := Lib.hid (by unfold valN; rw [if_neg (by omega), hd, hM])
          have HPT : Hid (partN 0 x = decN d) := Lib.hid (by unfold partN digN; rw [if_neg (show ¬ x < 0 by omega), hd, Int.toNat_natCast]; rfl)
          have hqD : (S).size + D.size ≤ 9223372036854775807 := by have := HSZ.out; omega
          clear hD hDs hDn
          go_wp2_with fail
          refine (HDG.out _).mono ?_
          rintro e w5 ⟨rfl, hb5⟩
          have O5 : Hid (w5.ownsRow w.heap.size 3 1 (.slice A r c) r (((valsN xs 0).take 8).map (Value.int .i64))) := Lib.hid (own_below HR.out.o hb5 (fun i hi => (HR.out.o.lt i hi).2))
          have B5 : Hid (Below w.heap.size w w5) := Lib.hid (HR.out.b.trans (hb5.mono HR.out.b.size))
          clear hb5 HDG
          go_wp2_with (at_builtin; refine wpList_own_at _ rfl (.tmp 65) (.tmp 69) 22 rfl w.heap.size 3 i0 (.int .i64 0) 1 8 Try.underlying22 hi0 hz0 hz1 hz2 rfl (by decide) (.slice A r c) r (((valsN xs 0).take 8).map (Value.int .i64)) rfl (O5.out.alloc _) ⟨w5.heap.size, 0, none⟩ 1 1 [.int .i64 (M : Int)] rfl rfl (cell_one_new _ _ _) ?c2b ?c3b ?c4b ?c5b ?_)
          case c2b => first | rfl | (intro u hu; simp at hu; subst hu; rfl)
          case c3b => have := HR.out.r8; unfold maxLen; omega
          case c4b => have := HR.out.r8; omega
          case c5b => have := B5.out.size; simp; omega
          intro v6 w6 hown6 hk6 hat6
          obtain ⟨A6, c6, rfl, -⟩ := own_form hown6
          have HN6 : Hid (NumR w [27, 91, Q] xs (0 + 1) (r + 1) (S ++ D) A6 c6 w6) := Lib.hid (by
            have q1 := HR.out.r8
            refine ⟨by omega, ?_, ?_, ?_, B5.out.trans (((Below.refl _ w5).alloc (Nat.le_refl _) _ |>.mono B5.out.size).trans (hk6.below (by have := B5.out.size; simp; omega) (fun j hj e => by have := (O5.out.lt j e).1; omega)))⟩
            · show natsOf _ = _ ++ (txtN xs 0 ++ partN 0 (xs.getD 0 0))
              rw [HGD.out, HPT.out, ← List.append_assoc, ← HR.out.s]
              try simp only [natsOf_add, List.append_assoc]
              rw [HDN.out]
            · have := HR.out.z; rw [ByteArray.size_append]; have := HDS.out; omega
            · have := valsN_take xs 0 hkl.out (by omega)
              rw [this, HGD.out, HV.out, List.map_append]
              first | exact hown6 | (rw [List.map_take]; exact hown6))
          clear hown6 hk6 hat6
          go_wp2_with fail
          go_roundw
          case rel => exact ⟨0 + 1, r + 1, _, A6, c6, by go_num, by omega, rfl, rfl, HN6⟩
          case measure => simp [intOf]; omega
      · have hkg : ((k : Int) > 0) := by omega
        by_cases h8 : k < 8
        · by_cases hxn : x < 0
          · skip
            have hp0 : ¬ x ≥ 0 := by omega
            have hmx : max x (-1) = -1 := by omega
            have HV : Hid (valN x = -1) := Lib.hid (if_pos (by omega))
            have HPT : Hid (partN k x = [59]) := Lib.hid (by unfold partN digN; rw [if_pos (show x < 0 by omega), if_pos hkp]; rfl)
            have O5 := Lib.hid HR.out.o
            have B5 := Lib.hid HR.out.b
            clear hkp
            have hk8 : ((k : Int) < 8) := by omega
            go_wp2_with (at_builtin; refine wpList_own_at _ rfl (.tmp 65) (.tmp 69) 22 rfl w.heap.size 3 i0 (.int .i64 0) 1 8 Try.underlying22 hi0 hz0 hz1 hz2 rfl (by decide) (.slice A r c) r (((valsN xs k).take 8).map (Value.int .i64)) rfl (O5.out.alloc _) ⟨wr.heap.size, 0, none⟩ 1 1 [.int .i64 (-1)] rfl rfl (cell_one_new _ _ _) ?c2c ?c3c ?c4c ?c5c ?_)
            case c2c => first | rfl | (intro u hu; simp at hu; subst hu; rfl)
            case c3c => have := HR.out.r8; unfold maxLen; omega
            case c4c => have := HR.out.r8; omega
            case c5c => have := B5.out.size; simp; omega
            intro v6 w6 hown6 hk6 hat6
            obtain ⟨A6, c6, rfl, -⟩ := own_form hown6
            have HN6 : Hid (NumR w [27, 91, Q] xs (k + 1) (r + 1) (S ++ ⟨#[59]⟩) A6 c6 w6) := Lib.hid (by
              have q1 := HR.out.r8
              refine ⟨by omega, ?_, ?_, ?_, B5.out.trans (((Below.refl _ wr).alloc (Nat.le_refl _) _ |>.mono B5.out.size).trans (hk6.below (by have := B5.out.size; simp; omega) (fun j hj e => by have := (O5.out.lt j e).1; omega)))⟩
              · show natsOf _ = _ ++ (txtN xs k ++ partN k (xs.getD k 0))
                rw [HGD.out, HPT.out, ← List.append_assoc, ← HR.out.s]
                try simp only [natsOf_add, List.append_assoc]
                rfl
              · have := HR.out.z; rw [ByteArray.size_append]; show S.size + 1 ≤ _; omega
              · have := valsN_take xs k hkl.out (by omega)
                rw [this, HGD.out, HV.out, List.map_append]
                first | exact hown6 | (rw [List.map_take]; exact hown6))
            clear hown6 hk6 hat6
            go_wp2_with fail
            go_roundw
            case rel => exact ⟨k + 1, r + 1, _, A6, c6, by go_num, by omega, rfl, rfl, HN6⟩
            case measure => simp [intOf]; omega
          · skip
            have hp0 : x ≥ 0 := by omega
            obtain ⟨d, hd⟩ : ∃ d : Nat, x % 100000 = (d : Int) := ⟨(x % 100000).toNat, by omega⟩
            have hd5 : d < 100000 := by omega
            have HDG := Lib.hid (digits_any d hd5)
            obtain ⟨D, hD⟩ : ∃ D, D = bytesN (decN d) := ⟨_, rfl⟩
            have hDs : D.size ≤ 5 := by rw [hD, bytesN_size]; exact decN_len 4 d (by omega)
            have hDn : natsOf D = decN d := by rw [hD]; exact natsOf_bytesN _ (fun c hc => by have := decN_mem d c hc; omega)
            rw [← hD] at HDG
            have HDN := Lib.hid hDn
            have HDS := Lib.hid hDs
            obtain ⟨M, hM⟩ : ∃ M : Nat, min (d : Int) 9999 = (M : Int) := ⟨min d 9999, by omega⟩
            have hmx : max (d : Int) (-1) = (d : Int) := by omega
            have HV : Hid (valN x = (M : Int)) := Lib.hid (by unfold valN; rw [if_neg (by omega), hd, hM])
            have HPT : Hid (partN k x = [59] ++ decN d) := Lib.hid (by unfold partN digN; rw [if_neg (show ¬ x < 0 by omega), hd, Int.toNat_natCast, if_pos hkp])
            have hqD : (S ++ ⟨#[59]⟩).size + D.size ≤ 9223372036854775807 := by have := HSZ.out; rw [ByteArray.size_append]; show S.size + 1 + D.size ≤ _; omega
            clear hD hDs hDn hkp
            go_wp2_with fail
            refine (HDG.out _).mono ?_
            rintro e w5 ⟨rfl, hb5⟩
            have O5 : Hid (w5.ownsRow w.heap.size 3 1 (.slice A r c) r (((valsN xs k).take 8).map (Value.int .i64))) := Lib.hid (own_below HR.out.o hb5 (fun i hi => (HR.out.o.lt i hi).2))
            have B5 : Hid (Below w.heap.size w w5) := Lib.hid (HR.out.b.trans (hb5.mono HR.out.b.size))
            clear hb5 HDG
            have hk8 : ((k : Int) < 8) := by omega
            go_wp2_with (at_builtin; refine wpList_own_at _ rfl (.tmp 65) (.tmp 69) 22 rfl w.heap.size 3 i0 (.int .i64 0) 1 8 Try.underlying22 hi0 hz0 hz1 hz2 rfl (by decide) (.slice A r c) r (((valsN xs k).take 8).map (Value.int .i64)) rfl (O5.out.alloc _) ⟨w5.heap.size, 0, none⟩ 1 1 [.int .i64 (M : Int)] rfl rfl (cell_one_new _ _ _) ?c2d ?c3d ?c4d ?c5d ?_)
            case c2d => first | rfl | (intro u hu; simp at hu; subst hu; rfl)
            case c3d => have := HR.out.r8; unfold maxLen; omega
            case c4d => have := HR.out.r8; omega
            case c5d => have := B5.out.size; simp; omega
            intro v6 w6 hown6 hk6 hat6
            obtain ⟨A6, c6, rfl, -⟩ := own_form hown6
            have HN6 : Hid (NumR w [27, 91, Q] xs (k + 1) (r + 1) (S ++ ⟨#[59]⟩ ++ D) A6 c6 w6) := Lib.hid (by
              have q1 := HR.out.r8
              refine ⟨by omega, ?_, ?_, ?_, B5.out.trans (((Below.refl _ w5).alloc (Nat.le_refl _) _ |>.mono B5.out.size).trans (hk6.below (by have := B5.out.size; simp; omega) (fun j hj e => by have := (O5.out.lt j e).1; omega)))⟩
              · show natsOf _ = _ ++ (txtN xs k ++ partN k (xs.getD k 0))
                rw [HGD.out, HPT.out, ← List.append_assoc, ← HR.out.s]
                try simp only [natsOf_add, List.append_assoc]
                rw [HDN.out]; rfl
              · have := HR.out.z; rw [ByteArray.size_append, ByteArray.size_append]; have := HDS.out; show S.size + 1 + D.size ≤ _; omega
              · have := valsN_take xs k hkl.out (by omega)
                rw [this, HGD.out, HV.out, List.map_append]
                first | exact hown6 | (rw [List.map_take]; exact hown6))
            clear hown6 hk6 hat6
            go_wp2_with fail
            go_roundw
            case rel => exact ⟨k + 1, r + 1, _, A6, c6, by go_num, by omega, rfl, rfl, HN6⟩
            case measure => simp [intOf]; omega
        · by_cases hxn : x < 0
          · skip
            have hp0 : ¬ x ≥ 0 := by omega
            have hmx : max x (-1) = -1 := by omega
            have HV : Hid (valN x = -1) := Lib.hid (if_pos (by omega))
            have HPT : Hid (partN k x = [59]) := Lib.hid (by unfold partN digN; rw [if_pos (show x < 0 by omega), if_pos hkp]; rfl)
            have O5 := Lib.hid HR.out.o
            have B5 := Lib.hid HR.out.b
            clear hkp
            have hk8 : ¬ ((k : Int) < 8) := by omega
            have HN6 : Hid (NumR w [27, 91, Q] xs (k + 1) r (S ++ ⟨#[59]⟩) A c wr) := Lib.hid (by
              have q1 := HR.out.r8
              refine ⟨by omega, ?_, ?_, ?_, B5.out⟩
              · show natsOf _ = _ ++ (txtN xs k ++ partN k (xs.getD k 0))
                rw [HGD.out, HPT.out, ← List.append_assoc, ← HR.out.s]
                try simp only [natsOf_add, List.append_assoc]
                rfl
              · have := HR.out.z; rw [ByteArray.size_append]; show S.size + 1 ≤ _; omega
              · rw [valsN_take8 xs k hkl.out (by omega)]
                exact O5.out)
            go_wp2_with fail
            go_roundw
            case rel => exact ⟨k + 1, r, _, A, c, by go_num, by omega, rfl, rfl, HN6⟩
            case measure => simp [intOf]; omega
          · skip
            have hp0 : x ≥ 0 := by omega
            obtain ⟨d, hd⟩ : ∃ d : Nat, x % 100000 = (d : Int) := ⟨(x % 100000).toNat, by omega⟩
            have hd5 : d < 100000 := by omega
            have HDG := Lib.hid (digits_any d hd5)
            obtain ⟨D, hD⟩ : ∃ D, D = bytesN (decN d) := ⟨_, rfl⟩
            have hDs : D.size ≤ 5 := by rw [hD, bytesN_size]; exact decN_len 4 d (by omega)
            have hDn : natsOf D = decN d := by rw [hD]; exact natsOf_bytesN _ (fun c hc => by have := decN_mem d c hc; omega)
            rw [← hD] at HDG
            have HDN := Lib.hid hDn
            have HDS := Lib.hid hDs
            obtain ⟨M, hM⟩ : ∃ M : Nat, min (d : Int) 9999 = (M : Int) := ⟨min d 9999, by omega⟩
            have hmx : max (d : Int) (-1) = (d : Int) := by omega
            have HV : Hid (valN x = (M : Int)) := Lib.hid (by unfold valN; rw [if_neg (by omega), hd, hM])
            have HPT : Hid (partN k x = [59] ++ decN d) := Lib.hid (by unfold partN digN; rw [if_neg (show ¬ x < 0 by omega), hd, Int.toNat_natCast, if_pos hkp])
            have hqD : (S ++ ⟨#[59]⟩).size + D.size ≤ 9223372036854775807 := by have := HSZ.out; rw [ByteArray.size_append]; show S.size + 1 + D.size ≤ _; omega
            clear hD hDs hDn hkp
            go_wp2_with fail
            refine (HDG.out _).mono ?_
            rintro e w5 ⟨rfl, hb5⟩
            have O5 : Hid (w5.ownsRow w.heap.size 3 1 (.slice A r c) r (((valsN xs k).take 8).map (Value.int .i64))) := Lib.hid (own_below HR.out.o hb5 (fun i hi => (HR.out.o.lt i hi).2))
            have B5 : Hid (Below w.heap.size w w5) := Lib.hid (HR.out.b.trans (hb5.mono HR.out.b.size))
            clear hb5 HDG
            have hk8 : ¬ ((k : Int) < 8) := by omega
            have HN6 : Hid (NumR w [27, 91, Q] xs (k + 1) r (S ++ ⟨#[59]⟩ ++ D) A c w5) := Lib.hid (by
              have q1 := HR.out.r8
              refine ⟨by omega, ?_, ?_, ?_, B5.out⟩
              · show natsOf _ = _ ++ (txtN xs k ++ partN k (xs.getD k 0))
                rw [HGD.out, HPT.out, ← List.append_assoc, ← HR.out.s]
                try simp only [natsOf_add, List.append_assoc]
                rw [HDN.out]; rfl
              · have := HR.out.z; rw [ByteArray.size_append, ByteArray.size_append]; have := HDS.out; show S.size + 1 + D.size ≤ _; omega
              · rw [valsN_take8 xs k hkl.out (by omega)]
                exact O5.out)
            go_wp2_with fail
            go_roundw
            case rel => exact ⟨k + 1, r, _, A, c, by go_num, by omega, rfl, rfl, HN6⟩
            case measure => simp [intOf]; omega
    · have hkn : k = n := by omega
      subst hkn
      clear hlt hk
      by_cases h1 : k = 1
      · subst h1
        obtain ⟨x, hx⟩ : ∃ x, xs[0]? = some x := ⟨xs[0]'(by rw [HL.out]; omega), List.getElem?_eq_getElem _⟩
        obtain ⟨b, off, rfl, hbl, hcs⟩ := (HS.out.below HR.out.b).2 (by omega)
        have hcx : wr.cell? ⟨b, off, none⟩ = some (.int .i64 x) := hcs 0 _ (by rw [List.getElem?_map, hx]; rfl)
        have HGD : Hid (xs.getD 0 0 = x) := Lib.hid (by rw [List.getD_eq_getElem?_getD, hx]; rfl)
        clear hcs hx
        by_cases hx0 : x < 0
        · have HW : Hid (Src wr none 0 ((wantN xs).map (Value.int .i64)) ∧ ∀ i, blk none = some i → i < wr.heap.size) := Lib.hid (by
            have e : wantN xs = [] := if_pos ⟨HL.out, by rw [HGD.out]; exact hx0⟩
            rw [e]
            exact ⟨⟨rfl, fun h => absurd h (by omega)⟩, fun i hi => by simp [blk] at hi⟩)
          go_upto_region 24 with fail
          obtain ⟨w3, hw3⟩ : ∃ w3, w3 = wr.alloc (.cells parserCs 37) := ⟨_, rfl⟩
          have HE3 : Hid (EscAt w3 wr.heap.size 0 .z) := Lib.hid (by rw [hw3]; exact esc_new wr)
          have HB3 : Hid (Below w.heap.size w w3) := Lib.hid (by rw [hw3]; exact HR.out.b.alloc HR.out.b.size _)
          have hz3 : w3.heap.size = wr.heap.size + 1 := by rw [hw3]; simp
          have hq : w.heap.size ≤ wr.heap.size := HR.out.b.size
          have HWS3 : Hid (Src w3 none 0 ((wantN xs).map (Value.int .i64)) ∧ ∀ i, blk none = some i → i < wr.heap.size) := Lib.hid (by rw [hw3]; exact ⟨HW.out.1.below ((Below.refl _ wr).alloc (Nat.le_refl _) _), HW.out.2⟩)
          unfold parserCs at hw3
          rw [← hw3]
          obtain ⟨p, hp⟩ : ∃ p, p = wr.heap.size := ⟨_, rfl⟩
          rw [← hp] at HE3 hz3 hq HWS3
          try rw [← hp]
          have HZ3 := Lib.hid hz3
          have HSK := Lib.hid HR.out.s
          have HSZ := Lib.hid HR.out.z
          have hr8 : Hid (0 ≤ 8) := Lib.hid (by omega)
          clear hw3 hp hz3 HR HW
          have hpl : p < w3.heap.size := by have := HZ3.out; omega
          have hcv := bytes_str (W := w3.alloc (.cells #[.int .u8 (F : Int)] 5)) (P := Try.prog) 48 9 5 [F] #[.int .u8 (F : Int)] w3.heap.size 1 (heap_alloc_new w3 _) rfl (by intro c hc; simp at hc; have := hF1.out; omega) rfl (by unfold maxLen; omega) Try.underlying48 Try.underlying5 Try.underlying9
          obtain ⟨G, hG⟩ : ∃ G, G = bytesN [F] := ⟨_, rfl⟩
          have HG := Lib.hid hG
          rw [← hG] at hcv
          clear hG
          have HFED : Hid ((feedsE .z [S, G]).2 = [eCsi Q (wantN xs) [] F] ∧ (feedsE .z [S, G]).1.ground = true) := Lib.hid (by
            have hf1 := hF1.out
            have hall : feedP (pAt 0) ([S, G].flatMap natsOf) = (pAt 0, [eCsi Q (wantN xs) [] F]) := by
              simp only [List.flatMap_cons, List.flatMap_nil, List.append_nil]
              rw [HG.out, natsOf_bytesN _ (by intro x hx; simp at hx; omega), HSK.out, List.append_assoc]
              obtain ⟨q, hq, hn⟩ := numS_all (p := { pAt 2 with first := false, mark := Q }) (m := Q) ⟨rfl, rfl, rfl, rfl, .inl ⟨rfl, rfl, .inl rfl⟩⟩ xs _ (Nat.le_of_eq HL.out.symm)
              rw [List.cons_append, List.cons_append, List.cons_append, List.nil_append, open_mark Q hQ1.out.1 hQ1.out.2, feedP_add, hq]
              simp only
              rw [feedP_one, csi_end q hn.st hn.w F hf1.1 hf1.2, hn.m, hn.i]
              rw [← HL.out] at hn
              rw [hn.want]
              rfl
            have h2 := feed_alikeE ([S, G].flatMap natsOf) AlikeE.z
            rw [hall] at h2
            rw [feedsE_nats]
            exact ⟨h2.2, (AlikeE.at0 h2.1 rfl rfl).1⟩)
          have hGs : G.size = 1 := by rw [HG.out, bytesN_size]; rfl
          have HGS := Lib.hid hGs
          clear hGs
          go_wp2_with fail
          have hsr : Src ((w3.alloc (.cells #[.int .u8 (F : Int)] 5)).alloc (.cells #[.string S, .string G] 9)) (some ⟨w3.heap.size + 1, 0, none⟩) 2 ([S, G].map Value.string) := src_new (w3.alloc (.cells #[.int .u8 (F : Int)] 5)) ([S, G].map Value.string) 9 (w3.heap.size + 1) (by simp) 2 rfl
          have X : Below w3.heap.size w3 ((w3.alloc (.cells #[.int .u8 (F : Int)] 5)).alloc (.cells #[.string S, .string G] 9)) := ((Below.refl _ w3).alloc (Nat.le_refl _) _).alloc (by simp) _
          refine (esc_feed p 0 .z _ 2 2 [S, G] _ (HE3.out.below X) hsr (fun _ => by simp [blk]; omega) (by omega) (by have a := HSZ.out; have b := HGS.out; simp only [sum, List.map_cons, List.map_nil, List.foldr_cons, List.foldr_nil]; omega) (by decide)).mono ?_
          rintro e w4 ⟨A4, n4, c4, rfl, hn4, ha4, he4, hk4⟩
          have HB4 : Hid (Below w.heap.size w w4) := Lib.hid (by
            have hs3 := HB3.out.size
            exact HB3.out.trans ((X.mono hs3).trans (hk4.keep.below (Nat.le_trans hs3 X.size) (fun k hk e => by omega))))
          have HWS4 : Hid (Src w4 none 0 ((wantN xs).map (Value.int .i64))) := Lib.hid ((HWS3.out.1.below X).of_keep hk4.keep (fun i hi e => by have := HWS3.out.2 i hi; omega))
          rw [HFED.out.1] at ha4 hn4
          obtain ⟨g, rfl, hg, hcs⟩ := ha4.cells (by rw [hn4]; simp)
          replace hn4 : n4 = 1 := hn4
          subst hn4
          obtain ⟨⟨A1, d1⟩, hn1, c0⟩ := hcs 0 _ rfl
          have hlr : (wantN xs).length = 0 := by have := HWS4.out.1; rwa [List.length_map] at this
          have d00 : w4.cell? ⟨g, 0, none⟩ = some (.int .i64 4) := c0 0 _ rfl
          have d02 : w4.cell? ⟨g, 2, none⟩ = some (.int .i64 (F : Int)) := c0 2 _ rfl
          have d03 : w4.cell? ⟨g, 3, none⟩ = some (.int .i64 m) := by rw [HQ.out]; exact c0 3 _ rfl
          have d04 : w4.cell? ⟨g, 4, none⟩ = some (.slice A1 0 d1) := by rw [← hlr]; exact c0 4 _ rfl
          have d05 : w4.cell? ⟨g, 5, none⟩ = some (.string ⟨#[]⟩) := c0 5 _ rfl
          have HNR : Hid (Src w4 A1 0 ((wantN xs).map (Value.int .i64))) := Lib.hid (by have := own_src1 hn1 (by rw [List.length_map]); rwa [show (eCsi Q (wantN xs) [] F).nums = wantN xs from rfl, hlr] at this)
          clear ha4 hcs c0 hcv hg he4 hk4 X hsr hn1 hlr
          go_wp2_with fail
          refine (sameI_Ints A1 none 0 d1 0 (wantN xs) _ HNR.out HWS4.out (by have := hr8.out; omega)).mono ?_
          rintro e w5 ⟨rfl, k5, rfl⟩
          go_wp2_with fail
          go_ret
          exact ⟨rfl, HB4.out.os, HB4.out.tape, HB4.out.output, HB4.out.size, HB4.out.block⟩
        · have HW : Hid (Src wr A r ((wantN xs).map (Value.int .i64)) ∧ ∀ i, blk A = some i → i < wr.heap.size) := Lib.hid (by
            have e : wantN xs = (valsN xs 1).take 8 := by
              rw [← HL.out, valsN_all]; exact if_neg (fun x => hx0 (by have := x.2; rwa [HGD.out] at this))
            rw [e]
            exact ⟨(Buf.of_own HR.out.o).src, fun i hi => (HR.out.o.lt i (by rw [ownBlock_slice]; exact hi)).2⟩)
          go_upto_region 24 with fail
          obtain ⟨w3, hw3⟩ : ∃ w3, w3 = wr.alloc (.cells parserCs 37) := ⟨_, rfl⟩
          have HE3 : Hid (EscAt w3 wr.heap.size 0 .z) := Lib.hid (by rw [hw3]; exact esc_new wr)
          have HB3 : Hid (Below w.heap.size w w3) := Lib.hid (by rw [hw3]; exact HR.out.b.alloc HR.out.b.size _)
          have hz3 : w3.heap.size = wr.heap.size + 1 := by rw [hw3]; simp
          have hq : w.heap.size ≤ wr.heap.size := HR.out.b.size
          have HWS3 : Hid (Src w3 A r ((wantN xs).map (Value.int .i64)) ∧ ∀ i, blk A = some i → i < wr.heap.size) := Lib.hid (by rw [hw3]; exact ⟨HW.out.1.below ((Below.refl _ wr).alloc (Nat.le_refl _) _), HW.out.2⟩)
          unfold parserCs at hw3
          rw [← hw3]
          obtain ⟨p, hp⟩ : ∃ p, p = wr.heap.size := ⟨_, rfl⟩
          rw [← hp] at HE3 hz3 hq HWS3
          try rw [← hp]
          have HZ3 := Lib.hid hz3
          have HSK := Lib.hid HR.out.s
          have HSZ := Lib.hid HR.out.z
          have hr8 : Hid (r ≤ 8) := Lib.hid (by have := HR.out.r8; omega)
          clear hw3 hp hz3 HR HW
          have hpl : p < w3.heap.size := by have := HZ3.out; omega
          have hcv := bytes_str (W := w3.alloc (.cells #[.int .u8 (F : Int)] 5)) (P := Try.prog) 48 9 5 [F] #[.int .u8 (F : Int)] w3.heap.size 1 (heap_alloc_new w3 _) rfl (by intro c hc; simp at hc; have := hF1.out; omega) rfl (by unfold maxLen; omega) Try.underlying48 Try.underlying5 Try.underlying9
          obtain ⟨G, hG⟩ : ∃ G, G = bytesN [F] := ⟨_, rfl⟩
          have HG := Lib.hid hG
          rw [← hG] at hcv
          clear hG
          have HFED : Hid ((feedsE .z [S, G]).2 = [eCsi Q (wantN xs) [] F] ∧ (feedsE .z [S, G]).1.ground = true) := Lib.hid (by
            have hf1 := hF1.out
            have hall : feedP (pAt 0) ([S, G].flatMap natsOf) = (pAt 0, [eCsi Q (wantN xs) [] F]) := by
              simp only [List.flatMap_cons, List.flatMap_nil, List.append_nil]
              rw [HG.out, natsOf_bytesN _ (by intro x hx; simp at hx; omega), HSK.out, List.append_assoc]
              obtain ⟨q, hq, hn⟩ := numS_all (p := { pAt 2 with first := false, mark := Q }) (m := Q) ⟨rfl, rfl, rfl, rfl, .inl ⟨rfl, rfl, .inl rfl⟩⟩ xs _ (Nat.le_of_eq HL.out.symm)
              rw [List.cons_append, List.cons_append, List.cons_append, List.nil_append, open_mark Q hQ1.out.1 hQ1.out.2, feedP_add, hq]
              simp only
              rw [feedP_one, csi_end q hn.st hn.w F hf1.1 hf1.2, hn.m, hn.i]
              rw [← HL.out] at hn
              rw [hn.want]
              rfl
            have h2 := feed_alikeE ([S, G].flatMap natsOf) AlikeE.z
            rw [hall] at h2
            rw [feedsE_nats]
            exact ⟨h2.2, (AlikeE.at0 h2.1 rfl rfl).1⟩)
          have hGs : G.size = 1 := by rw [HG.out, bytesN_size]; rfl
          have HGS := Lib.hid hGs
          clear hGs
          go_wp2_with fail
          have hsr : Src ((w3.alloc (.cells #[.int .u8 (F : Int)] 5)).alloc (.cells #[.string S, .string G] 9)) (some ⟨w3.heap.size + 1, 0, none⟩) 2 ([S, G].map Value.string) := src_new (w3.alloc (.cells #[.int .u8 (F : Int)] 5)) ([S, G].map Value.string) 9 (w3.heap.size + 1) (by simp) 2 rfl
          have X : Below w3.heap.size w3 ((w3.alloc (.cells #[.int .u8 (F : Int)] 5)).alloc (.cells #[.string S, .string G] 9)) := ((Below.refl _ w3).alloc (Nat.le_refl _) _).alloc (by simp) _
          refine (esc_feed p 0 .z _ 2 2 [S, G] _ (HE3.out.below X) hsr (fun _ => by simp [blk]; omega) (by omega) (by have a := HSZ.out; have b := HGS.out; simp only [sum, List.map_cons, List.map_nil, List.foldr_cons, List.foldr_nil]; omega) (by decide)).mono ?_
          rintro e w4 ⟨A4, n4, c4, rfl, hn4, ha4, he4, hk4⟩
          have HB4 : Hid (Below w.heap.size w w4) := Lib.hid (by
            have hs3 := HB3.out.size
            exact HB3.out.trans ((X.mono hs3).trans (hk4.keep.below (Nat.le_trans hs3 X.size) (fun k hk e => by omega))))
          have HWS4 : Hid (Src w4 A r ((wantN xs).map (Value.int .i64))) := Lib.hid ((HWS3.out.1.below X).of_keep hk4.keep (fun i hi e => by have := HWS3.out.2 i hi; omega))
          rw [HFED.out.1] at ha4 hn4
          obtain ⟨g, rfl, hg, hcs⟩ := ha4.cells (by rw [hn4]; simp)
          replace hn4 : n4 = 1 := hn4
          subst hn4
          obtain ⟨⟨A1, d1⟩, hn1, c0⟩ := hcs 0 _ rfl
          have hlr : (wantN xs).length = r := by have := HWS4.out.1; rwa [List.length_map] at this
          have d00 : w4.cell? ⟨g, 0, none⟩ = some (.int .i64 4) := c0 0 _ rfl
          have d02 : w4.cell? ⟨g, 2, none⟩ = some (.int .i64 (F : Int)) := c0 2 _ rfl
          have d03 : w4.cell? ⟨g, 3, none⟩ = some (.int .i64 m) := by rw [HQ.out]; exact c0 3 _ rfl
          have d04 : w4.cell? ⟨g, 4, none⟩ = some (.slice A1 r d1) := by rw [← hlr]; exact c0 4 _ rfl
          have d05 : w4.cell? ⟨g, 5, none⟩ = some (.string ⟨#[]⟩) := c0 5 _ rfl
          have HNR : Hid (Src w4 A1 r ((wantN xs).map (Value.int .i64))) := Lib.hid (by have := own_src1 hn1 (by rw [List.length_map]); rwa [show (eCsi Q (wantN xs) [] F).nums = wantN xs from rfl, hlr] at this)
          clear ha4 hcs c0 hcv hg he4 hk4 X hsr hn1 hlr
          go_wp2_with fail
          refine (sameI_Ints A1 A r d1 c (wantN xs) _ HNR.out HWS4.out (by have := hr8.out; omega)).mono ?_
          rintro e w5 ⟨rfl, k5, rfl⟩
          go_wp2_with fail
          go_ret
          exact ⟨rfl, HB4.out.os, HB4.out.tape, HB4.out.output, HB4.out.size, HB4.out.block⟩
      · have hk1 : ((k : Int) == 1) = false := by simp; omega
        have HW : Hid (Src wr A r ((wantN xs).map (Value.int .i64)) ∧ ∀ i, blk A = some i → i < wr.heap.size) := Lib.hid (by
          have e : wantN xs = (valsN xs k).take 8 := by
            rw [← HL.out, valsN_all]; exact if_neg (fun x => h1 (HL.out.symm.trans x.1))
          rw [e]
          exact ⟨(Buf.of_own HR.out.o).src, fun i hi => (HR.out.o.lt i (by rw [ownBlock_slice]; exact hi)).2⟩)
        clear h1
        go_upto_region 24 with fail
        obtain ⟨w3, hw3⟩ : ∃ w3, w3 = wr.alloc (.cells parserCs 37) := ⟨_, rfl⟩
        have HE3 : Hid (EscAt w3 wr.heap.size 0 .z) := Lib.hid (by rw [hw3]; exact esc_new wr)
        have HB3 : Hid (Below w.heap.size w w3) := Lib.hid (by rw [hw3]; exact HR.out.b.alloc HR.out.b.size _)
        have hz3 : w3.heap.size = wr.heap.size + 1 := by rw [hw3]; simp
        have hq : w.heap.size ≤ wr.heap.size := HR.out.b.size
        have HWS3 : Hid (Src w3 A r ((wantN xs).map (Value.int .i64)) ∧ ∀ i, blk A = some i → i < wr.heap.size) := Lib.hid (by rw [hw3]; exact ⟨HW.out.1.below ((Below.refl _ wr).alloc (Nat.le_refl _) _), HW.out.2⟩)
        unfold parserCs at hw3
        rw [← hw3]
        obtain ⟨p, hp⟩ : ∃ p, p = wr.heap.size := ⟨_, rfl⟩
        rw [← hp] at HE3 hz3 hq HWS3
        try rw [← hp]
        have HZ3 := Lib.hid hz3
        have HSK := Lib.hid HR.out.s
        have HSZ := Lib.hid HR.out.z
        have hr8 : Hid (r ≤ 8) := Lib.hid (by have := HR.out.r8; omega)
        clear hw3 hp hz3 HR HW
        have hpl : p < w3.heap.size := by have := HZ3.out; omega
        have hcv := bytes_str (W := w3.alloc (.cells #[.int .u8 (F : Int)] 5)) (P := Try.prog) 48 9 5 [F] #[.int .u8 (F : Int)] w3.heap.size 1 (heap_alloc_new w3 _) rfl (by intro c hc; simp at hc; have := hF1.out; omega) rfl (by unfold maxLen; omega) Try.underlying48 Try.underlying5 Try.underlying9
        obtain ⟨G, hG⟩ : ∃ G, G = bytesN [F] := ⟨_, rfl⟩
        have HG := Lib.hid hG
        rw [← hG] at hcv
        clear hG
        have HFED : Hid ((feedsE .z [S, G]).2 = [eCsi Q (wantN xs) [] F] ∧ (feedsE .z [S, G]).1.ground = true) := Lib.hid (by
          have hf1 := hF1.out
          have hall : feedP (pAt 0) ([S, G].flatMap natsOf) = (pAt 0, [eCsi Q (wantN xs) [] F]) := by
            simp only [List.flatMap_cons, List.flatMap_nil, List.append_nil]
            rw [HG.out, natsOf_bytesN _ (by intro x hx; simp at hx; omega), HSK.out, List.append_assoc]
            obtain ⟨q, hq, hn⟩ := numS_all (p := { pAt 2 with first := false, mark := Q }) (m := Q) ⟨rfl, rfl, rfl, rfl, .inl ⟨rfl, rfl, .inl rfl⟩⟩ xs _ (Nat.le_of_eq HL.out.symm)
            rw [List.cons_append, List.cons_append, List.cons_append, List.nil_append, open_mark Q hQ1.out.1 hQ1.out.2, feedP_add, hq]
            simp only
            rw [feedP_one, csi_end q hn.st hn.w F hf1.1 hf1.2, hn.m, hn.i]
            rw [← HL.out] at hn
            rw [hn.want]
            rfl
          have h2 := feed_alikeE ([S, G].flatMap natsOf) AlikeE.z
          rw [hall] at h2
          rw [feedsE_nats]
          exact ⟨h2.2, (AlikeE.at0 h2.1 rfl rfl).1⟩)
        have hGs : G.size = 1 := by rw [HG.out, bytesN_size]; rfl
        have HGS := Lib.hid hGs
        clear hGs
        go_wp2_with fail
        have hsr : Src ((w3.alloc (.cells #[.int .u8 (F : Int)] 5)).alloc (.cells #[.string S, .string G] 9)) (some ⟨w3.heap.size + 1, 0, none⟩) 2 ([S, G].map Value.string) := src_new (w3.alloc (.cells #[.int .u8 (F : Int)] 5)) ([S, G].map Value.string) 9 (w3.heap.size + 1) (by simp) 2 rfl
        have X : Below w3.heap.size w3 ((w3.alloc (.cells #[.int .u8 (F : Int)] 5)).alloc (.cells #[.string S, .string G] 9)) := ((Below.refl _ w3).alloc (Nat.le_refl _) _).alloc (by simp) _
        refine (esc_feed p 0 .z _ 2 2 [S, G] _ (HE3.out.below X) hsr (fun _ => by simp [blk]; omega) (by omega) (by have a := HSZ.out; have b := HGS.out; simp only [sum, List.map_cons, List.map_nil, List.foldr_cons, List.foldr_nil]; omega) (by decide)).mono ?_
        rintro e w4 ⟨A4, n4, c4, rfl, hn4, ha4, he4, hk4⟩
        have HB4 : Hid (Below w.heap.size w w4) := Lib.hid (by
          have hs3 := HB3.out.size
          exact HB3.out.trans ((X.mono hs3).trans (hk4.keep.below (Nat.le_trans hs3 X.size) (fun k hk e => by omega))))
        have HWS4 : Hid (Src w4 A r ((wantN xs).map (Value.int .i64))) := Lib.hid ((HWS3.out.1.below X).of_keep hk4.keep (fun i hi e => by have := HWS3.out.2 i hi; omega))
        rw [HFED.out.1] at ha4 hn4
        obtain ⟨g, rfl, hg, hcs⟩ := ha4.cells (by rw [hn4]; simp)
        replace hn4 : n4 = 1 := hn4
        subst hn4
        obtain ⟨⟨A1, d1⟩, hn1, c0⟩ := hcs 0 _ rfl
        have hlr : (wantN xs).length = r := by have := HWS4.out.1; rwa [List.length_map] at this
        have d00 : w4.cell? ⟨g, 0, none⟩ = some (.int .i64 4) := c0 0 _ rfl
        have d02 : w4.cell? ⟨g, 2, none⟩ = some (.int .i64 (F : Int)) := c0 2 _ rfl
        have d03 : w4.cell? ⟨g, 3, none⟩ = some (.int .i64 m) := by rw [HQ.out]; exact c0 3 _ rfl
        have d04 : w4.cell? ⟨g, 4, none⟩ = some (.slice A1 r d1) := by rw [← hlr]; exact c0 4 _ rfl
        have d05 : w4.cell? ⟨g, 5, none⟩ = some (.string ⟨#[]⟩) := c0 5 _ rfl
        have HNR : Hid (Src w4 A1 r ((wantN xs).map (Value.int .i64))) := Lib.hid (by have := own_src1 hn1 (by rw [List.length_map]); rwa [show (eCsi Q (wantN xs) [] F).nums = wantN xs from rfl, hlr] at this)
        clear ha4 hcs c0 hcv hg he4 hk4 X hsr hn1 hlr
        go_wp2_with fail
        refine (sameI_Ints A1 A r d1 c (wantN xs) _ HNR.out HWS4.out (by have := hr8.out; omega)).mono ?_
        rintro e w5 ⟨rfl, k5, rfl⟩
        go_wp2_with fail
        go_ret
        exact ⟨rfl, HB4.out.os, HB4.out.tape, HB4.out.output, HB4.out.size, HB4.out.block⟩

theorem walk_EscNumbers (A0 : Option Addr) (n cap : Nat) (xs : List Int) (m : Int) (wm : (Lit.int .i64 m).wf = true) (f : Int) (wf : (Lit.int .i64 f).wf = true) (w : World) (h : Ints w A0 n xs) :
    Calls Try.prog 5 #[.slice A0 n cap, .int .i64 m, .int .i64 f] w fun e w' => e = .returned (.bool true) ∧ Below w.heap.size w w' := by
  by_cases h20 : (n : Int) > 20
  · exact escNumbers_early A0 n cap m f w h20
  obtain ⟨t2, e3, l3, l4, m2, e4, hm2⟩ := rem63 f
  by_cases h1 : m < 60
  · exact escNumbers_low A0 n cap xs m f w h h20 t2 _ m2 e3 l3 l4 e4 rfl hm2 h1
  by_cases h2 : m > 63
  · exact escNumbers_high A0 n cap xs m f w h h20 t2 _ m2 e3 l3 l4 e4 rfl hm2 h2
  exact escNumbers_mark A0 n cap xs m f w h h20 t2 _ m2 e3 l3 l4 e4 rfl hm2 (by omega) (by omega)

end Go.Proofs.Ythphnjilbpidgaa
