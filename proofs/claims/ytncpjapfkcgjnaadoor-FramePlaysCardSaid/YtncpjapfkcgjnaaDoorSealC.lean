/- same, Open. Own work. slices.Grow, slices.Concat of two. Own work. Seal. Own work. -/
import Derived.Test.YtncpjapfkcgjnaaDoorSealB
import Derived.Test.YtncpjapfkcgjnaaDoorBase
import Derived.Lib.AppendZerosOnto
set_option linter.unusedVariables false
set_option linter.unusedSimpArgs false
namespace Go.Proofs.YtncpjapfkcgjnaaDoor
set_option linter.unusedVariables false
open Go.RowKit

theorem tagL_len (key text : List UInt8) : (tagL key text).length = 16 := by
  unfold tagL
  rw [List.length_take, digest_len]; omega

/-- Are they the same bytes? -/
def sameB (a b : ByteArray) : Bool := decide (a.data.toList = b.data.toList)

theorem or_u8 (a b : UInt8) : bits .or .u8 (a.toNat : Int) (b.toNat : Int) = ((a ||| b).toNat : Int) := by
  rw [u8_or_nat _ _ a.toNat_lt b.toNat_lt, UInt8.toNat_or]

theorem differ_step (d x y : UInt8) : (d ||| (x ^^^ y)) = 0 ↔ d = 0 ∧ x = y := by
  rw [UInt8.or_eq_zero_iff, UInt8.xor_eq_zero_iff]

set_option maxRecDepth 100000 in
set_option maxHeartbeats 1600000 in
theorem same_any (a b : ByteArray) (w : World) (ha : a.size = 16) (hb : b.size = 16) :
    Calls Tryd.prog 40 #[.string a, .string b] w fun r w' => r = .returned (.bool (sameB a b)) ∧ ∃ k, w' = w.drewN k := by
  have HA := Lib.hid ha
  have HB := Lib.hid hb
  clear ha hb
  go_enter Tryd.func40, Tryd.ntmps40
  go_wp2_with fail
  go_loopw [5, 7] (fun d i wr => ∃ (k m : Nat) (x : UInt8), k ≤ 16 ∧ i = .int .i64 k ∧ d = .int .u8 x.toNat ∧ Hid (x = 0 ↔ a.data.toList.take k = b.data.toList.take k) ∧ Hid (wr = w.drewN m)) (fun _ i _ => 16 - (intOf i).toNat)
  case atStart => exact ⟨0, 0, 0, by omega, rfl, rfl, by show _ ↔ _; simp, rfl⟩
  case round =>
    obtain ⟨k, m, d, hk, rfl, rfl, HD, HW⟩ := hrel
    by_cases hlt : k < 16
    · have la : k < a.size := by rw [HA.out]; exact hlt
      have lb : k < b.size := by rw [HB.out]; exact hlt
      obtain ⟨x, hx⟩ : ∃ x, x = a[k] := ⟨_, rfl⟩
      obtain ⟨y, hy⟩ : ∃ y, y = b[k] := ⟨_, rfl⟩
      have gx : ∀ h : k < a.size, a[k] = x := fun h => hx.symm
      have gy : ∀ h : k < b.size, b[k] = y := fun h => hy.symm
      have ia : (k : Int) < (a.size : Int) := by omega
      have ib : (k : Int) < (b.size : Int) := by omega
      obtain ⟨z, hz⟩ : ∃ z, z = x ^^^ y := ⟨_, rfl⟩
      obtain ⟨dz, hdz⟩ : ∃ dz, dz = d ||| z := ⟨_, rfl⟩
      have e1 := xor_u8 x y
      rw [← hz] at e1
      have e2 := or_u8 d z
      rw [← hdz] at e2
      have hstep : dz = 0 ↔ a.data.toList.take (k + 1) = b.data.toList.take (k + 1) := by
        have qa : a.data.toList[k]? = some x := by rw [hx]; rw [List.getElem?_eq_getElem (by rw [← Lib.size_eq]; exact la)]; rfl
        have qb : b.data.toList[k]? = some y := by rw [hy]; rw [List.getElem?_eq_getElem (by rw [← Lib.size_eq]; exact lb)]; rfl
        rw [hdz, hz, differ_step, HD.out, take_next qa, take_next qb]
        constructor
        · rintro ⟨p, rfl⟩; rw [p]
        · intro p
          have := List.append_inj p (by simp; omega)
          exact ⟨this.1, by simpa using this.2⟩
      have HS := Lib.hid hstep
      clear hx hy hstep hz hdz
      go_wp2_with fail
      go_quiet (fail)
      go_wp2_with fail
      go_roundw
      case rel => exact ⟨k + 1, m + nq, dz, by omega, by go_num, rfl, HS, by show _ = _; rw [HW.out]; exact World.drewN_drewN _ _ _⟩
      case measure => simp [intOf]; omega
    · obtain rfl : k = 16 := by omega
      have he : ((d.toNat : Int) == 0) = sameB a b := by
        have h1 := HD.out
        rw [List.take_of_length_le (by rw [← Lib.size_eq, HA.out]; exact Nat.le_refl _), List.take_of_length_le (by rw [← Lib.size_eq, HB.out]; exact Nat.le_refl _)] at h1
        unfold sameB
        rw [Bool.eq_iff_iff, beq_iff_eq, decide_eq_true_eq, ← h1]
        constructor
        · intro h; exact UInt8.toNat_inj.1 (by simpa using h)
        · rintro rfl; rfl
      have HE := Lib.hid he
      clear he
      go_wp2_with fail
      go_ret
      exact ⟨by rw [← HE.out]; rfl, m, HW.out⟩

/-- What Open tells: the text, and the error. -/
def openL (key b : List UInt8) : List UInt8 × Int :=
  if b.length < 16 then ([], 2) else if b.drop (b.length - 16) = tagL key (b.take (b.length - 16)) then (b.take (b.length - 16), 0) else ([], 5)

set_option maxRecDepth 100000 in
set_option maxHeartbeats 1600000 in
theorem open_any (key b : ByteArray) (w : World) (hr : Roots w) (hk : key.size ≤ 100000) (hb : b.size ≤ 100000) :
    Calls Tryd.prog 26 #[.string key, .string b] w fun r w' => r = .returned (.tuple #[.string ⟨(openL key.data.toList b.data.toList).1.toArray⟩, .int .i64 (openL key.data.toList b.data.toList).2]) ∧ Below w.heap.size w w' := by
  have HR := Lib.hid hr
  clear hr
  by_cases h16 : b.size < 16
  · have he : openL key.data.toList b.data.toList = ([], 2) := by unfold openL; rw [if_pos (by rw [← Lib.size_eq]; exact h16)]
    rw [he]
    go_enter Tryd.func26, Tryd.ntmps26
    go_wp2_with fail
    go_ret2
    exact ⟨rfl, Below.refl _ _⟩
  · obtain ⟨m, hm⟩ : ∃ m, m = b.size - 16 := ⟨_, rfl⟩
    have a1 : IntKind.i64.wrap ((b.size : Int) - 16) = (m : Int) := by rw [IntWalk.i64_in _ (by omega)]; omega
    have a2 : (b.size : Int) - 16 = (m : Int) := by omega
    have hmb : m ≤ b.size := by omega
    have hmi : (m : Int) ≤ (b.size : Int) := by omega
    have hm0 : (0 : Int) ≤ (m : Int) := by omega
    obtain ⟨X, hX⟩ : ∃ X : ByteArray, X = b.extract 0 m := ⟨_, rfl⟩
    obtain ⟨Y, hY⟩ : ∃ Y : ByteArray, Y = b.extract m b.size := ⟨_, rfl⟩
    have hXl : X.data.toList = b.data.toList.take m := by rw [hX]; simp [ByteArray.data_extract]
    have hYl : Y.data.toList = b.data.toList.drop m := by
      rw [hY]; simp [ByteArray.data_extract]
      rw [List.take_of_length_le (by simp)]
    have hXs : X.size ≤ 100000 := by rw [Lib.size_eq, hXl, List.length_take]; omega
    have hYs : Y.size = 16 := by rw [Lib.size_eq, hYl, List.length_drop, ← Lib.size_eq]; omega
    obtain ⟨T, hT⟩ : ∃ T : ByteArray, T = ⟨(tagL key.data.toList X.data.toList).toArray⟩ := ⟨_, rfl⟩
    have hTs : T.size = 16 := by rw [hT, size_mk, tagL_len]
    have hop : openL key.data.toList b.data.toList = if sameB Y T = true then (X.data.toList, 0) else ([], 5) := by
      unfold openL
      rw [if_neg (by rw [← Lib.size_eq]; omega), ← Lib.size_eq, ← hm, ← hXl, ← hYl]
      unfold sameB
      simp [hT]
    have ht : ∀ W : World, Roots W → Calls Tryd.prog 39 #[.string key, .slice (some ⟨W.heap.size, 0, none⟩) 1 1] (W.alloc (.cells #[.string X] 9)) fun r w' => r = .returned (.string T) ∧ Below W.heap.size W w' := fun W hW => by
      have hb0 : Below W.heap.size W (W.alloc (.cells #[.string X] 9)) := (Below.refl _ _).alloc (Nat.le_refl _) _
      have := tag_any key (some ⟨W.heap.size, 0, none⟩) 1 1 [X] (W.alloc (.cells #[.string X] 9)) (src_one _ _ _ rfl) (hW.below hb0) (by rw [sum_one]; exact hXs) (by omega) hk
      refine this.mono fun r w' ⟨h1, h2⟩ => ⟨?_, hb0.trans (h2.mono hb0.size)⟩
      rw [h1, hT]
      simp [joinL]
    have HT := Lib.hid ht
    have HX := Lib.hid hX
    have HY := Lib.hid hY
    have HYS := Lib.hid hYs
    have HTS := Lib.hid hTs
    have HOP := Lib.hid hop
    have hb16 : ¬ (b.size : Int) < 16 := by omega
    clear ht hXl hYl hYs hT hTs hop hm h16
    go_enter Tryd.func26, Tryd.ntmps26
    go_wp2_with fail
    go_quiet (fail)
    rw [← hX, ← hY]
    clear hX hY
    generalize hwq : w.drewN nq = wq
    have HBq : Hid (Below w.heap.size w wq) := by show Below _ _ _; rw [← hwq]; exact below_drewN (Below.refl _ _) _
    have HRq : Hid (Roots wq) := by show Roots _; rw [← hwq]; exact HR.out
    clear hwq
    go_wp2_with fail
    refine (HT.out wq HRq.out).mono ?_
    rintro r w1 ⟨rfl, hb1⟩
    have HB1 := Lib.hid (HBq.out.trans (hb1.mono HBq.out.size))
    clear hb1
    by_cases hs : sameB Y T = true
    · have hop := HOP.out
      rw [if_pos hs] at hop
      have HO := Lib.hid hop
      clear hop
      go_wp2_with fail
      refine (same_any Y T w1 HYS.out HTS.out).mono ?_
      rintro r w2 ⟨rfl, kk, rfl⟩
      rw [hs]
      clear hs
      go_wp2_with fail
      refine (clone_any X _ (by omega)).mono ?_
      rintro r w3 ⟨rfl, hb3⟩
      have HB3 : Hid (Below w.heap.size w w3) := (below_drewN HB1.out kk).trans (hb3.mono (below_drewN HB1.out kk).size)
      clear hb3
      go_wp2_with fail
      go_ret2
      refine ⟨?_, HB3.out⟩
      rw [HO.out, mk_data]
      rfl
    · have hs' : sameB Y T = false := by simpa using hs
      have hop := HOP.out
      rw [if_neg hs] at hop
      have HO := Lib.hid hop
      clear hop hs
      go_wp2_with fail
      refine (same_any Y T w1 HYS.out HTS.out).mono ?_
      rintro r w2 ⟨rfl, kk, rfl⟩
      rw [hs']
      clear hs'
      go_wp2_with fail
      go_ret2
      refine ⟨?_, below_drewN HB1.out kk⟩
      rw [HO.out]
      rfl

end Go.Proofs.YtncpjapfkcgjnaaDoor
namespace Go.Proofs.YtncpjapfkcgjnaaDoor
set_option linter.unusedVariables false
open Go.RowKit

set_option maxRecDepth 100000 in
set_option maxHeartbeats 1600000 in
theorem grow_any (n : Nat) (w : World) (h1 : 1 ≤ n) (h2 : n ≤ 1000000) :
    Calls Tryd.prog 54 #[.slice none 0 0, .int .i64 n] w fun r w' => ∃ A c, r = .returned (.slice A 0 c) ∧ Buf w' A 0 c [] ∧ Below w.heap.size w w' ∧ (∀ k, blk A = some k → w.heap.size ≤ k) := by
  obtain ⟨i0, hi, hz0, hz1, hz2⟩ := info_parts string_info
  have hap : ∀ W : World, (Builtin.append_ #[47, 3] 47 #[.slice none 0 0, .int .i64 (n : Int)]).run Tryd.prog W =
      .ok (.slice (some ⟨W.heap.size, 0, none⟩) n (grownCap W n 0 9)) (W.drew.alloc (.cells (Builtin.zeroCells (Value.string .empty).cells n ++ Builtin.zeroCells (Value.string .empty).cells (grownCap W n 0 9 - n)) 9)) := fun W => by
    have := Lib.run_append_grow_zeros (P := Tryd.prog) W 47 3 47 9 i0 (.string .empty) .i64 .i64 Tryd.underlying47 Tryd.underlying3 hi hz0 none 0 0 [] (by simp [Builtin.firstCells]) n (by omega) (by rw [hz1]; omega) (by omega) (by omega) (by rw [hz2]; omega) (by rw [hz2]; exact growslice_fits (by omega) (by omega))
    simpa using this
  have hcap : ∀ W : World, n ≤ grownCap W n 0 9 ∧ grownCap W n 0 9 ≤ maxLen := fun W => ⟨grownCap_ge W n 0 _, grownCap_le_maxLen W n 0 _ (by unfold maxLen; omega)⟩
  have HAP := Lib.hid hap
  have HCAP := Lib.hid hcap
  clear hap hcap
  go_enter Tryd.func54, Tryd.ntmps54
  go_wp2_with (at_builtin; refine wpList_plain rfl fun K hK => ?_; unfold Oper.wp execOp; simp only [resolve, invoke, builtin, Sem.run_bind, Sem.run_pure, Result.andThen_ok, List.map_toArray, List.map_cons, List.map_nil]; rw [show (Builtin.append_ _ _ #[Act.eval _ _, Act.eval _ _]).run _ _ = _ from HAP.out _]; refine hK _ _ ?_)
  go_ret
  refine ⟨_, _, rfl, ?_, ((Below.refl _ _).drew).alloc (Nat.le_refl _) _, fun k hk => by simp [blk] at hk; omega⟩
  obtain ⟨q1, q2⟩ := HCAP.out w
  obtain ⟨C, hC⟩ : ∃ C : Array Value, C = Builtin.zeroCells (Value.string .empty).cells n ++ Builtin.zeroCells (Value.string .empty).cells (grownCap w n 0 9 - n) := ⟨_, rfl⟩
  have hCs : C.size = grownCap w n 0 9 := by
    rw [hC, Array.size_append, size_zeroCells, size_zeroCells]
    simp [Value.cells]
    omega
  have hrow := Row.of_block (heap_alloc_new w.drew (.cells C 9)) (.inl (Nat.le_refl _)) (n := 0) (by omega) (by rw [hCs]; exact q2)
  rw [hCs, List.take_zero] at hrow
  have hC' : Builtin.zeroCells #[Value.string ByteArray.empty] n ++ Builtin.zeroCells #[Value.string ByteArray.empty] (grownCap w n 0 9 - n) = C := hC.symm
  rw [hC']
  exact .inr ⟨_, 0, rfl, by simp, hrow⟩

set_option maxRecDepth 100000 in
set_option maxHeartbeats 3200000 in
/-- Two rows of texts, one behind the other. -/
theorem concat_two (S : Option Addr) (A B : Option Addr) (n m ca cb cs : Nat) (xs ys : List Value) (w : World) (hS : Src w S 2 [.slice A n ca, .slice B m cb]) (hA : Src w A n xs) (hB : Src w B m ys)
    (h1 : ∀ u ∈ xs, u.oneCell' = true) (h2 : ∀ u ∈ ys, u.oneCell' = true) (hn : n ≤ 100000) (hm : 1 ≤ m) (hm2 : m ≤ 100000) :
    Calls Tryd.prog 38 #[.slice S 2 cs] w fun r w' => ∃ R c, r = .returned (.slice R (n + m) c) ∧ Src w' R (n + m) (xs ++ ys) ∧ n + m ≤ c ∧ Below w.heap.size w w' := by
  obtain ⟨b, off, rfl, hb, hc⟩ := hS.2 (by omega)
  have c0 := hc 0 _ rfl
  have c1 := hc 1 _ rfl
  rw [Nat.add_zero] at c0
  obtain ⟨i0, hi, hz0, hz1, hz2⟩ := info_parts string_info
  have HA := Lib.hid hA
  have HB := Lib.hid hB
  have H1 := Lib.hid h1
  have H2 := Lib.hid h2
  have HI := Lib.hid hi
  have HZ0 := Lib.hid hz0
  have HZ1 := Lib.hid hz1
  have HZ2 := Lib.hid hz2
  have CC0 := Lib.hid c0
  have CC1 := Lib.hid c1
  clear hS hc hA hB h1 h2 hi hz0 hz1 hz2
  go_enter Tryd.func38, Tryd.ntmps38
  go_wp2_with fail
  go_loop [3, 11] (fun z i => ∃ k q : Nat, i = .int .i64 k ∧ z = .int .i64 q ∧ ((k = 0 ∧ q = 0) ∨ (k = 1 ∧ q = n) ∨ (k = 2 ∧ q = n + m))) (fun _ i => 2 - (intOf i).toNat)
  case atStart => exact ⟨0, 0, rfl, rfl, .inl ⟨rfl, rfl⟩⟩
  case round =>
    obtain ⟨k, q, rfl, rfl, hkq⟩ := hrel
    rcases hkq with ⟨rfl, hq⟩ | ⟨rfl, hq⟩ | ⟨rfl, hq⟩ <;> obtain rfl := hq.symm
    · have h0 : ¬ ((n : Int) < 0) := by omega
      go_wp2_with fail
      go_round
      case rel => exact ⟨1, n, by go_num, by go_num, .inr (.inl ⟨rfl, rfl⟩)⟩
      case measure => simp [intOf]
    · have h0 : ¬ ((n : Int) + (m : Int) < 0) := by omega
      go_wp2_with fail
      go_round
      case rel => exact ⟨2, n + m, by go_num, by go_num, .inr (.inr ⟨rfl, rfl⟩)⟩
      case measure => simp [intOf]
    · rw [show ((2 : Nat) : Int) = 2 from rfl]
      clear c0 c1
      go_wp2_with fail
      refine (grow_any (n + m) w (by omega) (by omega)).mono ?_
      rintro r w1 ⟨G, c, rfl, hbuf, hb1, hfar⟩
      have HG := Lib.hid hbuf
      have HB1 := Lib.hid hb1
      have HF := Lib.hid hfar
      have C0 := Lib.hid ((hb1.cell (p := ⟨b, off, none⟩) hb).trans CC0.out)
      have C1 := Lib.hid ((hb1.cell (p := ⟨b, off + 1, none⟩) hb).trans CC1.out)
      clear hbuf hb1 hfar
      go_wp2_with fail
      go_loopw [6, 27] (fun v i wr => ∃ (k : Nat) (R : Option Addr) (c : Nat) (us : List Value), i = .int .i64 k ∧ v = .slice R us.length c ∧ ((k = 0 ∧ us = []) ∨ (k = 1 ∧ us = xs) ∨ (k = 2 ∧ us = xs ++ ys)) ∧ Hid (Buf wr R us.length c us) ∧ Hid (∀ j, blk R = some j → w.heap.size ≤ j) ∧ Hid (Below w.heap.size w wr)) (fun _ i _ => 2 - (intOf i).toNat)
      case atStart => exact ⟨0, G, c, [], rfl, rfl, .inl ⟨rfl, rfl⟩, HG, HF, HB1⟩
      clear C0 C1
      case round =>
        obtain ⟨k, R, c2, us, rfl, rfl, hku, HQ, HFa, HBw⟩ := hrel
        have xl := HA.out.1
        have yl := HB.out.1
        rcases hku with ⟨rfl, hu⟩ | ⟨rfl, hu⟩ | ⟨rfl, hu⟩ <;> obtain rfl := hu.symm
        · have c0 := (HBw.out.cell (p := ⟨b, off, none⟩) hb).trans CC0.out
          have HS := Lib.hid (HA.out.below HBw.out)
          have XL := Lib.hid xl
          clear xl yl
          go_wp2_with (at_builtin; refine wpList_append_buf _ rfl (.tmp 31) (.tmp 32) 47 rfl 9 i0 (.string .empty) 16 Tryd.underlying47 HI.out HZ0.out HZ1.out HZ2.out rfl rfl HQ.out xs rfl HS.out H1.out (by unfold maxLen; simp; omega) (by simp; omega) ?_)
          intro A' c' w2 hb2 hk2 hf2
          have HQ2 : Hid (Buf w2 A' xs.length c' xs) := by
            show Buf _ _ _ _ _
            rw [XL.out]
            simpa using hb2
          have HB2 := Lib.hid (HBw.out.trans (hk2.below HBw.out.size (fun j hj e => by have := HFa.out j e; omega)))
          have HF2 : Hid (∀ j, blk A' = some j → w.heap.size ≤ j) := fun j hj => by
            rcases hf2 j hj with e | e
            · exact HFa.out j e
            · exact Nat.le_trans HBw.out.size e
          clear hb2 hk2 hf2
          go_wp2_with fail
          go_roundw
          case rel => exact ⟨1, A', c', xs, by go_num, by rw [XL.out], .inr (.inl ⟨rfl, rfl⟩), HQ2, HF2, HB2⟩
          case measure => simp [intOf]
        · have c1 := (HBw.out.cell (p := ⟨b, off + 1, none⟩) hb).trans CC1.out
          have HS := Lib.hid (HB.out.below HBw.out)
          have XL := Lib.hid xl
          have YL := Lib.hid yl
          have hxl : xs.length ≤ 100000 := by omega
          clear xl yl
          go_wp2_with (at_builtin; refine wpList_append_buf _ rfl (.tmp 31) (.tmp 32) 47 rfl 9 i0 (.string .empty) 16 Tryd.underlying47 HI.out HZ0.out HZ1.out HZ2.out rfl rfl HQ.out ys rfl HS.out H2.out (by unfold maxLen; omega) (by omega) ?_)
          intro A' c' w2 hb2 hk2 hf2
          have e : xs.length + m = (xs ++ ys).length := by rw [List.length_append, YL.out]
          have HQ2 : Hid (Buf w2 A' (xs ++ ys).length c' (xs ++ ys)) := by
            show Buf _ _ _ _ _
            rw [← e]; exact hb2
          have HB2 := Lib.hid (HBw.out.trans (hk2.below HBw.out.size (fun j hj e => by have := HFa.out j e; omega)))
          have HF2 : Hid (∀ j, blk A' = some j → w.heap.size ≤ j) := fun j hj => by
            rcases hf2 j hj with e | e
            · exact HFa.out j e
            · exact Nat.le_trans HBw.out.size e
          rw [e]
          clear hb2 hk2 hf2 e
          go_wp2_with fail
          go_roundw
          case rel => exact ⟨2, A', c', xs ++ ys, by go_num, rfl, .inr (.inr ⟨rfl, rfl⟩), HQ2, HF2, HB2⟩
          case measure => simp [intOf]
        · rw [show ((2 : Nat) : Int) = 2 from rfl]
          have e : (xs ++ ys).length = n + m := by rw [List.length_append, xl, yl]
          rw [e] at HQ ⊢
          have hcc := HQ.out.le
          clear xl yl e
          go_wp2_with fail
          go_ret
          exact ⟨R, c2, rfl, HQ.out.src, hcc, HBw.out⟩
end Go.Proofs.YtncpjapfkcgjnaaDoor
namespace Go.Proofs.YtncpjapfkcgjnaaDoor
set_option linter.unusedVariables false
open Go.RowKit

theorem join_plain (l : List (List UInt8)) : Lib.join l [] = l.flatten := by
  cases l with
  | nil => rfl
  | cons x r =>
    rw [Lib.join_cons]
    simp [Lib.joinTail]

theorem tagL_len' (key text : List UInt8) : (tagL key text).length = 16 := by
  unfold tagL
  rw [List.length_take, digest_len]; omega

/-- What Seal tells. -/
def sealedL (key text : List UInt8) : List UInt8 := text ++ tagL key text

theorem sealed_join (key : List UInt8) (xs : List ByteArray) (T : ByteArray) (h : T.data.toList = tagL key (joinL xs)) : Lib.join ((xs ++ [T]).map (·.data.toList)) [] = sealedL key (joinL xs) := by
  rw [join_plain]
  simp [sealedL, joinL, h, List.flatMap]

set_option maxRecDepth 100000 in
set_option maxHeartbeats 1600000 in
theorem sealing_any (key : ByteArray) (A : Option Addr) (n c : Nat) (xs : List ByteArray) (w : World) (h : Src w A n (xs.map Value.string)) (hr : Roots w) (hs : sum xs ≤ 100000) (hn : n ≤ 100000) (hk : key.size ≤ 100000) :
    Calls Tryd.prog 24 #[.string key, .slice A n c] w fun r w' => r = .returned (.string ⟨(sealedL key.data.toList (joinL xs)).toArray⟩) ∧ Below w.heap.size w w' := by
  obtain ⟨T, hT⟩ : ∃ T : ByteArray, T = ⟨(tagL key.data.toList (joinL xs)).toArray⟩ := ⟨_, rfl⟩
  have hTl : T.data.toList = tagL key.data.toList (joinL xs) := by rw [hT]
  have htag := tag_any key A n c xs w h hr hs (by omega) hk
  rw [← hT] at htag
  have hjoin := sealed_join key.data.toList xs T hTl
  have hl : xs.length = n := by have := h.1; rwa [List.length_map] at this
  have HT := Lib.hid htag
  have HJ := Lib.hid hjoin
  have H := Lib.hid h
  have HL := Lib.hid hl
  have hlen : (sealedL key.data.toList (joinL xs)).length ≤ 140737488355328 := by
    unfold sealedL
    rw [List.length_append, joinL_len, tagL_len']; omega
  clear hT hTl htag hjoin h hl hr
  go_enter Tryd.func24, Tryd.ntmps24
  go_wp2_with fail
  refine HT.out.mono ?_
  rintro r w1 ⟨rfl, hb1⟩
  have HB1 := Lib.hid hb1
  have HS1 := Lib.hid (H.out.below hb1)
  clear hb1
  go_wp2_with fail
  have hba : Below w1.heap.size w1 (w1.alloc (.cells #[.string T] 9)) := (Below.refl _ _).alloc (Nat.le_refl _) _
  have hbb : Below w1.heap.size w1 ((w1.alloc (.cells #[.string T] 9)).alloc (.cells #[.slice A n c, .slice (some ⟨w1.heap.size, 0, none⟩) 1 1] 47)) := hba.alloc hba.size _
  have hsz : (w1.alloc (.cells #[.string T] 9)).heap.size = w1.heap.size + 1 := by simp
  have hone := (src_one (w := w1) (.string T) 9 w1.heap.size rfl).below ((Below.refl _ _).alloc (Nat.le_refl _) (.cells #[.slice A n c, .slice (some ⟨w1.heap.size, 0, none⟩) 1 1] 47))
  have htwo := src_two (w := w1.alloc (.cells #[.string T] 9)) (.slice A n c) (.slice (some ⟨w1.heap.size, 0, none⟩) 1 1) 47 (w1.heap.size + 1) hsz.symm
  refine (concat_two (some ⟨w1.heap.size + 1, 0, none⟩) A (some ⟨w1.heap.size, 0, none⟩) n 1 c 1 2 (xs.map Value.string) [.string T] _ htwo (HS1.out.below hbb) hone (by intro u hu; obtain ⟨x, _, rfl⟩ := List.mem_map.1 hu; rfl) (by intro u hu; simp at hu; subst hu; rfl) hn (by omega) (by omega)).mono ?_
  rintro r w2 ⟨R, cr, rfl, hsrc, hcr, hb2⟩
  obtain ⟨b, off, rfl, hbl, hcell⟩ := hsrc.2 (by omega)
  have HB2 := Lib.hid ((HB1.out.trans (hbb.mono HB1.out.size)).trans (hb2.mono (Nat.le_trans HB1.out.size hbb.size)))
  have hlx : (xs ++ [T]).length = n + 1 := by rw [List.length_append, HL.out]; rfl
  have hcells : ∀ (j : Nat) x, (xs ++ [T])[j]? = some x → w2.cell? ⟨b, off + j, none⟩ = some (.string x) := fun j x hx => by
    refine hcell j (.string x) ?_
    rw [show xs.map Value.string ++ [.string T] = (xs ++ [T]).map Value.string from by simp, List.getElem?_map, hx]
    rfl
  have hjn := Tryd.strings_Join b off cr (xs ++ [T]) ⟨#[]⟩ w2 hcells hbl (by rw [hlx]; omega) (by rw [hlx]; exact hcr) (by
    show (Lib.join _ []).length ≤ _
    rw [HJ.out]; exact hlen)
  rw [hlx] at hjn
  have hjn' : Calls Tryd.prog 37 #[.slice (some ⟨b, off, none⟩) (n + 1) cr, .string ⟨#[]⟩] w2 fun e w' => e = .returned (.string ⟨(sealedL key.data.toList (joinL xs)).toArray⟩) ∧ Below w2.heap.size w2 w' := by
    refine hjn.mono fun e w' ⟨h1, h2⟩ => ⟨?_, h2⟩
    rw [h1, ← HJ.out]
  have HJN := Lib.hid hjn'
  clear hba hbb hsz hone htwo hsrc hcell hb2 hlx hcells hjn hjn' hcr
  go_wp2_with fail
  refine HJN.out.mono ?_
  rintro r w3 ⟨rfl, hb3⟩
  have HB3 := Lib.hid (HB2.out.trans (hb3.mono HB2.out.size))
  clear hb3
  go_wp2_with fail
  go_ret
  exact ⟨rfl, HB3.out⟩

end Go.Proofs.YtncpjapfkcgjnaaDoor
