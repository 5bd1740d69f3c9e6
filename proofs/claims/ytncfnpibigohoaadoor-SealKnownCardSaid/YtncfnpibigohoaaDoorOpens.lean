/- same, Open. Own work. -/
import Derived.Test.YtncfnpibigohoaaDoorTags
import Derived.Test.YtncfnpibigohoaaDoorClone
namespace Go.Proofs.YtncfnpibigohoaaDoor
set_option linter.unusedVariables false
open Go.RowKit

theorem tagL_len (key text : List UInt8) : (tagL key text).length = 16 := by
  unfold tagL
  rw [List.length_take, digest_len]; omega

/-- Are they the same bytes? -/
def sameB (a b : ByteArray) : Bool := decide (a.data.toList = b.data.toList)

theorem or_u8 (a b : UInt8) : bits .or .u8 (a.toNat : Int) (b.toNat : Int) = ((a ||| b).toNat : Int) := by
  rw [u8_or_nat _ _ a.toNat_lt b.toNat_lt, UInt8.toNat_or]

theorem differ_step (d x y : UInt8) : (d ||| (x ^^^ y)) = 0 ↔ d = 0 ∧ x = y := by
  rw [UInt8.or_eq_zero_iff, UInt8.xor_eq_zero_iff]

set_option maxRecDepth 100000 in
set_option maxHeartbeats 1600000 in
theorem same_any (a b : ByteArray) (w : World) (ha : a.size = 16) (hb : b.size = 16) :
    Calls Tryd.prog 20 #[.string a, .string b] w fun r w' => r = .returned (.bool (sameB a b)) ∧ ∃ k, w' = w.drewN k := by
  have HA := Lib.hid ha
  have HB := Lib.hid hb
  clear ha hb
  go_enter Tryd.func20, Tryd.ntmps20
  go_wp2_with fail
  go_loopw [5, 7] (fun d i wr => ∃ (k m : Nat) (x : UInt8), k ≤ 16 ∧ i = .int .i64 k ∧ d = .int .u8 x.toNat ∧ Hid (x = 0 ↔ a.data.toList.take k = b.data.toList.take k) ∧ Hid (wr = w.drewN m)) (fun _ i _ => 16 - (intOf i).toNat)
  case atStart => exact ⟨0, 0, 0, by omega, rfl, rfl, by show _ ↔ _; simp, rfl⟩
  case round =>
    obtain ⟨k, m, d, hk, rfl, rfl, HD, HW⟩ := hrel
    by_cases hlt : k < 16
    · have la : k < a.size := by rw [HA.out]; exact hlt
      have lb : k < b.size := by rw [HB.out]; exact hlt
      obtain ⟨x, hx⟩ : ∃ x, x = a[k] := ⟨_, rfl⟩
      obtain ⟨y, hy⟩ : ∃ y, y = b[k] := ⟨_, rfl⟩
      have gx : ∀ h : k < a.size, a[k] = x := fun h => hx.symm
      have gy : ∀ h : k < b.size, b[k] = y := fun h => hy.symm
      have ia : (k : Int) < (a.size : Int) := by omega
      have ib : (k : Int) < (b.size : Int) := by omega
      obtain ⟨z, hz⟩ : ∃ z, z = x ^^^ y := ⟨_, rfl⟩
      obtain ⟨dz, hdz⟩ : ∃ dz, dz = d ||| z := ⟨_, rfl⟩
      have e1 := xor_u8 x y
      rw [← hz] at e1
      have e2 := or_u8 d z
      rw [← hdz] at e2
      have hstep : dz = 0 ↔ a.data.toList.take (k + 1) = b.data.toList.take (k + 1) := by
        have qa : a.data.toList[k]? = some x := by rw [hx]; rw [List.getElem?_eq_getElem (by rw [← Lib.size_eq]; exact la)]; rfl
        have qb : b.data.toList[k]? = some y := by rw [hy]; rw [List.getElem?_eq_getElem (by rw [← Lib.size_eq]; exact lb)]; rfl
        rw [hdz, hz, differ_step, HD.out, take_next qa, take_next qb]
        constructor
        · rintro ⟨p, rfl⟩; rw [p]
        · intro p
          have := List.append_inj p (by simp; omega)
          exact ⟨this.1, by simpa using this.2⟩
      have HS := Lib.hid hstep
      clear hx hy hstep hz hdz
      go_wp2_with fail
      go_quiet (fail)
      go_wp2_with fail
      go_roundw
      case rel => exact ⟨k + 1, m + nq, dz, by omega, by go_num, rfl, HS, by show _ = _; rw [HW.out]; exact World.drewN_drewN _ _ _⟩
      case measure => simp [intOf]; omega
    · obtain rfl : k = 16 := by omega
      have he : ((d.toNat : Int) == 0) = sameB a b := by
        have h1 := HD.out
        rw [List.take_of_length_le (by rw [← Lib.size_eq, HA.out]; exact Nat.le_refl _), List.take_of_length_le (by rw [← Lib.size_eq, HB.out]; exact Nat.le_refl _)] at h1
        unfold sameB
        rw [Bool.eq_iff_iff, beq_iff_eq, decide_eq_true_eq, ← h1]
        constructor
        · intro h; exact UInt8.toNat_inj.1 (by simpa using h)
        · rintro rfl; rfl
      have HE := Lib.hid he
      clear he
      go_wp2_with fail
      go_ret
      exact ⟨by rw [← HE.out]; rfl, m, HW.out⟩

/-- What Open tells: the text, and the error. -/
def openL (key b : List UInt8) : List UInt8 × Int :=
  if b.length < 16 then ([], 2) else if b.drop (b.length - 16) = tagL key (b.take (b.length - 16)) then (b.take (b.length - 16), 0) else ([], 5)

set_option maxRecDepth 100000 in
set_option maxHeartbeats 1600000 in
theorem open_any (key b : ByteArray) (w : World) (hr : Roots w) (hk : key.size ≤ 100000) (hb : b.size ≤ 100000) :
    Calls Tryd.prog 10 #[.string key, .string b] w fun r w' => r = .returned (.tuple #[.string ⟨(openL key.data.toList b.data.toList).1.toArray⟩, .int .i64 (openL key.data.toList b.data.toList).2]) ∧ Below w.heap.size w w' := by
  have HR := Lib.hid hr
  clear hr
  by_cases h16 : b.size < 16
  · have he : openL key.data.toList b.data.toList = ([], 2) := by unfold openL; rw [if_pos (by rw [← Lib.size_eq]; exact h16)]
    rw [he]
    go_enter Tryd.func10, Tryd.ntmps10
    go_wp2_with fail
    go_ret2
    exact ⟨rfl, Below.refl _ _⟩
  · obtain ⟨m, hm⟩ : ∃ m, m = b.size - 16 := ⟨_, rfl⟩
    have a1 : IntKind.i64.wrap ((b.size : Int) - 16) = (m : Int) := by rw [IntWalk.i64_in _ (by omega)]; omega
    have a2 : (b.size : Int) - 16 = (m : Int) := by omega
    have hmb : m ≤ b.size := by omega
    have hmi : (m : Int) ≤ (b.size : Int) := by omega
    have hm0 : (0 : Int) ≤ (m : Int) := by omega
    obtain ⟨X, hX⟩ : ∃ X : ByteArray, X = b.extract 0 m := ⟨_, rfl⟩
    obtain ⟨Y, hY⟩ : ∃ Y : ByteArray, Y = b.extract m b.size := ⟨_, rfl⟩
    have hXl : X.data.toList = b.data.toList.take m := by rw [hX]; simp [ByteArray.data_extract]
    have hYl : Y.data.toList = b.data.toList.drop m := by
      rw [hY]; simp [ByteArray.data_extract]
      rw [List.take_of_length_le (by simp)]
    have hXs : X.size ≤ 100000 := by rw [Lib.size_eq, hXl, List.length_take]; omega
    have hYs : Y.size = 16 := by rw [Lib.size_eq, hYl, List.length_drop, ← Lib.size_eq]; omega
    obtain ⟨T, hT⟩ : ∃ T : ByteArray, T = ⟨(tagL key.data.toList X.data.toList).toArray⟩ := ⟨_, rfl⟩
    have hTs : T.size = 16 := by rw [hT, size_mk, tagL_len]
    have hop : openL key.data.toList b.data.toList = if sameB Y T = true then (X.data.toList, 0) else ([], 5) := by
      unfold openL
      rw [if_neg (by rw [← Lib.size_eq]; omega), ← Lib.size_eq, ← hm, ← hXl, ← hYl]
      unfold sameB
      simp [hT]
    have ht : ∀ W : World, Roots W → Calls Tryd.prog 12 #[.string key, .slice (some ⟨W.heap.size, 0, none⟩) 1 1] (W.alloc (.cells #[.string X] 9)) fun r w' => r = .returned (.string T) ∧ Below W.heap.size W w' := fun W hW => by
      have hb0 : Below W.heap.size W (W.alloc (.cells #[.string X] 9)) := (Below.refl _ _).alloc (Nat.le_refl _) _
      have := tag_any key (some ⟨W.heap.size, 0, none⟩) 1 1 [X] (W.alloc (.cells #[.string X] 9)) (src_one _ _ _ rfl) (hW.below hb0) (by rw [sum_one]; exact hXs) (by omega) hk
      refine this.mono fun r w' ⟨h1, h2⟩ => ⟨?_, hb0.trans (h2.mono hb0.size)⟩
      rw [h1, hT]
      simp [joinL]
    have HT := Lib.hid ht
    have HX := Lib.hid hX
    have HY := Lib.hid hY
    have HYS := Lib.hid hYs
    have HTS := Lib.hid hTs
    have HOP := Lib.hid hop
    have hb16 : ¬ (b.size : Int) < 16 := by omega
    clear ht hXl hYl hYs hT hTs hop hm h16
    go_enter Tryd.func10, Tryd.ntmps10
    go_wp2_with fail
    go_quiet (fail)
    rw [← hX, ← hY]
    clear hX hY
    generalize hwq : w.drewN nq = wq
    have HBq : Hid (Below w.heap.size w wq) := by show Below _ _ _; rw [← hwq]; exact below_drewN (Below.refl _ _) _
    have HRq : Hid (Roots wq) := by show Roots _; rw [← hwq]; exact HR.out
    clear hwq
    go_wp2_with fail
    refine (HT.out wq HRq.out).mono ?_
    rintro r w1 ⟨rfl, hb1⟩
    have HB1 := Lib.hid (HBq.out.trans (hb1.mono HBq.out.size))
    clear hb1
    by_cases hs : sameB Y T = true
    · have hop := HOP.out
      rw [if_pos hs] at hop
      have HO := Lib.hid hop
      clear hop
      go_wp2_with fail
      refine (same_any Y T w1 HYS.out HTS.out).mono ?_
      rintro r w2 ⟨rfl, kk, rfl⟩
      rw [hs]
      clear hs
      go_wp2_with fail
      refine (clone_any X _ (by omega)).mono ?_
      rintro r w3 ⟨rfl, hb3⟩
      have HB3 : Hid (Below w.heap.size w w3) := (below_drewN HB1.out kk).trans (hb3.mono (below_drewN HB1.out kk).size)
      clear hb3
      go_wp2_with fail
      go_ret2
      refine ⟨?_, HB3.out⟩
      rw [HO.out, mk_data]
      rfl
    · have hs' : sameB Y T = false := by simpa using hs
      have hop := HOP.out
      rw [if_neg hs] at hop
      have HO := Lib.hid hop
      clear hop hs
      go_wp2_with fail
      refine (same_any Y T w1 HYS.out HTS.out).mono ?_
      rintro r w2 ⟨rfl, kk, rfl⟩
      rw [hs']
      clear hs'
      go_wp2_with fail
      go_ret2
      refine ⟨?_, below_drewN HB1.out kk⟩
      rw [HO.out]
      rfl

end Go.Proofs.YtncfnpibigohoaaDoor
