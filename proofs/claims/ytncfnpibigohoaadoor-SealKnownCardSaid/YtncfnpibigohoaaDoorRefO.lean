/- The document's own Seal and Open. Own work. -/
import Derived.Test.YtncfnpibigohoaaDoorRefT
namespace Go.Proofs.YtncfnpibigohoaaDoor
set_option linter.unusedVariables false
open Go.RowKit

theorem refseal_any (key x : ByteArray) (w : World) (hk2 : key.size ≤ 90000) (hx : x.size ≤ 90000) :
    Calls Tryd.prog 15 #[.string key, .string x] w fun r w' => r = .returned (.string ⟨(sealedL key.data.toList x.data.toList).toArray⟩) ∧ Below w.heap.size w w' := by
  obtain ⟨T, hT⟩ : ∃ T : ByteArray, T = ⟨(tagL key.data.toList x.data.toList).toArray⟩ := ⟨_, rfl⟩
  have hTs : T.size = 16 := by rw [hT, size_mk, tagL_len]
  have ht := reftag_any key x w hk2 hx
  rw [← hT] at ht
  have HT := Lib.hid ht
  have HE : Hid (x ++ T = (⟨(sealedL key.data.toList x.data.toList).toArray⟩ : ByteArray)) := by
    show _ = _
    rw [hT]
    apply ByteArray.ext
    simp [sealedL]
  have hz : x.size + T.size ≤ 9223372036854775807 := by omega
  clear hT hTs ht
  go_enter Tryd.func15, Tryd.ntmps15
  go_wp2_with fail
  refine HT.out.mono ?_
  rintro r w1 ⟨rfl, hb⟩
  have HB := Lib.hid hb
  clear hb
  go_wp2_with fail
  go_ret
  exact ⟨by rw [← HE.out]; rfl, HB.out⟩

theorem sealed_open (key b : ByteArray) (m : Nat) (X : ByteArray) (hm : m = b.size - 16) (h16 : ¬ b.size < 16) (hX : X.data.toList = b.data.toList.take m) :
    openL key.data.toList b.data.toList = if sealedL key.data.toList X.data.toList = b.data.toList then (X.data.toList, 0) else ([], 5) := by
  unfold openL sealedL
  rw [if_neg (by rw [← Lib.size_eq]; omega), ← Lib.size_eq, ← hm, ← hX]
  have e : (X.data.toList ++ tagL key.data.toList X.data.toList = b.data.toList) ↔ (b.data.toList.drop m = tagL key.data.toList X.data.toList) := by
    have hs := (List.take_append_drop m b.data.toList)
    constructor
    · intro h
      rw [← hs, ← hX] at h
      exact (List.append_cancel_left h).symm
    · intro h
      rw [← h, hX, hs]
  by_cases h : b.data.toList.drop m = tagL key.data.toList X.data.toList
  · rw [if_pos h, if_pos (e.2 h)]
  · rw [if_neg h, if_neg (fun q => h (e.1 q))]

set_option maxRecDepth 100000 in
set_option maxHeartbeats 1600000 in
theorem refopen_any (key b : ByteArray) (w : World) (hk : key.size ≤ 90000) (hb : b.size ≤ 90000) :
    Calls Tryd.prog 11 #[.string key, .string b] w fun r w' => r = .returned (.tuple #[.string ⟨(openL key.data.toList b.data.toList).1.toArray⟩, .int .i64 (openL key.data.toList b.data.toList).2]) ∧ Below w.heap.size w w' := by
  by_cases h16 : b.size < 16
  · have he : openL key.data.toList b.data.toList = ([], 2) := by unfold openL; rw [if_pos (by rw [← Lib.size_eq]; exact h16)]
    rw [he]
    go_enter Tryd.func11, Tryd.ntmps11
    go_wp2_with fail
    go_ret2
    exact ⟨rfl, Below.refl _ _⟩
  · obtain ⟨m, hm⟩ : ∃ m, m = b.size - 16 := ⟨_, rfl⟩
    have a1 : IntKind.i64.wrap ((b.size : Int) - 16) = (m : Int) := by rw [IntWalk.i64_in _ (by omega)]; omega
    have a2 : (b.size : Int) - 16 = (m : Int) := by omega
    have hmb : m ≤ b.size := by omega
    have hmi : (m : Int) ≤ (b.size : Int) := by omega
    have hm0 : (0 : Int) ≤ (m : Int) := by omega
    obtain ⟨X, hX⟩ : ∃ X : ByteArray, X = b.extract 0 m := ⟨_, rfl⟩
    have hXl : X.data.toList = b.data.toList.take m := by rw [hX]; simp [ByteArray.data_extract]
    have hXs : X.size ≤ 90000 := by rw [Lib.size_eq, hXl, List.length_take]; omega
    have hop := sealed_open key b m X hm h16 hXl
    obtain ⟨Z, hZ⟩ : ∃ Z : ByteArray, Z = ⟨(sealedL key.data.toList X.data.toList).toArray⟩ := ⟨_, rfl⟩
    have hZb : (sealedL key.data.toList X.data.toList = b.data.toList) ↔ Z = b := by
      rw [hZ]
      constructor
      · intro h; rw [h]
      · intro h; rw [← h]
    have HOP := Lib.hid hop
    have HZ := Lib.hid hZ
    have HZB := Lib.hid hZb
    have hb16 : ¬ (b.size : Int) < 16 := by omega
    have hs := refseal_any key X w hk hXs
    rw [← hZ] at hs
    have HS := Lib.hid hs
    rw [hX] at HS
    have HX := Lib.hid hX
    clear hXl hXs hop hZ hZb hm h16 hX hs
    by_cases hz : Z = b
    · have ho := HOP.out
      rw [if_pos (HZB.out.2 hz)] at ho
      have HO := Lib.hid ho
      clear ho HOP HZB
      subst hz
      go_enter Tryd.func11, Tryd.ntmps11
      go_wp2_with fail
      refine HS.out.mono ?_
      rintro r w1 ⟨rfl, hb1⟩
      have HB := Lib.hid hb1
      clear hb1
      go_wp2_with fail
      go_ret2
      refine ⟨?_, HB.out⟩
      rw [HO.out, HX.out, mk_data]
      rfl
    · have ho := HOP.out
      rw [if_neg (fun q => hz (HZB.out.1 q))] at ho
      have hzl : (!Z.toList == b.toList) = true := by
        have : Z.toList ≠ b.toList := fun e => hz (by
          rw [Lib.toList_data, Lib.toList_data] at e
          rw [← mk_data Z, ← mk_data b, e])
        simp [this]
      have HO := Lib.hid ho
      clear ho HOP HZB
      go_enter Tryd.func11, Tryd.ntmps11
      go_wp2_with fail
      refine HS.out.mono ?_
      rintro r w1 ⟨rfl, hb1⟩
      have HB := Lib.hid hb1
      clear hb1
      go_wp2_with fail
      go_ret2
      refine ⟨?_, HB.out⟩
      rw [HO.out]
      rfl

end Go.Proofs.YtncfnpibigohoaaDoor
