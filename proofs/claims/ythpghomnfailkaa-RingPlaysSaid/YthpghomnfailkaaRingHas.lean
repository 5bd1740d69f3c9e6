/- What a ring has, told as a text. Own work. -/
import Derived.Test.YthpghomnfailkaaRingAlive
namespace Go.Proofs.Ythpghomnfailkaa
set_option linter.unusedVariables false
open Go.RowKit

variable {w0 w w1 : World} {p room : Nat} {hb : ByteArray}

/-- A ring that was made since w0 and has these bytes. -/
def RingHas (w0 : World) (p room : Nat) (hb : ByteArray) (w : World) : Prop := RingIs w0 p room hb.data.toList w

theorem RingHas.below (h : RingHas w0 p room hb w) : Below w0.heap.size w0 w := RingIs.below h
theorem RingHas.drewN (h : RingHas w0 p room hb w) (n : Nat) : RingHas w0 p room hb (w.drewN n) := RingIs.drewN h n
theorem RingHas.drew (h : RingHas w0 p room hb w) : RingHas w0 p room hb w.drew := RingIs.drew h
theorem RingHas.on {w' : World} (h : RingHas w0 p room hb w) (k : Below w.heap.size w w') : RingHas w0 p room hb w' := RingIs.on h k
theorem RingHas.bounds (h : RingHas w0 p room hb w) : hb.size ≤ room ∧ room ≤ 100000 := by
  have := RingIs.bounds h
  rwa [← Lib.size_eq] at this

theorem take_extract (s : ByteArray) (n : Int) (m : Nat) (h : min (max n 0) (s.size : Int) = (m : Int)) : (⟨(peekL s.data.toList n).toArray⟩ : ByteArray) = s.extract 0 m := by
  have hs := Lib.size_eq s
  have e := extract_mk s.data.toList 0 m
  rw [mk_data, List.drop_zero] at e
  rw [e]
  unfold peekL
  by_cases q : n.toNat ≤ s.size
  · rw [show n.toNat = m from by omega]
  · rw [List.take_of_length_le (by omega), List.take_of_length_le (by omega)]

theorem drop_extract (s : ByteArray) (n : Int) (m : Nat) (h : min (max n 0) (s.size : Int) = (m : Int)) : s.data.toList.drop n.toNat = (s.extract m s.size).data.toList := by
  have hs := Lib.size_eq s
  have e := extract_mk s.data.toList m s.size
  rw [mk_data, List.take_of_length_le (by omega)] at e
  rw [e]
  by_cases q : n.toNat ≤ s.size
  · rw [show n.toNat = m from by omega]
  · rw [List.drop_of_length_le (by omega), List.drop_of_length_le (by omega)]

theorem hasLen (h : RingHas w0 p room hb w) :
    Calls Try.prog 16 #[.pointer (some ⟨p, 0, none⟩)] w fun r w' => r = .returned (.int .i64 hb.size) ∧ w = w' := by
  have := isLen h
  rwa [← Lib.size_eq] at this

theorem hasRoom (h : RingHas w0 p room hb w) :
    Calls Try.prog 17 #[.pointer (some ⟨p, 0, none⟩)] w fun r w' => r = .returned (.int .i64 ((room : Int) - (hb.size : Int))) ∧ ∃ k, w' = w.drewN k := by
  have := isRoom h
  have hb2 := h.bounds
  rwa [← Lib.size_eq, show ((room - hb.size : Nat) : Int) = (room : Int) - (hb.size : Int) from by omega] at this

theorem hasPeek (h : RingHas w0 p room hb w) (n : Int) (hn : n ≤ 9223372036854775807) (m : Nat) (hm : min (max n 0) (hb.size : Int) = (m : Int)) :
    Calls Try.prog 14 #[.pointer (some ⟨p, 0, none⟩), .int .i64 n] w fun r w' => r = .returned (.string (hb.extract 0 m)) ∧ ∃ k, w' = w.drewN k := by
  have := isPeek h n hn
  rwa [take_extract hb n m hm] at this

theorem hasSeen (h : RingHas w0 p room hb w) :
    Calls Try.prog 14 #[.pointer (some ⟨p, 0, none⟩), .int .i64 1073741824] w fun r w' => r = .returned (.string hb) ∧ ∃ k, w' = w.drewN k := by
  have hb2 := h.bounds
  have := hasPeek h 1073741824 (by omega) hb.size (by omega)
  rwa [ByteArray.extract_zero_size] at this

theorem hasTake (h : RingHas w0 p room hb w1) (hw : Below w1.heap.size w1 w) (n : Int) (hn : n ≤ 9223372036854775807) (m : Nat) (hm : min (max n 0) (hb.size : Int) = (m : Int)) :
    Calls Try.prog 13 #[.pointer (some ⟨p, 0, none⟩), .int .i64 n] w fun r w' => r = .returned (.string (hb.extract 0 m)) ∧ RingHas w0 p room (hb.extract m hb.size) w' ∧ Beside w1.heap.size w w' := by
  have := isTake h hw n hn
  rwa [take_extract hb n m hm, drop_extract hb n m hm] at this

theorem hasClear (h : RingHas w0 p room hb w1) (hw : Below w1.heap.size w1 w) :
    Calls Try.prog 15 #[.pointer (some ⟨p, 0, none⟩)] w fun r w' => r = .returned (.int .i64 hb.size) ∧ RingHas w0 p room ⟨#[]⟩ w' ∧ Beside w1.heap.size w w' := by
  have := isClear h hw
  rwa [← Lib.size_eq] at this

theorem hasPut (h : RingHas w0 p room hb w1) (hw : Below w1.heap.size w1 w) {B : Option Addr} {n cap : Nat} (xs : List ByteArray) (hx : SliceAt w B (xs.map Value.string) (fun k => k < w1.heap.size)) (hn : xs.length = n) (hxs : ∀ x ∈ xs, x.size ≤ maxLen) (hm : n ≤ maxLen)
    (sb : ByteArray) (hs : sb = ⟨(joinL xs).toArray⟩) (kk : Nat) (hk : min (sb.size : Int) ((room : Int) - (hb.size : Int)) = (kk : Int)) :
    Calls Try.prog 11 #[.pointer (some ⟨p, 0, none⟩), .slice B n cap] w fun r w' => r = .returned (.int .i64 kk) ∧ RingHas w0 p room (hb ++ sb.extract 0 kk) w' ∧ Beside w1.heap.size w w' := by
  have hb2 := h.bounds
  have hsz : sb.size = sum xs := by rw [hs, size_mk, joinL_len]
  have hsl := Lib.size_eq hb
  have e1 : (putL room hb.data.toList xs).length - hb.data.toList.length = kk := by rw [putL_len]; omega
  have e2 : putL room hb.data.toList xs = (hb ++ sb.extract 0 kk).data.toList := by
    have e3 := extract_mk (joinL xs) 0 kk
    rw [List.drop_zero, ← hs] at e3
    rw [e3]
    have e4 : (joinL xs).take (room - hb.data.toList.length) = (joinL xs).take kk := by
      have hj := joinL_len xs
      by_cases q : sum xs ≤ room - hb.size
      · rw [List.take_of_length_le (by omega), List.take_of_length_le (by omega)]
      · rw [show room - hb.data.toList.length = kk from by omega]
    unfold putL
    rw [e4]
    simp
  have := isPut h hw (cap := cap) xs hx hn hxs hm
  rwa [e1, e2] at this

theorem hasAll (h : RingHas w0 p room hb w1) (hw : Below w1.heap.size w1 w) {B : Option Addr} {n cap : Nat} (xs : List ByteArray) (hx : SliceAt w B (xs.map Value.string) (fun k => k < w1.heap.size)) (hn : xs.length = n) (hxs : ∀ x ∈ xs, x.size ≤ maxLen) (hm : n ≤ maxLen)
    (sb : ByteArray) (hs : sb = ⟨(joinL xs).toArray⟩) (hf : (sb.size : Int) ≤ (room : Int) - (hb.size : Int)) :
    Calls Try.prog 12 #[.pointer (some ⟨p, 0, none⟩), .slice B n cap] w fun r w' => r = .returned (.bool true) ∧ RingHas w0 p room (hb ++ sb) w' ∧ Beside w1.heap.size w w' := by
  have hb2 := h.bounds
  have hsz : sb.size = sum xs := by rw [hs, size_mk, joinL_len]
  have hsl := Lib.size_eq hb
  have e1 : fitsL (room - hb.data.toList.length) xs = true := by unfold fitsL; exact decide_eq_true (by omega)
  have e2 : allL room hb.data.toList xs = (hb ++ sb).data.toList := by
    unfold allL
    rw [if_pos e1, hs]
    simp
  have := isAll h hw (cap := cap) xs hx hn hxs hm
  rwa [e1, e2] at this

theorem hasNot (h : RingHas w0 p room hb w1) (hw : Below w1.heap.size w1 w) {B : Option Addr} {n cap : Nat} (xs : List ByteArray) (hx : SliceAt w B (xs.map Value.string) (fun k => k < w1.heap.size)) (hn : xs.length = n) (hxs : ∀ x ∈ xs, x.size ≤ maxLen) (hm : n ≤ maxLen)
    (sb : ByteArray) (hs : sb = ⟨(joinL xs).toArray⟩) (hf : (room : Int) - (hb.size : Int) < (sb.size : Int)) :
    Calls Try.prog 12 #[.pointer (some ⟨p, 0, none⟩), .slice B n cap] w fun r w' => r = .returned (.bool false) ∧ RingHas w0 p room hb w' ∧ Beside w1.heap.size w w' := by
  have hb2 := h.bounds
  have hsz : sb.size = sum xs := by rw [hs, size_mk, joinL_len]
  have hsl := Lib.size_eq hb
  have e1 : fitsL (room - hb.data.toList.length) xs = false := by unfold fitsL; exact decide_eq_false (by omega)
  have e2 : allL room hb.data.toList xs = hb.data.toList := by
    unfold allL
    rw [e1]
    rfl
  have := isAll h hw (cap := cap) xs hx hn hxs hm
  rwa [e1, e2] at this

end Go.Proofs.Ythpghomnfailkaa
