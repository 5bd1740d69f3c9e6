/- hash, Tag. Own work (by sealtag.gen.py). -/
import Derived.Test.YtncfnpibigohoaaDoorEnd
import Derived.Test.YtncfnpibigohoaaDoorBufs
namespace Go.Proofs.YtncfnpibigohoaaDoor
set_option linter.unusedVariables false
open Go.RowKit

theorem digest_len (l : List UInt8) : (digest l).length = 32 := by
  unfold digest
  rw [← outK_all, outK_len _ 8 (by omega)]

theorem joinL_nil : joinL [] = [] := rfl

theorem sum_take_next {xs : List ByteArray} {k : Nat} {x : ByteArray} (h : xs[k]? = some x) : sum (xs.take k) + x.size ≤ sum xs := by
  rw [← sum_snoc, ← take_next h]
  exact sum_take xs (k + 1)

set_option maxRecDepth 100000 in
set_option maxHeartbeats 1600000 in
theorem hash_any (A : Option Addr) (n c : Nat) (xs : List ByteArray) (w : World) (h : Src w A n (xs.map Value.string)) (hr : Roots w) (hs : sum xs ≤ 900000) (hn : n ≤ 1000000) :
    Calls Tryd.prog 22 #[.slice A n c] w fun r w' => r = .returned (.string ⟨(digest (joinL xs)).toArray⟩) ∧ Below w.heap.size w w' := by
  have H := Lib.hid h
  have HR := Lib.hid hr
  have hl : xs.length = n := by have := h.1; rwa [List.length_map] at this
  have HL := Lib.hid hl
  clear h hr hl
  go_enter Tryd.func22, Tryd.ntmps22
  go_wp2_with fail
  refine (begin_any w).mono ?_
  rintro r w1 ⟨rfl, hm, hb⟩
  obtain ⟨p, hp⟩ : ∃ p, p = w.heap.size := ⟨_, rfl⟩
  rw [← hp] at hm ⊢
  have HM := Lib.hid hm
  have HB := Lib.hid hb
  have HP := Lib.hid hp
  have hs1 := hb.size
  clear hm hb hp
  go_wp2_with fail
  go_loopw [9] (fun i wr => ∃ k : Nat, k ≤ n ∧ i = .int .i64 k ∧ Hid (MsgL wr p (joinL (xs.take k))) ∧ Hid (Keep (· = p) w1 wr)) (fun i _ => n - (intOf i).toNat)
  case atStart => exact ⟨0, by omega, rfl, HM, Keep.refl _ _⟩
  case round =>
    obtain ⟨k, hk, rfl, HQ, HK⟩ := hrel
    have hb : Below w.heap.size w wr := HB.out.trans (HK.out.below HB.out.size (fun k hk e => by rw [HP.out] at e; omega))
    have HBw := Lib.hid hb
    clear hb
    by_cases hlt : k < n
    · obtain ⟨x, hx⟩ : ∃ x, xs[k]? = some x := ⟨xs[k]'(by rw [HL.out]; exact hlt), List.getElem?_eq_getElem _⟩
      obtain ⟨b, off, rfl, hbl, hc⟩ := (H.out.below HBw.out).2 (by omega)
      have hcx := hc k (.string x) (by rw [List.getElem?_map, hx]; rfl)
      have hsx := sum_take_next hx
      have hjl := joinL_len (xs.take k)
      have HX := Lib.hid hx
      have HJ := Lib.hid hjl
      clear hc hx hjl
      go_wp2_with fail
      refine (take_any p (joinL (xs.take k)) x wr HQ.out (HR.out.below HBw.out) (by rw [HJ.out]; omega)).mono ?_
      rintro r w3 ⟨rfl, hm, hk3⟩
      rw [← joinL_snoc, ← take_next HX.out] at hm
      have HM3 := Lib.hid hm
      have HK3 := Lib.hid hk3
      clear hm hk3 hcx
      go_wp2_with fail
      go_roundw
      case rel => exact ⟨k + 1, by omega, by go_num, HM3, HK.out.trans HK3.out (fun _ _ e => e)⟩
      case measure => simp [intOf]; omega
    · have hx : xs.take k = xs := List.take_of_length_le (by rw [HL.out]; omega)
      rw [hx] at HQ
      have hjl := joinL_len xs
      clear hx
      go_wp2_with fail
      refine (end_any p (joinL xs) wr HQ.out (HR.out.below HBw.out) (by omega)).mono ?_
      rintro r w3 ⟨rfl, hk3⟩
      have HK3 := Lib.hid hk3
      clear hk3 hjl
      go_wp2_with fail
      go_ret
      exact ⟨rfl, HBw.out.trans (HK3.out.below HBw.out.size (fun k hk e => by rw [HP.out] at e; omega))⟩

end Go.Proofs.YtncfnpibigohoaaDoor
