/- Tag. Own work (by sealtag.gen.py). -/
import Derived.Test.YtncfnpibigohoaaDoorTag
namespace Go.Proofs.YtncfnpibigohoaaDoor
set_option linter.unusedVariables false
open Go.RowKit

theorem turned_len (key : ByteArray) (p : UInt8) (h : key.size ≤ 64) : (turned key.data.toList p).length = 64 := by
  unfold turned
  rw [List.length_map, List.length_append, List.length_replicate, ← Lib.size_eq]
  omega

theorem src_two {w : World} (u v : Value) (t : TypeId) (g : Nat) (hg : g = w.heap.size) : Src (w.alloc (.cells #[u, v] t)) (some ⟨g, 0, none⟩) 2 [u, v] := by
  subst hg
  refine ⟨rfl, fun _ => ⟨_, 0, rfl, by simp, fun i v hv => ?_⟩⟩
  rw [Nat.zero_add, cell_of_row _ _ i _ t (0, 0) (heap_alloc_new w _)]
  simpa using hv

theorem keyOf_short (key : ByteArray) (h : key.size ≤ 64) : keyOf key.data.toList = key.data.toList := by
  unfold keyOf
  rw [if_neg (by rw [← Lib.size_eq]; omega)]

theorem keyOf_long (key : ByteArray) (h : 64 < key.size) : keyOf key.data.toList = digest key.data.toList := by
  unfold keyOf
  rw [if_pos (by rw [← Lib.size_eq]; omega)]

set_option maxRecDepth 100000 in
set_option maxHeartbeats 3200000 in
theorem tag_short (key : ByteArray) (A : Option Addr) (n c : Nat) (xs : List ByteArray) (w : World) (h : Src w A n (xs.map Value.string)) (hr : Roots w) (hs : sum xs ≤ 100000) (hn : n ≤ 1000000) (hk : key.size ≤ 64) :
    Calls Tryd.prog 12 #[.string key, .slice A n c] w fun r w' => r = .returned (.string ⟨(tagL key.data.toList (joinL xs)).toArray⟩) ∧ Below w.heap.size w w' := by
  have H := Lib.hid h
  have HR := Lib.hid hr
  have hl : xs.length = n := by have := h.1; rwa [List.length_map] at this
  have HL := Lib.hid hl
  have HKO := Lib.hid (keyOf_short key hk)
  clear h hr hl
  go_enter Tryd.func12, Tryd.ntmps12
  go_wp2_with fail
  refine (begin_any w).mono ?_
  rintro r w1 ⟨rfl, hm, hb⟩
  obtain ⟨p, hp⟩ : ∃ p, p = w.heap.size := ⟨_, rfl⟩
  rw [← hp] at hm ⊢
  have hwp : w.heap.size ≤ p := by rw [hp]; exact (Below.refl w.heap.size w).size
  have HM := Lib.hid hm
  have HB := Lib.hid ((Below.refl w.heap.size w).trans (hb.mono (Below.refl w.heap.size w).size))
  clear hm hb hp
  go_wp2_with fail
  refine (turned_any key 54 w1 (by omega)).mono ?_
  rintro r w2 ⟨rfl, hb⟩
  have HB2 := Lib.hid (HB.out.trans (hb.mono HB.out.size))
  have HM2 := Lib.hid (HM.out.below hb)
  have ht54 := turned_len key 54 (by omega)
  clear hb HB HM
  go_wp2_with fail
  refine (take_any p [] ⟨(turned key.data.toList 54).toArray⟩ w2 HM2.out (HR.out.below HB2.out) (by rw [size_mk, ht54]; simp)).mono ?_
  rintro r w3 ⟨rfl, hm, hk⟩
  rw [List.nil_append] at hm
  have HM3 := Lib.hid hm
  have HB3 := Lib.hid (HB2.out.trans (hk.below HB2.out.size (fun k hk e => by omega)))
  clear hm hk HB2 HM2
  go_wp2_with fail
  go_loopw [21] (fun i wr => ∃ k : Nat, k ≤ n ∧ i = .int .i64 k ∧ Hid (MsgL wr p (turned key.data.toList 54 ++ joinL (xs.take k))) ∧ Hid (Keep (· = p) w3 wr)) (fun i _ => n - (intOf i).toNat)
  case atStart => exact ⟨0, by omega, rfl, (by show MsgL _ _ _; rw [List.take_zero, joinL_nil, List.append_nil]; exact HM3.out), Keep.refl _ _⟩
  case round =>
    obtain ⟨k, hk, rfl, HQ, HK⟩ := hrel
    have hb : Below w.heap.size w wr := HB3.out.trans (HK.out.below HB3.out.size (fun k hk e => by omega))
    have HBw := Lib.hid hb
    clear hb
    by_cases hlt : k < n
    · obtain ⟨x, hx⟩ : ∃ x, xs[k]? = some x := ⟨xs[k]'(by rw [HL.out]; exact hlt), List.getElem?_eq_getElem _⟩
      obtain ⟨b, off, rfl, hbl, hc⟩ := (H.out.below HBw.out).2 (by omega)
      have hcx := hc k (.string x) (by rw [List.getElem?_map, hx]; rfl)
      have hsx := sum_take_next hx
      have hjl : (turned key.data.toList 54 ++ joinL (xs.take k)).length = 64 + sum (xs.take k) := by rw [List.length_append, ht54, joinL_len]
      have HX := Lib.hid hx
      have HJ := Lib.hid hjl
      clear hc hx hjl
      go_wp2_with fail
      refine (take_any p (turned key.data.toList 54 ++ joinL (xs.take k)) x wr HQ.out (HR.out.below HBw.out) (by rw [HJ.out]; omega)).mono ?_
      rintro r w4 ⟨rfl, hm, hk3⟩
      rw [List.append_assoc, ← joinL_snoc, ← take_next HX.out] at hm
      have HM4 := Lib.hid hm
      have HK4 := Lib.hid hk3
      clear hm hk3 hcx
      go_wp2_with fail
      go_roundw
      case rel => exact ⟨k + 1, by omega, by go_num, HM4, HK.out.trans HK4.out (fun _ _ e => e)⟩
      case measure => simp [intOf]; omega
    · have hx : xs.take k = xs := List.take_of_length_le (by rw [HL.out]; omega)
      rw [hx] at HQ
      have hjl : (turned key.data.toList 54 ++ joinL xs).length = 64 + sum xs := by rw [List.length_append, ht54, joinL_len]
      clear hx
      go_wp2_with fail
      refine (turned_any key 92 wr (by omega)).mono ?_
      rintro r w4 ⟨rfl, hb⟩
      have HB4 := Lib.hid (HBw.out.trans (hb.mono HBw.out.size))
      have HM4 := Lib.hid (HQ.out.below hb)
      have ht92 := turned_len key 92 (by omega)
      clear hb
      go_wp2_with fail
      refine (end_any p (turned key.data.toList 54 ++ joinL xs) w4 HM4.out (HR.out.below HB4.out) (by omega)).mono ?_
      rintro r w5 ⟨rfl, hk⟩
      have HB5 := Lib.hid (HB4.out.trans (hk.below HB4.out.size (fun k hk e => by omega)))
      clear hk
      obtain ⟨T, hT⟩ : ∃ T : ByteArray, T = ⟨(turned key.data.toList 92).toArray⟩ := ⟨_, rfl⟩
      obtain ⟨D, hD⟩ : ∃ D : ByteArray, D = ⟨(digest (turned key.data.toList 54 ++ joinL xs)).toArray⟩ := ⟨_, rfl⟩
      have hsum : sum [T, D] ≤ 900000 := by rw [sum_two, hT, hD, size_mk, size_mk, ht92, digest_len]; omega
      have hjoin : joinL [T, D] = turned key.data.toList 92 ++ digest (turned key.data.toList 54 ++ joinL xs) := by rw [hT, hD]; simp [joinL]
      obtain ⟨E, hE⟩ : ∃ E : ByteArray, E = ⟨(digest (joinL [T, D])).toArray⟩ := ⟨_, rfl⟩
      have hEs : E.size = 32 := by rw [hE, size_mk, digest_len]
      have hEx : E.extract 0 16 = ⟨(tagL key.data.toList (joinL xs)).toArray⟩ := by
        rw [hE, extract_mk, List.drop_zero, hjoin]
        unfold tagL
        rw [HKO.out]
      rw [← hT, ← hD]
      have HE := Lib.hid hE
      have HX := Lib.hid hEx
      have hE16 : 16 ≤ E.size := by omega
      have hb6 : Below w.heap.size w (w5.alloc (.cells #[.string T, .string D] 9)) := HB5.out.alloc HB5.out.size _
      have HB6 := Lib.hid hb6
      clear hT hD hE hEs hEx hb6 hjoin ht92
      go_wp2_with fail
      refine (hash_any (some ⟨w5.heap.size, 0, none⟩) 2 2 [T, D] _ (src_two _ _ _ _ rfl) (HR.out.below HB6.out) hsum (by omega)).mono ?_
      rintro r w6 ⟨rfl, hb⟩
      rw [← HE.out]
      have HB7 := Lib.hid (HB6.out.trans (hb.mono HB6.out.size))
      clear hb
      go_wp2_with fail
      go_ret
      exact ⟨by rw [← HX.out]; rfl, HB7.out⟩

set_option maxRecDepth 100000 in
set_option maxHeartbeats 3200000 in
theorem tag_long (key : ByteArray) (A : Option Addr) (n c : Nat) (xs : List ByteArray) (w : World) (h : Src w A n (xs.map Value.string)) (hr : Roots w) (hs : sum xs ≤ 100000) (hn : n ≤ 1000000) (hk : 64 < key.size) (hk2 : key.size ≤ 100000) :
    Calls Tryd.prog 12 #[.string key, .slice A n c] w fun r w' => r = .returned (.string ⟨(tagL key.data.toList (joinL xs)).toArray⟩) ∧ Below w.heap.size w w' := by
  have H := Lib.hid h
  have HR := Lib.hid hr
  have hl : xs.length = n := by have := h.1; rwa [List.length_map] at this
  have HL := Lib.hid hl
  have hb0 : Below w.heap.size w (w.alloc (.cells #[.string key] 9)) := (Below.refl _ _).alloc (Nat.le_refl _) _
  have HB0 := Lib.hid hb0
  clear h hr hl hb0
  go_enter Tryd.func12, Tryd.ntmps12
  go_wp2_with fail
  refine (hash_any (some ⟨w.heap.size, 0, none⟩) 1 1 [key] _ (src_one _ _ _ rfl) (HR.out.below HB0.out) (by rw [sum_one]; omega) (by omega)).mono ?_
  rintro r w0 ⟨rfl, hb⟩
  have HB9 := Lib.hid (HB0.out.trans (hb.mono HB0.out.size))
  obtain ⟨K, hK⟩ : ∃ K : ByteArray, K = ⟨(digest (joinL [key])).toArray⟩ := ⟨_, rfl⟩
  have hKl : K.data.toList = keyOf key.data.toList := by rw [hK, keyOf_long key hk]; simp [joinL]
  have hKs : K.size ≤ 64 := by rw [hK, size_mk, digest_len]; omega
  rw [← hK]
  have HKO : Hid (keyOf key.data.toList = K.data.toList) := hKl.symm
  clear hK hKl hb
  go_wp2_with fail
  refine (begin_any w0).mono ?_
  rintro r w1 ⟨rfl, hm, hb⟩
  obtain ⟨p, hp⟩ : ∃ p, p = w0.heap.size := ⟨_, rfl⟩
  rw [← hp] at hm ⊢
  have hwp : w.heap.size ≤ p := by rw [hp]; exact (HB9.out).size
  have HM := Lib.hid hm
  have HB := Lib.hid ((HB9.out).trans (hb.mono (HB9.out).size))
  clear hm hb hp
  go_wp2_with fail
  refine (turned_any K 54 w1 (by omega)).mono ?_
  rintro r w2 ⟨rfl, hb⟩
  have HB2 := Lib.hid (HB.out.trans (hb.mono HB.out.size))
  have HM2 := Lib.hid (HM.out.below hb)
  have ht54 := turned_len K 54 (by omega)
  clear hb HB HM
  go_wp2_with fail
  refine (take_any p [] ⟨(turned K.data.toList 54).toArray⟩ w2 HM2.out (HR.out.below HB2.out) (by rw [size_mk, ht54]; simp)).mono ?_
  rintro r w3 ⟨rfl, hm, hk⟩
  rw [List.nil_append] at hm
  have HM3 := Lib.hid hm
  have HB3 := Lib.hid (HB2.out.trans (hk.below HB2.out.size (fun k hk e => by omega)))
  clear hm hk HB2 HM2
  go_wp2_with fail
  go_loopw [21] (fun i wr => ∃ k : Nat, k ≤ n ∧ i = .int .i64 k ∧ Hid (MsgL wr p (turned K.data.toList 54 ++ joinL (xs.take k))) ∧ Hid (Keep (· = p) w3 wr)) (fun i _ => n - (intOf i).toNat)
  case atStart => exact ⟨0, by omega, rfl, (by show MsgL _ _ _; rw [List.take_zero, joinL_nil, List.append_nil]; exact HM3.out), Keep.refl _ _⟩
  case round =>
    obtain ⟨k, hk, rfl, HQ, HK⟩ := hrel
    have hb : Below w.heap.size w wr := HB3.out.trans (HK.out.below HB3.out.size (fun k hk e => by omega))
    have HBw := Lib.hid hb
    clear hb
    by_cases hlt : k < n
    · obtain ⟨x, hx⟩ : ∃ x, xs[k]? = some x := ⟨xs[k]'(by rw [HL.out]; exact hlt), List.getElem?_eq_getElem _⟩
      obtain ⟨b, off, rfl, hbl, hc⟩ := (H.out.below HBw.out).2 (by omega)
      have hcx := hc k (.string x) (by rw [List.getElem?_map, hx]; rfl)
      have hsx := sum_take_next hx
      have hjl : (turned K.data.toList 54 ++ joinL (xs.take k)).length = 64 + sum (xs.take k) := by rw [List.length_append, ht54, joinL_len]
      have HX := Lib.hid hx
      have HJ := Lib.hid hjl
      clear hc hx hjl
      go_wp2_with fail
      refine (take_any p (turned K.data.toList 54 ++ joinL (xs.take k)) x wr HQ.out (HR.out.below HBw.out) (by rw [HJ.out]; omega)).mono ?_
      rintro r w4 ⟨rfl, hm, hk3⟩
      rw [List.append_assoc, ← joinL_snoc, ← take_next HX.out] at hm
      have HM4 := Lib.hid hm
      have HK4 := Lib.hid hk3
      clear hm hk3 hcx
      go_wp2_with fail
      go_roundw
      case rel => exact ⟨k + 1, by omega, by go_num, HM4, HK.out.trans HK4.out (fun _ _ e => e)⟩
      case measure => simp [intOf]; omega
    · have hx : xs.take k = xs := List.take_of_length_le (by rw [HL.out]; omega)
      rw [hx] at HQ
      have hjl : (turned K.data.toList 54 ++ joinL xs).length = 64 + sum xs := by rw [List.length_append, ht54, joinL_len]
      clear hx
      go_wp2_with fail
      refine (turned_any K 92 wr (by omega)).mono ?_
      rintro r w4 ⟨rfl, hb⟩
      have HB4 := Lib.hid (HBw.out.trans (hb.mono HBw.out.size))
      have HM4 := Lib.hid (HQ.out.below hb)
      have ht92 := turned_len K 92 (by omega)
      clear hb
      go_wp2_with fail
      refine (end_any p (turned K.data.toList 54 ++ joinL xs) w4 HM4.out (HR.out.below HB4.out) (by omega)).mono ?_
      rintro r w5 ⟨rfl, hk⟩
      have HB5 := Lib.hid (HB4.out.trans (hk.below HB4.out.size (fun k hk e => by omega)))
      clear hk
      obtain ⟨T, hT⟩ : ∃ T : ByteArray, T = ⟨(turned K.data.toList 92).toArray⟩ := ⟨_, rfl⟩
      obtain ⟨D, hD⟩ : ∃ D : ByteArray, D = ⟨(digest (turned K.data.toList 54 ++ joinL xs)).toArray⟩ := ⟨_, rfl⟩
      have hsum : sum [T, D] ≤ 900000 := by rw [sum_two, hT, hD, size_mk, size_mk, ht92, digest_len]; omega
      have hjoin : joinL [T, D] = turned K.data.toList 92 ++ digest (turned K.data.toList 54 ++ joinL xs) := by rw [hT, hD]; simp [joinL]
      obtain ⟨E, hE⟩ : ∃ E : ByteArray, E = ⟨(digest (joinL [T, D])).toArray⟩ := ⟨_, rfl⟩
      have hEs : E.size = 32 := by rw [hE, size_mk, digest_len]
      have hEx : E.extract 0 16 = ⟨(tagL key.data.toList (joinL xs)).toArray⟩ := by
        rw [hE, extract_mk, List.drop_zero, hjoin]
        unfold tagL
        rw [HKO.out]
      rw [← hT, ← hD]
      have HE := Lib.hid hE
      have HX := Lib.hid hEx
      have hE16 : 16 ≤ E.size := by omega
      have hb6 : Below w.heap.size w (w5.alloc (.cells #[.string T, .string D] 9)) := HB5.out.alloc HB5.out.size _
      have HB6 := Lib.hid hb6
      clear hT hD hE hEs hEx hb6 hjoin ht92
      go_wp2_with fail
      refine (hash_any (some ⟨w5.heap.size, 0, none⟩) 2 2 [T, D] _ (src_two _ _ _ _ rfl) (HR.out.below HB6.out) hsum (by omega)).mono ?_
      rintro r w6 ⟨rfl, hb⟩
      rw [← HE.out]
      have HB7 := Lib.hid (HB6.out.trans (hb.mono HB6.out.size))
      clear hb
      go_wp2_with fail
      go_ret
      exact ⟨by rw [← HX.out]; rfl, HB7.out⟩

theorem tag_any (key : ByteArray) (A : Option Addr) (n c : Nat) (xs : List ByteArray) (w : World) (h : Src w A n (xs.map Value.string)) (hr : Roots w) (hs : sum xs ≤ 100000) (hn : n ≤ 1000000) (hk : key.size ≤ 100000) :
    Calls Tryd.prog 12 #[.string key, .slice A n c] w fun r w' => r = .returned (.string ⟨(tagL key.data.toList (joinL xs)).toArray⟩) ∧ Below w.heap.size w w' := by
  rcases Nat.lt_or_ge 64 key.size with h1 | h1
  · exact tag_long key A n c xs w h hr hs hn h1 hk
  · exact tag_short key A n c xs w h hr hs hn h1

end Go.Proofs.YtncfnpibigohoaaDoor
