/- Law SealChanged: the walk. Own work. -/
import Derived.Test.YtncfnpibigohoaaDoorKnown
import Derived.Test.YtncfnpibigohoaaDoorRefO
namespace Go.Proofs.YtncfnpibigohoaaDoor
set_option linter.unusedVariables false
set_option linter.unusedSimpArgs false
open Go.RowKit

theorem open_sealed (key other text : List UInt8) : openL other (sealedL key text) = if tagL key text = tagL other text then (text, 0) else ([], 5) := by
  have hl : (sealedL key text).length = text.length + 16 := by unfold sealedL; rw [List.length_append, tagL_len]
  unfold openL
  rw [if_neg (by omega), hl, Nat.add_sub_cancel]
  unfold sealedL
  rw [List.drop_left, List.take_left]

theorem open_own (key text : List UInt8) : openL key (sealedL key text) = (text, 0) := by rw [open_sealed, if_pos rfl]

/-- Seal of one text that a call lays. -/
theorem sealing_one (key s : ByteArray) (W : World) (hW : Roots W) (hk : key.size ≤ 100000) (hs : s.size ≤ 100000) :
    Calls Tryd.prog 14 #[.string key, .slice (some ⟨W.heap.size, 0, none⟩) 1 1] (W.alloc (.cells #[.string s] 9)) fun r w' => r = .returned (.string ⟨(sealedL key.data.toList s.data.toList).toArray⟩) ∧ Below W.heap.size W w' := by
  have hb0 : Below W.heap.size W (W.alloc (.cells #[.string s] 9)) := (Below.refl _ _).alloc (Nat.le_refl _) _
  have := sealing_any key (some ⟨W.heap.size, 0, none⟩) 1 1 [s] (W.alloc (.cells #[.string s] 9)) (src_one _ _ _ rfl) (hW.below hb0) (by rw [sum_one]; exact hs) (by omega) hk
  refine this.mono fun r w' ⟨h1, h2⟩ => ⟨?_, hb0.trans (h2.mono hb0.size)⟩
  rw [h1]
  simp [joinL]

/-- Open of what was sealed, in the words of the call. -/
theorem open_back (other b : ByteArray) (W : World) (hr : Roots W) (hk : other.size ≤ 100000) (hb : b.size ≤ 100000) (u : List UInt8) (e : Int) (h : openL other.data.toList b.data.toList = (u, e)) :
    Calls Tryd.prog 10 #[.string other, .string b] W fun r w' => r = .returned (.tuple #[.string ⟨u.toArray⟩, .int .i64 e]) ∧ Below W.heap.size W w' := by
  have := open_any other b W hr hk hb
  rw [h] at this
  exact this

set_option maxRecDepth 100000 in
set_option maxHeartbeats 3200000 in
theorem changed_good (key other s : ByteArray) (k : Nat) (by_ : Int) (w : World) (hr : Roots w) (h1 : key.size ≤ 100) (h2 : other.size ≤ 100) (h3 : s.size ≤ 500) (hk63 : (k : Int) ≤ 9223372036854775807) (hy0 : by_ % 256 ≠ 0)
    (hby : -9223372036854775808 ≤ by_ ∧ by_ ≤ 9223372036854775807) :
    Calls Tryd.prog 4 #[.string key, .string other, .string s, .int .i64 k, .int .i64 by_] w fun e w' => e = .returned (.bool true) ∧ Below w.heap.size w w' := by
  obtain ⟨b, hb⟩ : ∃ b : ByteArray, b = ⟨(sealedL key.data.toList s.data.toList).toArray⟩ := ⟨_, rfl⟩
  have hbl : b.data.toList = sealedL key.data.toList s.data.toList := by rw [hb]
  have hbs : b.size = s.size + 16 := by rw [Lib.size_eq, hbl]; unfold sealedL; rw [List.length_append, tagL_len, ← Lib.size_eq]
  have hop1 : openL key.data.toList b.data.toList = (s.data.toList, 0) := by rw [hbl]; exact open_own _ _
  obtain ⟨sz, hsz⟩ : ∃ sz, sz = s.size + 16 := ⟨_, rfl⟩
  obtain ⟨i, hi⟩ : ∃ i, i = k % sz := ⟨_, rfl⟩
  have hil : i < sz := by rw [hi]; exact Nat.mod_lt _ (by omega)
  obtain ⟨x, hx⟩ : ∃ x, b.data.toList[i]? = some x := ⟨b.data.toList[i]'(by rw [← Lib.size_eq, hbs, ← hsz]; exact hil), List.getElem?_eq_getElem _⟩
  obtain ⟨y, hy⟩ : ∃ y : UInt8, y = UInt8.ofNat (by_ % 256).toNat := ⟨_, rfl⟩
  have hyn : by_ % 256 = (y.toNat : Int) := by rw [hy]; simp; omega
  have hyt : ((by_ % 256) == 0) = false := by rw [beq_eq_false_iff_ne]; exact hy0
  obtain ⟨z, hz⟩ : ∃ z, z = x ^^^ y := ⟨_, rfl⟩
  have exy := xor_u8 x y
  rw [← hz] at exy
  obtain ⟨C, hC⟩ : ∃ C : ByteArray, C = ⟨(b.data.toList.set i z).toArray⟩ := ⟨_, rfl⟩
  have hCs : C.size ≤ 600 := by rw [hC, size_mk, List.length_set, ← Lib.size_eq]; omega
  have ekm : (k : Int) % (sz : Int) = (i : Int) := by rw [hi]; omega
  have ekt : (k : Int).tmod (sz : Int) = (i : Int) := by rw [Int.tmod_eq_emod_of_nonneg (by omega)]; exact ekm
  obtain ⟨O, hO⟩ : ∃ O : ByteArray, O = ⟨(openL key.data.toList C.data.toList).1.toArray⟩ := ⟨_, rfl⟩
  obtain ⟨o, ho⟩ : ∃ o : Int, o = (openL key.data.toList C.data.toList).2 := ⟨_, rfl⟩
  have HR := Lib.hid hr
  have HB := Lib.hid hb
  have HBL := Lib.hid hbl
  have HBS := Lib.hid hbs
  have HOP1 := Lib.hid hop1
  have HSZ := Lib.hid hsz
  have HX := Lib.hid hx
  have HC := Lib.hid hC
  have HO := Lib.hid hO
  have Ho := Lib.hid ho
  have q1 : ¬ (100 < (key.size : Int)) := by omega
  have q2 : ¬ (100 < (other.size : Int)) := by omega
  have q3 : ¬ (500 < (s.size : Int)) := by omega
  have q4 : ¬ ((k : Int) < 0) := by omega
  have hsz1 : 1 ≤ sz := by omega
  have hszb : sz ≤ 516 := by omega
  clear hr hb hbl hbs hop1 hsz hi hx hy hz hC hO ho
  go_enter Tryd.func4, Tryd.ntmps4
  go_wp2_with fail
  refine (alive_any w HR.out).mono ?_
  rintro r w1 ⟨rfl, hb1⟩
  have HB1 := Lib.hid hb1
  clear hb1
  go_wp2_with fail
  refine (sealing_one key s w1 (HR.out.below HB1.out) (by omega) (by omega)).mono ?_
  rintro r w2 ⟨rfl, hb2⟩
  rw [← HB.out]
  have HB2 := Lib.hid (HB1.out.trans (hb2.mono HB1.out.size))
  clear hb2 HB1
  go_wp2_with fail
  refine (open_back key b w2 (HR.out.below HB2.out) (by omega) (by rw [HBS.out]; omega) _ _ HOP1.out).mono ?_
  rintro r w3 ⟨rfl, hb3⟩
  rw [mk_data s]
  have HB3 := Lib.hid (HB2.out.trans (hb3.mono HB2.out.size))
  clear hb3 HB2
  have hbi : (b.size : Int) = (s.size : Int) + 16 := by rw [HBS.out]; omega
  obtain ⟨cc, w4, hrun, hrow, hb4⟩ := run_bytes_row (P := Tryd.prog) w3 9 34 5 b Tryd.underlying9 Tryd.underlying34 Tryd.underlying5 (by unfold maxLen; rw [HBS.out]; omega)
  rw [HBS.out, ← HSZ.out] at hrun hrow
  have HROW := Lib.hid hrow
  have HB4 := Lib.hid (HB3.out.trans (hb4.mono HB3.out.size))
  have c0 := hrow.val i (.int .u8 x.toNat) (by simp [Lib.byteCells, HX.out])
  have f0 := (hrow.can i (by have := hrow.le; omega)).2
  rw [Nat.zero_add] at c0 f0
  obtain ⟨B, hBB⟩ : ∃ B, B = w3.heap.size := ⟨_, rfl⟩
  rw [← hBB] at hrun HROW c0 f0
  have hBge : w.heap.size ≤ B := by rw [hBB]; exact HB3.out.size
  have hrow2 := (HROW.out).set i hil (.int .u8 z.toNat)
  rw [Nat.zero_add, show (Lib.byteCells b.data.toList).set i (.int .u8 z.toNat) = Lib.byteCells (b.data.toList.set i z) from by simp [Lib.byteCells, List.map_set]] at hrow2
  have hcw : ∀ W : World, Keep (fun _ => False) (w4.setCell ⟨B, i, none⟩ (.int .u8 z.toNat)) W → (convert 34 9 (.slice (some ⟨B, 0, none⟩) sz cc)).run Tryd.prog W = .ok (.string C) W := fun W hW => by
    have := run_row_string (P := Tryd.prog) 34 9 5 (hrow2.keep hW (fun x => x)) Tryd.underlying34 Tryd.underlying5 Tryd.underlying9
    rw [this, HC.out]
  have cv0 := hcw _ (Keep.refl _ _)
  have HCW := Lib.hid hcw
  have HB5 : Hid (Below w.heap.size w (w4.setCell ⟨B, i, none⟩ (.int .u8 z.toNat))) := HB4.out.setCell hBge _
  clear hrow hb4 hBB hrow2 hcw
  go_wp2_with fail
  refine (open_any key C _ (HR.out.below HB5.out) (by omega) (by omega)).mono ?_
  rintro r w6 ⟨rfl, hb6⟩
  rw [← HO.out, ← Ho.out]
  have HB6 := Lib.hid (HB5.out.trans (hb6.mono HB5.out.size))
  have HK6 : Hid (Keep (fun _ => False) (w4.setCell ⟨B, i, none⟩ (.int .u8 z.toNat)) w6) := Keep.of_below _ hb6
  clear hb6 cv0 c0 f0 hrun
  obtain ⟨Y1, hY1⟩ : ∃ Y1 : ByteArray, Y1 = ⟨(tagL key.data.toList s.data.toList).toArray⟩ := ⟨_, rfl⟩
  obtain ⟨Y2, hY2⟩ : ∃ Y2 : ByteArray, Y2 = ⟨(tagL other.data.toList s.data.toList).toArray⟩ := ⟨_, rfl⟩
  have HY1 := Lib.hid hY1
  have HY2 := Lib.hid hY2
  by_cases htag : tagL key.data.toList s.data.toList = tagL other.data.toList s.data.toList
  · have hop2 : openL other.data.toList b.data.toList = (s.data.toList, 0) := by rw [HBL.out, open_sealed, if_pos htag]
    have hYY : Y2 = Y1 := by rw [hY1, hY2, htag]
    have HOP2 := Lib.hid hop2
    have HYY := Lib.hid hYY
    clear hop2 htag hY1 hY2 hYY
    go_wp2_with fail
    refine (open_back other b w6 (HR.out.below HB6.out) (by omega) (by rw [HBS.out]; omega) _ _ HOP2.out).mono ?_
    rintro r w7 ⟨rfl, hb7⟩
    have HB7 := Lib.hid (HB6.out.trans (hb7.mono HB6.out.size))
    have HK7 := Lib.hid (HK6.out.trans (Keep.of_below (fun _ => False) hb7) (fun _ _ e => e))
    have cv7 := HCW.out w7 HK7.out
    clear hb7
    go_wp2_with fail
    refine (refopen_any key C w7 (by omega) (by omega)).mono ?_
    rintro r w8 ⟨rfl, hb8⟩
    rw [← HO.out, ← Ho.out]
    have HB8 := Lib.hid (HB7.out.trans (hb8.mono HB7.out.size))
    clear hb8 cv7
    go_wp2_with fail
    refine (reftag_any other s w8 (by omega) (by omega)).mono ?_
    rintro r w9 ⟨rfl, hb9⟩
    rw [← HY2.out, HYY.out]
    have HB9 := Lib.hid (HB8.out.trans (hb9.mono HB8.out.size))
    clear hb9
    go_wp2_with fail
    refine (reftag_any key s w9 (by omega) (by omega)).mono ?_
    rintro r w10 ⟨rfl, hb10⟩
    rw [← HY1.out]
    have HB10 := Lib.hid (HB9.out.trans (hb10.mono HB9.out.size))
    clear hb10
    go_wp2_with fail
    go_ret
    exact ⟨rfl, HB10.out⟩
  · have hop2 : openL other.data.toList b.data.toList = ([], 5) := by rw [HBL.out, open_sealed, if_neg htag]
    have hYY : (Y2.toList == Y1.toList) = false := by
      rw [beq_eq_false_iff_ne]
      intro e
      rw [Lib.toList_data, Lib.toList_data, hY1, hY2] at e
      exact htag e.symm
    have HOP2 := Lib.hid hop2
    have HYY := Lib.hid hYY
    clear hop2 htag hY1 hY2 hYY
    go_wp2_with fail
    refine (open_back other b w6 (HR.out.below HB6.out) (by omega) (by rw [HBS.out]; omega) _ _ HOP2.out).mono ?_
    rintro r w7 ⟨rfl, hb7⟩
    have HB7 := Lib.hid (HB6.out.trans (hb7.mono HB6.out.size))
    have HK7 := Lib.hid (HK6.out.trans (Keep.of_below (fun _ => False) hb7) (fun _ _ e => e))
    have cv7 := HCW.out w7 HK7.out
    clear hb7
    go_wp2_with fail
    refine (refopen_any key C w7 (by omega) (by omega)).mono ?_
    rintro r w8 ⟨rfl, hb8⟩
    rw [← HO.out, ← Ho.out]
    have HB8 := Lib.hid (HB7.out.trans (hb8.mono HB7.out.size))
    clear hb8 cv7
    go_wp2_with fail
    refine (reftag_any other s w8 (by omega) (by omega)).mono ?_
    rintro r w9 ⟨rfl, hb9⟩
    rw [← HY2.out]
    have HB9 := Lib.hid (HB8.out.trans (hb9.mono HB8.out.size))
    clear hb9
    have hyy := HYY.out
    go_wp2_with fail
    refine (reftag_any key s w9 (by omega) (by omega)).mono ?_
    rintro r w10 ⟨rfl, hb10⟩
    rw [← HY1.out]
    have HB10 := Lib.hid (HB9.out.trans (hb10.mono HB9.out.size))
    clear hb10
    go_wp2_with fail
    go_ret
    exact ⟨rfl, HB10.out⟩

set_option maxRecDepth 100000 in
set_option maxHeartbeats 1600000 in
theorem walk_SealChanged (key : ByteArray) (hk : key.size ≤ maxLen) (other : ByteArray) (ho : other.size ≤ maxLen) (s : ByteArray) (hs : s.size ≤ maxLen) (a : Int) (ha : (Lit.int .i64 a).wf = true) (b : Int) (hb : (Lit.int .i64 b).wf = true) (w : World) (hr : Roots w) :
    Calls Tryd.prog 4 #[.string key, .string other, .string s, .int .i64 a, .int .i64 b] w fun e w' => e = .returned (.bool true) ∧ Below w.heap.size w w' := by
  unfold maxLen at hk ho hs
  have ba := wf_bounds ha
  have bb := wf_bounds hb
  clear ha hb
  have HR := Lib.hid hr
  by_cases h1 : 100 < key.size
  · have q1 : (100 : Int) < (key.size : Int) := by omega
    clear hr
    go_enter Tryd.func4, Tryd.ntmps4
    go_wp2_with fail
    refine (alive_any w HR.out).mono ?_
    rintro r w1 ⟨rfl, hb1⟩
    go_wp2_with fail
    go_ret
    exact ⟨rfl, hb1⟩
  have q1 : ¬ (100 : Int) < (key.size : Int) := by omega
  by_cases h2 : 100 < other.size
  · have q2 : (100 : Int) < (other.size : Int) := by omega
    clear hr
    go_enter Tryd.func4, Tryd.ntmps4
    go_wp2_with fail
    refine (alive_any w HR.out).mono ?_
    rintro r w1 ⟨rfl, hb1⟩
    go_wp2_with fail
    go_ret
    exact ⟨rfl, hb1⟩
  have q2 : ¬ (100 : Int) < (other.size : Int) := by omega
  by_cases h3 : 500 < s.size
  · have q3 : (500 : Int) < (s.size : Int) := by omega
    clear hr
    go_enter Tryd.func4, Tryd.ntmps4
    go_wp2_with fail
    refine (alive_any w HR.out).mono ?_
    rintro r w1 ⟨rfl, hb1⟩
    go_wp2_with fail
    go_ret
    exact ⟨rfl, hb1⟩
  have q3 : ¬ (500 : Int) < (s.size : Int) := by omega
  by_cases h4 : a < 0
  · clear hr
    go_enter Tryd.func4, Tryd.ntmps4
    go_wp2_with fail
    refine (alive_any w HR.out).mono ?_
    rintro r w1 ⟨rfl, hb1⟩
    go_wp2_with fail
    go_ret
    exact ⟨rfl, hb1⟩
  obtain ⟨k, rfl⟩ := Int.eq_ofNat_of_zero_le (show 0 ≤ a from by omega)
  by_cases h5 : b % 256 = 0
  · have q5 : ((b % 256) == 0) = true := by rw [beq_iff_eq]; exact h5
    have q4 : ¬ ((k : Int) < 0) := by omega
    have H5 := Lib.hid h5
    clear hr h4 h5
    go_enter Tryd.func4, Tryd.ntmps4
    go_wp2_with fail
    refine (alive_any w HR.out).mono ?_
    rintro r w1 ⟨rfl, hb1⟩
    go_wp2_with fail
    go_ret
    exact ⟨rfl, hb1⟩
  exact changed_good key other s k b w hr (by omega) (by omega) (by omega) (by omega) h5 bb

end Go.Proofs.YtncfnpibigohoaaDoor
