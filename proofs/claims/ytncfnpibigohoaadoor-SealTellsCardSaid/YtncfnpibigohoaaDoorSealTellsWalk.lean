/- Law SealTells: the walk. Own work. -/
import Derived.Test.YtncfnpibigohoaaDoorKnown
import Derived.Test.YtncfnpibigohoaaDoorRefO
import Derived.Test.YtncfnpibigohoaaDoorShort
import Derived.Test.YtncfnpibigohoaaDoorJoin
import Derived.Test.YtncfnpibigohoaaDoorBookT
namespace Go.Proofs.YtncfnpibigohoaaDoor
set_option linter.unusedVariables false
open Go.RowKit

set_option maxRecDepth 100000 in
set_option maxHeartbeats 3200000 in
theorem tells_good (key b : ByteArray) (A : Option Addr) (n cap : Nat) (ss : List ByteArray) (w : World) (hk : key.size ≤ 300) (hb : b.size ≤ 600) (hss : Strs w A n ss) (hr : Roots w) (hs1 : ss.length ≤ 20) (hs2 : sum ss ≤ 1000) :
    Calls Tryd.prog 3 #[.string key, .slice A n cap, .string b] w fun e w' => e = .returned (.bool true) ∧ Below w.heap.size w w' := by
  have hsrc := src_strs hss
  have hl := hss.1
  have hsh := short_any 20 1000 A n cap ss w hsrc hss.2.2.1 (by omega) (by omega) hss.2.2.2
  have e1 : shortB 20 1000 ss = true := by unfold shortB; exact decide_eq_true ⟨hs1, hs2⟩
  rw [e1] at hsh
  have HSH := Lib.hid hsh
  have H := Lib.hid hsrc
  have HR := Lib.hid hr
  have HL := Lib.hid hl
  have k1 : ¬ (300 < (key.size : Int)) := by omega
  have k2 : ¬ (600 < (b.size : Int)) := by omega
  have hn : n ≤ 20 := by omega
  clear hsrc hsh e1 hr hss hl hs1
  go_enter Tryd.func3, Tryd.ntmps3
  go_wp2_with fail
  refine HSH.out.mono ?_
  rintro r w1 ⟨rfl, hb1⟩
  have HB1 := Lib.hid hb1
  clear hb1 HSH
  go_wp2_with fail
  refine (alive_any w1 (HR.out.below HB1.out)).mono ?_
  rintro r w2 ⟨rfl, hb2⟩
  have HB2 := Lib.hid (HB1.out.trans (hb2.mono HB1.out.size))
  clear hb2 HB1
  go_wp2_with fail
  refine (lent_Texts A n cap ss w2 (H.out.below HB2.out) (by omega)).mono ?_
  rintro r w3 ⟨g, c', rfl, hlent, hfar, hb3⟩
  have HG := Lib.hid hlent
  have HB3 := Lib.hid (HB2.out.trans (hb3.mono HB2.out.size))
  clear hb3 HB2 hlent hfar
  go_wp2_with fail
  refine (join_any A n cap ss w3 (H.out.below HB3.out) (by omega) (by omega)).mono ?_
  rintro r w3' ⟨rfl, rfl⟩
  obtain ⟨J, hJ⟩ : ∃ J : ByteArray, J = ⟨(joinL ss).toArray⟩ := ⟨_, rfl⟩
  have hJs : J.size ≤ 1000 := by rw [hJ, size_mk, joinL_len]; exact hs2
  have hJl : J.data.toList = joinL ss := by rw [hJ]
  rw [← hJ]
  have HJ := Lib.hid hJl
  clear hJ hJl
  go_wp2_with fail
  refine (open_any key b w3 (HR.out.below HB3.out) (by omega) (by omega)).mono ?_
  rintro r w4 ⟨rfl, hb4⟩
  obtain ⟨O, hO⟩ : ∃ O : ByteArray, O = ⟨(openL key.data.toList b.data.toList).1.toArray⟩ := ⟨_, rfl⟩
  obtain ⟨o, ho⟩ : ∃ o : Int, o = (openL key.data.toList b.data.toList).2 := ⟨_, rfl⟩
  rw [← hO, ← ho]
  have HO := Lib.hid hO
  have Ho := Lib.hid ho
  have HG4 := Lib.hid (HG.out.keep (Keep.of_below (fun _ => False) hb4) (fun x => x))
  have HB4 := Lib.hid (HB3.out.trans (hb4.mono HB3.out.size))
  clear hb4 HB3 HG hO ho
  go_wp2_with fail
  refine (refopen_any key b w4 (by omega) (by omega)).mono ?_
  rintro r w5 ⟨rfl, hb5⟩
  rw [← HO.out, ← Ho.out]
  have HG5 := Lib.hid (HG4.out.keep (Keep.of_below (fun _ => False) hb5) (fun x => x))
  have HB5 := Lib.hid (HB4.out.trans (hb5.mono HB4.out.size))
  clear hb5 HB4 HG4
  have hGl : (ss.map Value.string).length = n := by rw [List.length_map]; exact HL.out
  have hsrc5 := HG5.out.src
  rw [hGl] at hsrc5
  have HS5 := Lib.hid hsrc5
  clear hsrc5 hGl
  obtain ⟨T, hT⟩ : ∃ T : ByteArray, T = ⟨(tagL key.data.toList (joinL ss)).toArray⟩ := ⟨_, rfl⟩
  obtain ⟨Z, hZ⟩ : ∃ Z : ByteArray, Z = ⟨(sealedL key.data.toList (joinL ss)).toArray⟩ := ⟨_, rfl⟩
  have HT := Lib.hid hT
  have HZ := Lib.hid hZ
  clear hT hZ
  go_wp2_with fail
  refine (tag_any key _ n c' ss w5 HS5.out (HR.out.below HB5.out) (by omega) (by omega) (by omega)).mono ?_
  rintro r w6 ⟨rfl, hb6⟩
  rw [← HT.out]
  have HG6 := Lib.hid (HG5.out.keep (Keep.of_below (fun _ => False) hb6) (fun x => x))
  have HS6 := Lib.hid (HS5.out.below hb6)
  have HB6 := Lib.hid (HB5.out.trans (hb6.mono HB5.out.size))
  clear hb6 HB5 HG5 HS5
  go_wp2_with fail
  refine (reftag_any key J w6 (by omega) (by omega)).mono ?_
  rintro r w7 ⟨rfl, hb7⟩
  rw [HJ.out, ← HT.out]
  have HG7 := Lib.hid (HG6.out.keep (Keep.of_below (fun _ => False) hb7) (fun x => x))
  have HS7 := Lib.hid (HS6.out.below hb7)
  have HB7 := Lib.hid (HB6.out.trans (hb7.mono HB6.out.size))
  clear hb7 HB6 HG6 HS6
  go_wp2_with fail
  refine (sealing_any key _ n c' ss w7 HS7.out (HR.out.below HB7.out) (by omega) (by omega) (by omega)).mono ?_
  rintro r w8 ⟨rfl, hb8⟩
  rw [← HZ.out]
  have HG8 := Lib.hid (HG7.out.keep (Keep.of_below (fun _ => False) hb8) (fun x => x))
  have HB8 := Lib.hid (HB7.out.trans (hb8.mono HB7.out.size))
  clear hb8 HB7 HG7 HS7
  go_wp2_with fail
  refine (refseal_any key J w8 (by omega) (by omega)).mono ?_
  rintro r w9 ⟨rfl, hb9⟩
  rw [HJ.out, ← HZ.out]
  have HG9 := Lib.hid (HG8.out.keep (Keep.of_below (fun _ => False) hb9) (fun x => x))
  have HB9 := Lib.hid (HB8.out.trans (hb9.mono HB8.out.size))
  clear hb9 HB8 HG8
  go_wp2_with fail
  refine (stays_Texts g c' A n cap ss w9 HG9.out (H.out.below HB9.out) (by omega)).mono ?_
  rintro r w10 ⟨rfl, kk, rfl⟩
  go_wp2_with fail
  go_ret
  exact ⟨rfl, below_drewN HB9.out kk⟩

set_option maxRecDepth 100000 in
set_option maxHeartbeats 1600000 in
theorem walk_SealTells (key : ByteArray) (hk : key.size ≤ maxLen) (A : Option Addr) (n cap : Nat) (ss : List ByteArray) (b : ByteArray) (hb : b.size ≤ maxLen) (w : World) (hss : Strs w A n ss) (hr : Roots w) :
    Calls Tryd.prog 3 #[.string key, .slice A n cap, .string b] w fun e w' => e = .returned (.bool true) ∧ Below w.heap.size w w' := by
  unfold maxLen at hk hb
  by_cases h1 : 300 < key.size
  · have h1' : (300 : Int) < (key.size : Int) := by omega
    have HR := Lib.hid hr
    clear hss hr
    go_enter Tryd.func3, Tryd.ntmps3
    go_wp2_with fail
    refine (alive_any w HR.out).mono ?_
    rintro r w1 ⟨rfl, hb1⟩
    go_wp2_with fail
    go_ret
    exact ⟨rfl, hb1⟩
  have hsh := short_any 20 1000 A n cap ss w (src_strs hss) hss.2.2.1 (by omega) (by omega) hss.2.2.2
  by_cases h2 : shortB 20 1000 ss = true
  · obtain ⟨q1, q2⟩ : ss.length ≤ 20 ∧ sum ss ≤ 1000 := by unfold shortB at h2; exact of_decide_eq_true h2
    by_cases h3 : 600 < b.size
    · rw [h2] at hsh
      have HSH := Lib.hid hsh
      have HR := Lib.hid hr
      have h1' : ¬ (300 : Int) < (key.size : Int) := by omega
      have h3' : (600 : Int) < (b.size : Int) := by omega
      clear hsh hss hr h2
      go_enter Tryd.func3, Tryd.ntmps3
      go_wp2_with fail
      refine HSH.out.mono ?_
      rintro r w1 ⟨rfl, hb1⟩
      have HB1 := Lib.hid hb1
      clear hb1
      go_wp2_with fail
      refine (alive_any w1 (HR.out.below HB1.out)).mono ?_
      rintro r w2 ⟨rfl, hb2⟩
      have HB2 := Lib.hid (HB1.out.trans (hb2.mono HB1.out.size))
      clear hb2
      go_wp2_with fail
      go_ret
      exact ⟨rfl, HB2.out⟩
    · exact tells_good key b A n cap ss w (by omega) (by omega) hss hr q1 q2
  · rw [show shortB 20 1000 ss = false by simpa using h2] at hsh
    have HSH := Lib.hid hsh
    have HR := Lib.hid hr
    have h1' : ¬ (300 : Int) < (key.size : Int) := by omega
    clear hsh hss hr h2
    go_enter Tryd.func3, Tryd.ntmps3
    go_wp2_with fail
    refine HSH.out.mono ?_
    rintro r w1 ⟨rfl, hb1⟩
    have HB1 := Lib.hid hb1
    clear hb1
    go_wp2_with fail
    refine (alive_any w1 (HR.out.below HB1.out)).mono ?_
    rintro r w2 ⟨rfl, hb2⟩
    have HB2 := Lib.hid (HB1.out.trans (hb2.mono HB1.out.size))
    clear hb2
    go_wp2_with fail
    go_ret
    exact ⟨rfl, HB2.out⟩

end Go.Proofs.YtncfnpibigohoaaDoor
