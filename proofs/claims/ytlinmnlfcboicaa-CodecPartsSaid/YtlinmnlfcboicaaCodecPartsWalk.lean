/- Law CodecParts: the walk. Own work. -/
import Derived.Test.YtlinmnlfcboicaaAlive
import Derived.Test.YtlinmnlfcboicaaStrs
import Derived.Deep.RegionHeld3
namespace Go.Proofs.Ytlinmnlfcboicaa
set_option linter.unusedVariables false
open Go.RowKit

/-- The bytes of texts, one behind the other. -/
def catT (xs : List ByteArray) : List UInt8 := xs.flatMap fun s => enc s.size ++ s.data.toList
theorem catT_cons (x : ByteArray) (xs : List ByteArray) : catT (x :: xs) = enc x.size ++ (x.data.toList ++ catT xs) := by simp [catT]
theorem catT_snoc (xs : List ByteArray) (x : ByteArray) : catT (xs ++ [x]) = catT xs ++ (enc x.size ++ x.data.toList) := by simp [catT]
theorem catT_len (xs : List ByteArray) (h : ∀ s ∈ xs, s.size ≤ 300) : (catT xs).length ≤ 309 * xs.length := by
  induction xs with
  | nil => simp [catT]
  | cons x r ih =>
    have h1 := ih (fun s hs => h s (by simp [hs]))
    have h2 := h x (by simp)
    have h3 := enc_le x.size (by omega)
    have h4 := Lib.size_eq x
    rw [catT_cons]
    simp only [List.length_append, List.length_cons]
    omega

theorem InIs.drew {w0 w : World} {p : Nat} {s : ByteArray} {e : Int} (h : InIs w0 p s e w) : InIs w0 p s e w.drew := ⟨h.1, h.2.1.drew, h.2.2⟩
theorem InIs.drewN {w0 w : World} {p : Nat} {s : ByteArray} {e : Int} (h : InIs w0 p s e w) (n : Nat) : InIs w0 p s e (w.drewN n) := ⟨h.1, ⟨h.2.1.os, h.2.1.tape, h.2.1.output, h.2.1.size, h.2.1.block⟩, h.2.2⟩

set_option maxRecDepth 100000 in
set_option maxHeartbeats 3200000 in
theorem parts_good (A : Option Addr) (len cap : Nat) (ss : List ByteArray) (w : World) (hss : Strs w A len ss) (hl : len ≤ 30) :
    Calls Try.prog 9 #[.slice A len cap] w fun e w' => e = .returned (.bool true) ∧ Below w.heap.size w w' := by
  have HS := Lib.hid hss
  clear hss
  go_enter Try.func9, Try.ntmps9
  go_wp2_with fail
  refine (alive_any _).mono ?_
  rintro r w1 ⟨rfl, hb⟩
  have H1 := Lib.hid (OutIs.new hb)
  clear hb
  go_wp2_with fail
  go_loopw [4] (fun i wr => ∃ k : Nat, i = .int .i64 k ∧ k ≤ len ∧ Hid (OutIs w w1.heap.size (catT (ss.take k), 0) wr) ∧ Hid (∀ s ∈ ss.take k, s.size ≤ 300)) (fun i _ => len - (intOf i).toNat)
  case atStart => exact ⟨0, rfl, by omega, H1, by intro s hs; simp at hs⟩
  case round =>
    obtain ⟨k, rfl, hk, H2, H3⟩ := hrel
    by_cases hlt : k < len
    · obtain ⟨x, hx⟩ : ∃ x, ss[k]? = some x := ⟨ss[k]'(by rw [HS.out.1]; exact hlt), List.getElem?_eq_getElem _⟩
      obtain ⟨b, off, rfl, hbl, hc⟩ := HS.out.2.1 (by omega)
      have hcx : wr.cell? ⟨b, off + k, none⟩ = some (.string x) := (H2.out.below.cell (p := ⟨b, off + k, none⟩) hbl).trans (hc k x hx)
      have hxm := HS.out.2.2.1 x (List.mem_of_getElem? hx)
      unfold maxLen at hxm
      have hcl : (catT (ss.take k)).length ≤ 309 * 30 := Nat.le_trans (catT_len _ H3.out) (by rw [List.length_take]; omega)
      have e1 : catT (ss.take (k + 1)) = catT (ss.take k) ++ (enc x.size ++ x.data.toList) := by rw [take_next hx, catT_snoc]
      have H4 := Lib.hid e1
      have H5 := Lib.hid (take_next hx)
      clear hx hc hbl e1
      by_cases hbig : 300 < x.size
      · go_wp2
        go_ret
        exact ⟨rfl, H2.out.below⟩
      · go_wp2_with fail
        refine (isText H2.out [x] (n := 1) rfl rfl (by rw [sum_one]; simp only; omega)).mono ?_
        rintro r w2 ⟨rfl, h1⟩
        simp only [textsO_one] at h1
        have H6 := Lib.hid h1
        clear h1 hcx
        go_wp2_with fail
        go_roundw
        case rel =>
          refine ⟨k + 1, by go_num, by omega, ?_, ?_⟩
          · show OutIs _ _ _ _
            rw [H4.out]; exact H6.out
          · intro s hs
            rw [H5.out] at hs
            rcases List.mem_append.1 hs with e | e
            · exact H3.out s e
            · rw [List.mem_singleton.1 e]; omega
        case measure => simp [intOf]; omega
    · obtain ⟨wo, rfl⟩ : ∃ wo : World, wo = wr := ⟨_, rfl⟩
      have hkl : k = len := by omega
      have htk : ss.take k = ss := List.take_of_length_le (by rw [HS.out.1]; omega)
      rw [htk] at H2 H3
      have hcl : (catT ss).length ≤ 309 * 30 := Nat.le_trans (catT_len _ H3.out) (by have := HS.out.1; omega)
      clear htk hkl
      go_wp2_with fail
      refine (isEnd H2.out).mono ?_
      rintro r w3 ⟨rfl, nq, rfl⟩
      have H6 := Lib.hid (H2.out.drewN nq).below
      go_wp2_with fail
      refine (inOn H6.out _).mono ?_
      rintro r w4 ⟨rfl, h1⟩
      have H7 := Lib.hid h1
      clear h1 H6 H2
      go_wp2_with fail
      go_loopw [8] (fun i wr2 => ∃ k : Nat, i = .int .i64 k ∧ k ≤ len ∧ Hid (InIs w wo.heap.size ⟨(catT (ss.drop k)).toArray⟩ 0 wr2)) (fun i _ => len - (intOf i).toNat)
      case atStart => exact ⟨0, rfl, by omega, H7⟩
      case round =>
        obtain ⟨k2, rfl, hk2, H8⟩ := hrel
        by_cases hlt2 : k2 < len
        · obtain ⟨x, hx⟩ : ∃ x, ss[k2]? = some x := ⟨ss[k2]'(by rw [HS.out.1]; exact hlt2), List.getElem?_eq_getElem _⟩
          obtain ⟨b, off, rfl, hbl, hc⟩ := HS.out.2.1 (by omega)
          have hcw := hc k2 x hx
          have hcx := (H8.out.2.1.cell (p := ⟨b, off + k2, none⟩) hbl).trans hcw
          have hxm := H3.out x (List.mem_of_getElem? hx)
          have e1 : ss.drop k2 = x :: ss.drop (k2 + 1) := by
            have hi : k2 < ss.length := by rw [HS.out.1]; exact hlt2
            rw [List.drop_eq_getElem_cons hi]
            rw [List.getElem?_eq_getElem hi] at hx
            injection hx with hx
            rw [hx]
          have hcl2 : (catT (ss.drop k2)).length ≤ 309 * 30 := Nat.le_trans (catT_len _ (fun s hs => H3.out s (List.mem_of_mem_drop hs))) (by rw [List.length_drop, HS.out.1]; omega)
          rw [e1, catT_cons] at H8 hcl2
          have HW := Lib.hid hcw
          have ht := textS_text x (catT (ss.drop (k2 + 1))) (by omega)
          have HT := Lib.hid ht
          clear e1 hx hc hcw ht
          go_wp2_with fail
          go_region_held3 (fun w' => w'.cell? ⟨b, off + k2, none⟩ = some (.string x)) (first | exact hcx | exact hcx2 | go_keep) (first | (go_at_call 29; refine (inText (w0 := w) (p := wo.heap.size) (s := ⟨(enc x.size ++ (x.data.toList ++ catT (ss.drop (k2 + 1)))).toArray⟩) (e := 0) ?_ (by rw [size_mk]; omega)).mono ?_; (first | exact H8.out | exact H8.out.drew); rw [HT.out]; rintro r w5 ⟨rfl, h1⟩; have hin5 := Lib.hid h1; have hcx2 := (h1.2.1.cell (p := ⟨b, off + k2, none⟩) hbl).trans HW.out))
          have H9 : Hid (InIs w wo.heap.size ⟨(catT (ss.drop (k2 + 1))).toArray⟩ 0 w5) := by assumption
          go_wp2_with fail
          go_roundw
          case rel => exact ⟨k2 + 1, by go_num, by omega, H9⟩
          case measure => simp [intOf]; omega
        · have hkl2 : k2 = len := by omega
          have hdr : ss.drop k2 = [] := List.drop_of_length_le (by rw [HS.out.1]; omega)
          rw [hdr] at H8
          have H9 : Hid (InIs w wo.heap.size ⟨#[]⟩ 0 wr) := H8
          have K1 := Lib.hid (inLeft H9.out (by decide))
          have K2 := Lib.hid (inEnd H9.out (by decide))
          clear H8 H9 hdr hkl2
          go_wp2_with fail
          refine K1.out.mono ?_
          rintro r w5 ⟨rfl, rfl⟩
          go_wp2_with fail
          refine K2.out.mono ?_
          rintro r w6 ⟨rfl, h1⟩
          have H9 := Lib.hid h1.2.1
          clear h1 K1 K2
          go_wp2_with fail
          go_ret
          exact ⟨rfl, H9.out⟩

set_option maxRecDepth 100000 in
set_option maxHeartbeats 1600000 in
theorem walk_CodecParts (A : Option Addr) (len cap : Nat) (ss : List ByteArray) (w : World) (hss : Strs w A len ss) :
    Calls Try.prog 9 #[.slice A len cap] w fun e w' => e = .returned (.bool true) ∧ Below w.heap.size w w' := by
  by_cases h : len ≤ 30
  · exact parts_good A len cap ss w hss h
  · have hm := hss.2.2.2
    unfold maxLen at hm
    clear hss
    go_enter Try.func9, Try.ntmps9
    go_wp2_with fail
    refine (alive_any _).mono ?_
    rintro r w1 ⟨rfl, hb⟩
    go_wp2_with fail
    go_ret
    exact ⟨rfl, hb⟩

end Go.Proofs.Ytlinmnlfcboicaa
