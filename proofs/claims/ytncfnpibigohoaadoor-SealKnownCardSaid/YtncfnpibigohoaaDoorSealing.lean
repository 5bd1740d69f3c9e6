/- Seal. Own work. -/
import Derived.Test.YtncfnpibigohoaaDoorConcat
namespace Go.Proofs.YtncfnpibigohoaaDoor
set_option linter.unusedVariables false
open Go.RowKit

theorem join_plain (l : List (List UInt8)) : Lib.join l [] = l.flatten := by
  cases l with
  | nil => rfl
  | cons x r =>
    rw [Lib.join_cons]
    simp [Lib.joinTail]

theorem tagL_len' (key text : List UInt8) : (tagL key text).length = 16 := by
  unfold tagL
  rw [List.length_take, digest_len]; omega

/-- What Seal tells. -/
def sealedL (key text : List UInt8) : List UInt8 := text ++ tagL key text

theorem sealed_join (key : List UInt8) (xs : List ByteArray) (T : ByteArray) (h : T.data.toList = tagL key (joinL xs)) : Lib.join ((xs ++ [T]).map (·.data.toList)) [] = sealedL key (joinL xs) := by
  rw [join_plain]
  simp [sealedL, joinL, h, List.flatMap]

set_option maxRecDepth 100000 in
set_option maxHeartbeats 1600000 in
theorem sealing_any (key : ByteArray) (A : Option Addr) (n c : Nat) (xs : List ByteArray) (w : World) (h : Src w A n (xs.map Value.string)) (hr : Roots w) (hs : sum xs ≤ 100000) (hn : n ≤ 100000) (hk : key.size ≤ 100000) :
    Calls Tryd.prog 14 #[.string key, .slice A n c] w fun r w' => r = .returned (.string ⟨(sealedL key.data.toList (joinL xs)).toArray⟩) ∧ Below w.heap.size w w' := by
  obtain ⟨T, hT⟩ : ∃ T : ByteArray, T = ⟨(tagL key.data.toList (joinL xs)).toArray⟩ := ⟨_, rfl⟩
  have hTl : T.data.toList = tagL key.data.toList (joinL xs) := by rw [hT]
  have htag := tag_any key A n c xs w h hr hs (by omega) hk
  rw [← hT] at htag
  have hjoin := sealed_join key.data.toList xs T hTl
  have hl : xs.length = n := by have := h.1; rwa [List.length_map] at this
  have HT := Lib.hid htag
  have HJ := Lib.hid hjoin
  have H := Lib.hid h
  have HL := Lib.hid hl
  have hlen : (sealedL key.data.toList (joinL xs)).length ≤ 140737488355328 := by
    unfold sealedL
    rw [List.length_append, joinL_len, tagL_len']; omega
  clear hT hTl htag hjoin h hl hr
  go_enter Tryd.func14, Tryd.ntmps14
  go_wp2_with fail
  refine HT.out.mono ?_
  rintro r w1 ⟨rfl, hb1⟩
  have HB1 := Lib.hid hb1
  have HS1 := Lib.hid (H.out.below hb1)
  clear hb1
  go_wp2_with fail
  have hba : Below w1.heap.size w1 (w1.alloc (.cells #[.string T] 9)) := (Below.refl _ _).alloc (Nat.le_refl _) _
  have hbb : Below w1.heap.size w1 ((w1.alloc (.cells #[.string T] 9)).alloc (.cells #[.slice A n c, .slice (some ⟨w1.heap.size, 0, none⟩) 1 1] 22)) := hba.alloc hba.size _
  have hsz : (w1.alloc (.cells #[.string T] 9)).heap.size = w1.heap.size + 1 := by simp
  have hone := (src_one (w := w1) (.string T) 9 w1.heap.size rfl).below ((Below.refl _ _).alloc (Nat.le_refl _) (.cells #[.slice A n c, .slice (some ⟨w1.heap.size, 0, none⟩) 1 1] 22))
  have htwo := src_two (w := w1.alloc (.cells #[.string T] 9)) (.slice A n c) (.slice (some ⟨w1.heap.size, 0, none⟩) 1 1) 22 (w1.heap.size + 1) hsz.symm
  refine (concat_two (some ⟨w1.heap.size + 1, 0, none⟩) A (some ⟨w1.heap.size, 0, none⟩) n 1 c 1 2 (xs.map Value.string) [.string T] _ htwo (HS1.out.below hbb) hone (by intro u hu; obtain ⟨x, _, rfl⟩ := List.mem_map.1 hu; rfl) (by intro u hu; simp at hu; subst hu; rfl) hn (by omega) (by omega)).mono ?_
  rintro r w2 ⟨R, cr, rfl, hsrc, hcr, hb2⟩
  obtain ⟨b, off, rfl, hbl, hcell⟩ := hsrc.2 (by omega)
  have HB2 := Lib.hid ((HB1.out.trans (hbb.mono HB1.out.size)).trans (hb2.mono (Nat.le_trans HB1.out.size hbb.size)))
  have hlx : (xs ++ [T]).length = n + 1 := by rw [List.length_append, HL.out]; rfl
  have hcells : ∀ (j : Nat) x, (xs ++ [T])[j]? = some x → w2.cell? ⟨b, off + j, none⟩ = some (.string x) := fun j x hx => by
    refine hcell j (.string x) ?_
    rw [show xs.map Value.string ++ [.string T] = (xs ++ [T]).map Value.string from by simp, List.getElem?_map, hx]
    rfl
  have hjn := Tryd.strings_Join b off cr (xs ++ [T]) ⟨#[]⟩ w2 hcells hbl (by rw [hlx]; omega) (by rw [hlx]; exact hcr) (by
    show (Lib.join _ []).length ≤ _
    rw [HJ.out]; exact hlen)
  rw [hlx] at hjn
  have hjn' : Calls Tryd.prog 27 #[.slice (some ⟨b, off, none⟩) (n + 1) cr, .string ⟨#[]⟩] w2 fun e w' => e = .returned (.string ⟨(sealedL key.data.toList (joinL xs)).toArray⟩) ∧ Below w2.heap.size w2 w' := by
    refine hjn.mono fun e w' ⟨h1, h2⟩ => ⟨?_, h2⟩
    rw [h1, ← HJ.out]
  have HJN := Lib.hid hjn'
  clear hba hbb hsz hone htwo hsrc hcell hb2 hlx hcells hjn hjn' hcr
  go_wp2_with fail
  refine HJN.out.mono ?_
  rintro r w3 ⟨rfl, hb3⟩
  have HB3 := Lib.hid (HB2.out.trans (hb3.mono HB2.out.size))
  clear hb3
  go_wp2_with fail
  go_ret
  exact ⟨rfl, HB3.out⟩

end Go.Proofs.YtncfnpibigohoaaDoor
