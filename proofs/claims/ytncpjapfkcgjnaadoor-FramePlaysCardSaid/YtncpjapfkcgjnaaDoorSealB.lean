/- What a message holds: lists. Own work. take. Own work (by sealtake.gen.py). begin, lay, turned. Own work. turned. Own work. ending, end, hash. Own work. end, hash. Own work. hash, Tag. Own work (by sealtag.gen.py). Tag. Own work (by sealtag.gen.py). -/
import Derived.Test.YtncpjapfkcgjnaaDoorSealA
import Derived.Test.YtncpjapfkcgjnaaDoorBase
import Derived.Maps.AppendAt
import Derived.Test.YtncpjapfkcgjnaaDoorShelf
set_option linter.unusedVariables false
set_option linter.unusedSimpArgs false
namespace Go.Proofs.YtncpjapfkcgjnaaDoor
set_option linter.unusedVariables false
open Go.RowKit

theorem block_app (l x : List UInt8) {n : Nat} (h : 64 * (n + 1) ≤ l.length) : blockAt (l ++ x) n = blockAt l n := by
  unfold blockAt
  rw [List.drop_append_of_le_length (by omega), List.take_append_of_le_length (by rw [List.length_drop]; omega)]

theorem run_app (l x : List UInt8) (n : Nat) (h : 64 * n ≤ l.length) : run (l ++ x) n = run l n := by
  induction n with
  | zero => rfl
  | succ n ih => simp only [run]; rw [ih (by omega), block_app l x h]

/-- A message that has taken l. -/
def MsgL (w : World) (p : Nat) (l : List UInt8) : Prop :=
  ∃ part, MsgAt w p (run l (l.length / 64)) part l.length ∧ part.take (l.length % 64) = l.drop (64 * (l.length / 64))

theorem MsgL.keep {S : Nat → Prop} {w w' : World} {p : Nat} {l : List UInt8} (h : MsgL w p l) (k : Keep S w w') (hn : ¬ S p) : MsgL w' p l := by
  obtain ⟨part, h1, h2⟩ := h
  exact ⟨part, h1.keep k hn, h2⟩
theorem MsgL.below {w w' : World} {p : Nat} {l : List UInt8} (h : MsgL w p l) (k : Below w.heap.size w w') : MsgL w' p l := h.keep (Keep.of_below (fun _ => False) k) (fun x => x)
theorem MsgL.lt {w : World} {p : Nat} {l : List UInt8} (h : MsgL w p l) : p < w.heap.size := by obtain ⟨part, h1, _⟩ := h; exact h1.lt

/-- Bytes are copied into the part. -/
theorem copied_cells (s : St) (part y : List UInt8) (size r n : Nat) (hp : part.length = 64) (hy : y.length = n) (hr : r + n ≤ 64) :
    (msgCells s part size).take (8 + r) ++ Lib.byteCells y ++ (msgCells s part size).drop (8 + r + n) = msgCells s (part.take r ++ y ++ part.drop (r + n)) size := by
  have h8 : (wcells s.words).length = 8 := by rw [wcells_length, words_length]
  have hb : (Lib.byteCells part).length = 64 := by rw [Lib.byteCells_length, hp]
  unfold msgCells
  rw [List.take_append, List.drop_append, h8, List.take_of_length_le (by omega), List.drop_of_length_le (by omega), show 8 + r - 8 = r from by omega, show 8 + r + n - 8 = r + n from by omega,
    List.take_append_of_le_length (by omega), List.drop_append_of_le_length (by omega)]
  simp [Lib.byteCells, List.map_take, List.map_drop]

theorem copied_len (part y : List UInt8) (r n : Nat) (hp : part.length = 64) (hy : y.length = n) (hr : r + n ≤ 64) : (part.take r ++ y ++ part.drop (r + n)).length = 64 := by
  simp only [List.length_append, List.length_take, List.length_drop]; omega

/-- What is held then, if the part is not full. -/
theorem held_some (l y part : List UInt8) (n : Nat) (hy : y.length = n) (hn : l.length % 64 + n < 64) (h : part.take (l.length % 64) = l.drop (64 * (l.length / 64))) :
    (part.take (l.length % 64) ++ y ++ part.drop (l.length % 64 + n)).take ((l ++ y).length % 64) = (l ++ y).drop (64 * ((l ++ y).length / 64)) ∧ run (l ++ y) ((l ++ y).length / 64) = run l (l.length / 64) := by
  have e1 : (l ++ y).length = l.length + n := by rw [List.length_append, hy]
  have e2 : (l.length + n) / 64 = l.length / 64 := by omega
  have e3 : (l.length + n) % 64 = l.length % 64 + n := by omega
  rw [e1, e2, e3]
  refine ⟨?_, run_app _ _ _ (by omega)⟩
  have hl : (part.take (l.length % 64)).length = l.length % 64 := by rw [h, List.length_drop]; omega
  rw [List.take_append_of_le_length (by rw [List.length_append, hl]; omega), List.take_of_length_le (by rw [List.length_append, hl]; omega), h, List.drop_append_of_le_length (by omega)]

/-- What is held then, if the part is full: it is the block that is mixed in. -/
theorem held_full (l y part : List UInt8) (n : Nat) (hy : y.length = n) (hn : l.length % 64 + n = 64) (hp : part.length = 64) (h : part.take (l.length % 64) = l.drop (64 * (l.length / 64))) :
    (part.take (l.length % 64) ++ y ++ part.drop (l.length % 64 + n)).take ((l ++ y).length % 64) = (l ++ y).drop (64 * ((l ++ y).length / 64)) ∧
      run (l ++ y) ((l ++ y).length / 64) = mixed (run l (l.length / 64)) (part.take (l.length % 64) ++ y ++ part.drop (l.length % 64 + n)) := by
  have e1 : (l ++ y).length = l.length + n := by rw [List.length_append, hy]
  have e2 : (l.length + n) / 64 = l.length / 64 + 1 := by omega
  have e3 : (l.length + n) % 64 = 0 := by omega
  rw [e1, e2, e3]
  refine ⟨?_, ?_⟩
  · rw [List.take_zero, List.drop_of_length_le (by rw [e1]; omega)]
  · simp only [run]
    rw [run_app _ _ _ (by omega)]
    congr 1
    unfold blockAt
    have d1 : part.drop (l.length % 64 + n) = [] := by rw [hn]; exact List.drop_of_length_le (by omega)
    have d2 : (l ++ y).drop (64 * (l.length / 64)) = l.drop (64 * (l.length / 64)) ++ y := List.drop_append_of_le_length (by omega)
    rw [d1, List.append_nil, h, d2, List.take_of_length_le (by rw [List.length_append, List.length_drop]; omega)]

end Go.Proofs.YtncpjapfkcgjnaaDoor
namespace Go.Proofs.YtncpjapfkcgjnaaDoor
set_option linter.unusedVariables false
set_option linter.unusedSimpArgs false
open Go.RowKit

/-- How long a text is that lies in a slot. -/
def strLen : Value → Nat
  | .string s => s.size
  | _ => 0

theorem MsgAt.size_to {w : World} {p : Nat} {s : St} {part : List UInt8} {size : Nat} (h : MsgAt w p s part size) (size' : Nat) : MsgAt (w.setCell ⟨p, 72, none⟩ (.int .i64 (size' : Int))) p s part size' := by
  refine ⟨h.len, ?_⟩
  rw [heap_set h.row 72]
  congr 2
  apply Array.ext'
  simp only [Array.toList_setIfInBounds, msgCells]
  have h1 : (wcells s.words).length = 8 := by rw [wcells_length, words_length]
  have h2 : (Lib.byteCells part).length = 64 := by rw [Lib.byteCells_length, h.len]
  rw [List.set_append_right _ _ (by omega), List.set_append_right _ _ (by omega), h1, h2]
  rfl

set_option maxRecDepth 100000 in
set_option maxHeartbeats 3200000 in
theorem take_any (p : Nat) (l0 : List UInt8) (x : ByteArray) (w : World) (h : MsgL w p l0) (hr : Roots w) (hl : l0.length + x.size ≤ 1000000) :
    Calls Tryd.prog 57 #[.pointer (some ⟨p, 0, none⟩), .string x] w fun r w' => r = .returned (.tuple #[]) ∧ MsgL w' p (l0 ++ x.data.toList) ∧ Keep (· = p) w w' := by
  have H := Lib.hid h
  have HR := Lib.hid hr
  have hb1 : (Tryd.prog.info? 5).map (·.size) = some 1 := by kernel_rfl
  have HB1 := Lib.hid hb1
  clear h hr hb1
  go_enter Tryd.func57, Tryd.ntmps57
  go_wp2_with fail
  go_loopw [1] (fun v wr => ∃ (y : ByteArray) (m : List UInt8), v = .string y ∧ m.length + y.size ≤ 1000000 ∧ Hid (m ++ y.data.toList = l0 ++ x.data.toList) ∧ Hid (MsgL wr p m) ∧ Hid (Keep (· = p) w wr)) (fun v _ => strLen v)
  case atStart => exact ⟨x, l0, rfl, hl, rfl, H, Keep.refl _ _⟩
  case round =>
    obtain ⟨y, l, rfl, hle, HE, HL, HK⟩ := hrel
    by_cases hy : y.size = 0
    · have he : y = ⟨#[]⟩ := is_empty hy
      subst he
      go_wp2_with fail
      go_end0
      refine ⟨rfl, ?_, HK.out⟩
      have := HE.out
      simp only [List.append_nil] at this
      rw [← this]
      exact HL.out
    · have hne := not_empty hy
      have hne' : y.toList ≠ [] := by intro e; rw [e] at hne; cases hne
      obtain ⟨part, hm, hpt⟩ := HL.out
      obtain ⟨s, hs⟩ : ∃ s, s = run l (l.length / 64) := ⟨_, rfl⟩
      rw [← hs] at hm
      obtain ⟨r, hrr⟩ : ∃ r, r = l.length % 64 := ⟨_, rfl⟩
      obtain ⟨n, hn⟩ : ∃ n, n = min y.size (64 - r) := ⟨_, rfl⟩
      have hr63 : r ≤ 63 := by omega
      have hn1 : 1 ≤ n := by omega
      have hny : n ≤ y.size := by omega
      have hrn : r + n ≤ 64 := by omega
      have hfit : 8 + r + n ≤ (msgCells s part l.length).toArray.size := by rw [List.size_toArray, msg_length hm.len]; omega
      have c72 := hm.size_at
      have f72 := hm.fr 72
      have a1 : (l.length : Int).tmod 64 = (r : Int) := by rw [Int.tmod_eq_emod_of_nonneg (by omega)]; omega
      have a2 : (l.length : Int) % 64 = (r : Int) := by omega
      have HM := Lib.hid hm
      have HN := Lib.hid hn
      have HFit := Lib.hid hfit
      have HPT := Lib.hid hpt
      have HS := Lib.hid hs
      have HRR := Lib.hid hrr
      have hn64 : ¬ 64 = r := by omega
      have hr0 : (0 : Int) ≤ (r : Int) := by omega
      have hr64 : (r : Int) ≤ 64 := by omega
      have hyl : (y.data.toList.take n).length = n := by rw [List.length_take, ← Lib.size_eq]; omega
      obtain ⟨P2, hP2⟩ : ∃ P2, P2 = part.take r ++ y.data.toList.take n ++ part.drop (r + n) := ⟨_, rfl⟩
      have hc : ∀ W : World, W.heap = wr.heap → MsgAt (W.setRow p ((msgCells s part l.length).toArray.toList.take (8 + r) ++ Lib.byteCells (y.data.toList.take n) ++ (msgCells s part l.length).toArray.toList.drop (8 + r + n)).toArray) p s P2 l.length := fun W hW => by
        refine ⟨by rw [hP2]; exact copied_len part _ r n hm.len hyl hrn, ?_⟩
        rw [setRow_heap _ _ _ _ _ _ (by rw [hW]; exact hm.row), List.toList_toArray, copied_cells s part _ l.length r n hm.len hyl hrn, ← hP2]
      have HC := Lib.hid hc
      have HP2 := Lib.hid hP2
      have HYL := Lib.hid hyl
      have hp0 : p ≠ 0 := by
        intro e
        subst e
        have hr0 : Roots w := HR.out
        have h1 := H.out
        obtain ⟨q, h2, _⟩ := h1
        exact h2.ne_roots hr0 rfl
      have HP0 := Lib.hid hp0
      clear hm hn hfit hpt hs hrr hyl hP2 hc hp0
      go_wp2_with fail
      refine wp_region_noPanic ?_
      refine wp_region_held_drew (S := fun w' => w'.cell? ⟨p, 72, none⟩ = some (.int .i64 (l.length : Int))) (by kernel_rfl) c72 (fun hHeld => ?_)
      refine wpAnyH_take (i := 0) (oi := _) (v := ?va0) rfl (by kernel_rfl) (by kernel_rfl) (by kernel_rfl) (fun _ _ _ h => h) (Or.inl ⟨by rfl, ?hya0⟩) (by assumption) ?resta0
      case hya0 => (intro w hSw; (try dsimp only at hSw); (try simp only [List.getElem_toArray, List.getElem_cons_zero, List.getElem_cons_succ]); go_simp; (try with_reducible rfl))
      (try simp only [Act.put, List.setIfInBounds_toArray, List.set_cons_zero, List.set_cons_succ, List.getElem_toArray, List.getElem_cons_zero, List.getElem_cons_succ])
      refine wpAnyH_take (i := 1) (oi := _) (v := ?va1) rfl (by kernel_rfl) (by kernel_rfl) (by kernel_rfl) (fun _ _ _ h => h) (Or.inl ⟨by rfl, ?hya1⟩) (by assumption) ?resta1
      case hya1 => (intro w hSw; (try dsimp only at hSw); (try simp only [List.getElem_toArray, List.getElem_cons_zero, List.getElem_cons_succ]); go_simp; (try with_reducible rfl))
      (try simp only [Act.put, List.setIfInBounds_toArray, List.set_cons_zero, List.set_cons_succ, List.getElem_toArray, List.getElem_cons_zero, List.getElem_cons_succ])
      refine wpAnyH_take (i := 2) (oi := _) (v := ?va2) rfl (by kernel_rfl) (by kernel_rfl) (by kernel_rfl) (fun _ _ _ h => h) (Or.inl ⟨by rfl, ?hya2⟩) (by assumption) ?resta2
      case hya2 => (intro w hSw; (try dsimp only at hSw); (try simp only [List.getElem_toArray, List.getElem_cons_zero, List.getElem_cons_succ]); go_simp; (try with_reducible rfl))
      (try simp only [Act.put, List.setIfInBounds_toArray, List.set_cons_zero, List.set_cons_succ, List.getElem_toArray, List.getElem_cons_zero, List.getElem_cons_succ])
      refine wpAnyH_take (i := 3) (oi := _) (v := ?va3) rfl (by kernel_rfl) (by kernel_rfl) (by kernel_rfl) (fun _ _ _ h => h) (Or.inl ⟨by rfl, ?hya3⟩) (by assumption) ?resta3
      case hya3 => (intro w hSw; (try dsimp only at hSw); (try simp only [List.getElem_toArray, List.getElem_cons_zero, List.getElem_cons_succ]); go_simp; (try with_reducible rfl))
      (try simp only [Act.put, List.setIfInBounds_toArray, List.set_cons_zero, List.set_cons_succ, List.getElem_toArray, List.getElem_cons_zero, List.getElem_cons_succ])
      refine wpAnyH_take (i := 4) (oi := _) (v := ?va4) rfl (by kernel_rfl) (by kernel_rfl) (by kernel_rfl) (fun _ _ _ h => h) (Or.inl ⟨by rfl, ?hya4⟩) (by assumption) ?resta4
      case hya4 => (intro w hSw; (try dsimp only at hSw); (try simp only [List.getElem_toArray, List.getElem_cons_zero, List.getElem_cons_succ]); go_simp; (try with_reducible rfl))
      (try simp only [Act.put, List.setIfInBounds_toArray, List.set_cons_zero, List.set_cons_succ, List.getElem_toArray, List.getElem_cons_zero, List.getElem_cons_succ])
      refine wpAnyH_take (i := 5) (oi := _) (v := ?va5) rfl (by kernel_rfl) (by kernel_rfl) (by kernel_rfl) (fun _ _ _ h => h) (Or.inl ⟨by rfl, ?hya5⟩) (by assumption) ?resta5
      case hya5 => (intro w hSw; (try dsimp only at hSw); (try simp only [List.getElem_toArray, List.getElem_cons_zero, List.getElem_cons_succ]); go_simp; (try with_reducible rfl))
      (try simp only [Act.put, List.setIfInBounds_toArray, List.set_cons_zero, List.set_cons_succ, List.getElem_toArray, List.getElem_cons_zero, List.getElem_cons_succ])
      refine wpAnyH_take (i := 6) (oi := _) (v := ?va6) rfl (by kernel_rfl) (by kernel_rfl) (by kernel_rfl) (fun _ _ _ h => h) (Or.inl ⟨by rfl, ?hya6⟩) (by assumption) ?resta6
      case hya6 => (intro w hSw; (try dsimp only at hSw); (try simp only [List.getElem_toArray, List.getElem_cons_zero, List.getElem_cons_succ]); go_simp; (try with_reducible rfl))
      (try simp only [Act.put, List.setIfInBounds_toArray, List.set_cons_zero, List.set_cons_succ, List.getElem_toArray, List.getElem_cons_zero, List.getElem_cons_succ])
      refine wpAnyH_take (i := 7) (oi := _) (v := ?va7) rfl (by kernel_rfl) (by kernel_rfl) (by kernel_rfl) (fun _ _ _ h => h) (Or.inl ⟨by rfl, ?hya7⟩) (by assumption) ?resta7
      case hya7 => (intro w hSw; (try dsimp only at hSw); (try simp only [List.getElem_toArray, List.getElem_cons_zero, List.getElem_cons_succ]); go_simp; (try with_reducible rfl))
      (try simp only [Act.put, List.setIfInBounds_toArray, List.set_cons_zero, List.set_cons_succ, List.getElem_toArray, List.getElem_cons_zero, List.getElem_cons_succ])
      refine wpAnyH_take (i := 8) (oi := _) (v := ?va8) rfl (by kernel_rfl) (by kernel_rfl) (by kernel_rfl) (fun _ _ _ h => h) (Or.inl ⟨by rfl, ?hya8⟩) (by assumption) ?resta8
      case hya8 => (intro w hSw; (try dsimp only at hSw); (try simp only [List.getElem_toArray, List.getElem_cons_zero, List.getElem_cons_succ]); go_simp; (try with_reducible rfl))
      (try simp only [Act.put, List.setIfInBounds_toArray, List.set_cons_zero, List.set_cons_succ, List.getElem_toArray, List.getElem_cons_zero, List.getElem_cons_succ])
      refine wpAnyH_take (i := 9) (oi := _) (v := ?va9) rfl (by kernel_rfl) (by kernel_rfl) (by kernel_rfl) (fun _ _ _ h => h) (Or.inl ⟨by rfl, ?hya9⟩) (by assumption) ?resta9
      case hya9 => (intro w hSw; (try dsimp only at hSw); (try simp only [List.getElem_toArray, List.getElem_cons_zero, List.getElem_cons_succ]); go_simp; (try with_reducible rfl))
      (try simp only [Act.put, List.setIfInBounds_toArray, List.set_cons_zero, List.set_cons_succ, List.getElem_toArray, List.getElem_cons_zero, List.getElem_cons_succ])
      refine wpAnyH_ready (rs := [10]) (by kernel_rfl) (by simp) ?_
      refine AllReadyH.cons (o := _) rfl (fun K hK => ?_) AllReadyH.nil
      (try simp only [List.getElem_toArray, List.getElem_cons_zero, List.getElem_cons_succ])
      (rw [if_pos (by rfl)]; refine wp_copy_some _ (.tmp 15) (.tmp 16) 59 9 rfl 5 Tryd.underlying59 HB1.out y (msgCells s part l.length).toArray 114 n HN.out rfl rfl HM.out.row HFit.out ?_; generalize hwc : World.setRow _ p _ = wc; have HMC : Hid (MsgAt wc p s P2 l.length) := (by show MsgAt _ _ _ _ _; rw [← hwc]; exact HC.out _ rfl); have HKC : Hid (Keep (· = p) wr wc) := (by show Keep _ _ _; rw [← hwc]; exact ((Keep.refl (fun x => x = p) wr).drew).trans (keep_row _ _ _) (fun _ _ e => e)); clear hwc)
      refine hK.out _ _ ?_ (fun hHeld => ?_)
      · exact HMC.out.size_at
      clear hK K
      (try simp only [Act.put, List.setIfInBounds_toArray, List.set_cons_zero, List.set_cons_succ, List.getElem_toArray, List.getElem_cons_zero, List.getElem_cons_succ])
      refine wpAnyH_take (i := 11) (oi := _) (v := ?va11) rfl (by kernel_rfl) (by kernel_rfl) (by kernel_rfl) (fun _ _ _ h => h) (Or.inl ⟨by rfl, ?hya11⟩) (by assumption) ?resta11
      case hya11 => (intro w hSw; (try dsimp only at hSw); (try simp only [List.getElem_toArray, List.getElem_cons_zero, List.getElem_cons_succ]); go_simp; (try with_reducible rfl))
      (try simp only [Act.put, List.setIfInBounds_toArray, List.set_cons_zero, List.set_cons_succ, List.getElem_toArray, List.getElem_cons_zero, List.getElem_cons_succ])
      refine wpAnyH_done (by kernel_rfl) ?_ _
      refine NoPanic.normal ?_
      have c2 := HMC.out.size_at
      have f2 := HMC.out.fr 72
      have hM3 : MsgAt (wc.setCell ⟨p, 72, none⟩ (.int .i64 ((l.length : Int) + (n : Int)))) p s P2 (l.length + n) := by
        have := HMC.out.size_to (l.length + n)
        rwa [show ((l.length + n : Nat) : Int) = (l.length : Int) + (n : Int) from by omega] at this
      have hK3 : Keep (· = p) w (wc.setCell ⟨p, 72, none⟩ (.int .i64 ((l.length : Int) + (n : Int)))) := (HK.out.trans HKC.out (fun _ _ e => e)).own _ _
      have hll : (l ++ y.data.toList.take n).length = l.length + n := by rw [List.length_append, HYL.out]
      have hE2 : (l ++ y.data.toList.take n) ++ (y.extract n y.size).data.toList = l0 ++ x.data.toList := by
        rw [← HE.out, List.append_assoc]
        congr 1
        have : (y.extract n y.size).data.toList = y.data.toList.drop n := by
          simp [ByteArray.data_extract]
          rw [List.take_of_length_le]
          simp [List.length_drop]
        rw [this, List.take_append_drop]
      have hy2 : (y.extract n y.size).size = y.size - n := by simp [ByteArray.size_extract]
      have HE2 := Lib.hid hE2
      have HLL := Lib.hid hll
      have HY2 := Lib.hid hy2
      have HM3 := Lib.hid hM3
      have HK3 := Lib.hid hK3
      clear hM3 hK3 hll hE2 hy2
      by_cases hfull : r + n = 64
      · have ht : (((l.length : Int) + (n : Int)) % 64 == 0) = true := by rw [beq_iff_eq]; omega
        have HFu := Lib.hid hfull
        clear hfull
        go_wp2_with fail
        refine (mix_any p s P2 (l.length + n) _ HM3.out (HR.out.keep HK3.out (fun e => HP0.out e.symm))).mono ?_
        rintro q w4 ⟨rfl, m4, k4⟩
        have HM4 := Lib.hid m4
        have HK4 := Lib.hid k4
        clear m4 k4
        go_wp2_with fail
        go_roundw
        case rel =>
          refine ⟨_, l ++ y.data.toList.take n, rfl, by rw [HLL.out, HY2.out]; omega, HE2.out, ⟨P2, ?_, ?_⟩, HK3.out.trans HK4.out (fun _ _ e => e)⟩
          · have hf := held_full l (y.data.toList.take n) part n HYL.out (by rw [← HRR.out]; exact HFu.out) HM.out.len HPT.out
            rw [hf.2, HLL.out, ← HRR.out, ← HP2.out, ← HS.out]
            exact HM4.out
          · have hf := held_full l (y.data.toList.take n) part n HYL.out (by rw [← HRR.out]; exact HFu.out) HM.out.len HPT.out
            rw [← HRR.out, ← HP2.out] at hf
            exact hf.1
        case measure => simp only [strLen, HY2.out]; omega
      · have ht : (((l.length : Int) + (n : Int)) % 64 == 0) = false := by rw [beq_eq_false_iff_ne]; omega
        have HFu := Lib.hid hfull
        clear hfull
        go_wp2_with fail
        go_roundw
        case rel =>
          have hf := held_some l (y.data.toList.take n) part n HYL.out (by rw [← HRR.out]; have := HFu.out; omega) HPT.out
          rw [← HRR.out, ← HP2.out, ← HS.out] at hf
          refine ⟨_, l ++ y.data.toList.take n, rfl, by rw [HLL.out, HY2.out]; omega, HE2.out, ⟨P2, ?_, hf.1⟩, HK3.out⟩
          rw [hf.2, HLL.out]
          exact HM3.out
        case measure => simp only [strLen, HY2.out]; omega
end Go.Proofs.YtncpjapfkcgjnaaDoor
namespace Go.Proofs.YtncpjapfkcgjnaaDoor
set_option linter.unusedVariables false
open Go.RowKit

theorem zero_message (w : World) : (zeroValue 114).run Tryd.prog w = .ok (.agg #[.int .u32 0, .int .u32 0, .int .u32 0, .int .u32 0, .int .u32 0, .int .u32 0, .int .u32 0, .int .u32 0, .int .u8 0, .int .u8 0, .int .u8 0, .int .u8 0, .int .u8 0, .int .u8 0, .int .u8 0, .int .u8 0, .int .u8 0, .int .u8 0, .int .u8 0, .int .u8 0, .int .u8 0, .int .u8 0, .int .u8 0, .int .u8 0, .int .u8 0, .int .u8 0, .int .u8 0, .int .u8 0, .int .u8 0, .int .u8 0, .int .u8 0, .int .u8 0, .int .u8 0, .int .u8 0, .int .u8 0, .int .u8 0, .int .u8 0, .int .u8 0, .int .u8 0, .int .u8 0, .int .u8 0, .int .u8 0, .int .u8 0, .int .u8 0, .int .u8 0, .int .u8 0, .int .u8 0, .int .u8 0, .int .u8 0, .int .u8 0, .int .u8 0, .int .u8 0, .int .u8 0, .int .u8 0, .int .u8 0, .int .u8 0, .int .u8 0, .int .u8 0, .int .u8 0, .int .u8 0, .int .u8 0, .int .u8 0, .int .u8 0, .int .u8 0, .int .u8 0, .int .u8 0, .int .u8 0, .int .u8 0, .int .u8 0, .int .u8 0, .int .u8 0, .int .u8 0, .int .i64 0]) w :=
  (zero_of_info (show (Tryd.prog.info? 114).map (fun i => (i.zero, i.size)) = some (some (.agg #[.int .u32 0, .int .u32 0, .int .u32 0, .int .u32 0, .int .u32 0, .int .u32 0, .int .u32 0, .int .u32 0, .int .u8 0, .int .u8 0, .int .u8 0, .int .u8 0, .int .u8 0, .int .u8 0, .int .u8 0, .int .u8 0, .int .u8 0, .int .u8 0, .int .u8 0, .int .u8 0, .int .u8 0, .int .u8 0, .int .u8 0, .int .u8 0, .int .u8 0, .int .u8 0, .int .u8 0, .int .u8 0, .int .u8 0, .int .u8 0, .int .u8 0, .int .u8 0, .int .u8 0, .int .u8 0, .int .u8 0, .int .u8 0, .int .u8 0, .int .u8 0, .int .u8 0, .int .u8 0, .int .u8 0, .int .u8 0, .int .u8 0, .int .u8 0, .int .u8 0, .int .u8 0, .int .u8 0, .int .u8 0, .int .u8 0, .int .u8 0, .int .u8 0, .int .u8 0, .int .u8 0, .int .u8 0, .int .u8 0, .int .u8 0, .int .u8 0, .int .u8 0, .int .u8 0, .int .u8 0, .int .u8 0, .int .u8 0, .int .u8 0, .int .u8 0, .int .u8 0, .int .u8 0, .int .u8 0, .int .u8 0, .int .u8 0, .int .u8 0, .int .u8 0, .int .u8 0, .int .i64 0]), 73) by kernel_rfl)).1 w

set_option maxRecDepth 100000 in
set_option maxHeartbeats 1600000 in
theorem begin_any (w : World) :
    Calls Tryd.prog 56 #[] w fun r w' => r = .returned (.pointer (some ⟨w.heap.size, 0, none⟩)) ∧ MsgL w' w.heap.size [] ∧ Below w.heap.size w w' := by
  have hm : ∀ C : List Value, C = msgCells st0 (List.replicate 64 0) 0 → MsgL (w.alloc (.cells C.toArray 114)) w.heap.size [] := fun C hC =>
    ⟨List.replicate 64 0, ⟨by simp, by rw [heap_alloc_new, hC]; rfl⟩, rfl⟩
  have HM := Lib.hid hm
  have hz := fun w => zero_message w
  clear hm
  go_enter Tryd.func56, Tryd.ntmps56
  go_wp2_with fail
  go_ret
  exact ⟨rfl, HM.out _ (by kernel_rfl), (Below.refl _ _).alloc (Nat.le_refl _) _⟩

/-- n bytes that a call has laid, in a row of its own. -/
def OwnB (w : World) (B : Nat) (v : Value) (l : List UInt8) : Prop := w.ownsRow B 5 1 v l.length (Lib.byteCells l)

theorem be_len (n k : Nat) : (be n k).length = k := by
  induction k with
  | zero => rfl
  | succ k ih => simp [be, ih]

theorem u8_shift (n k : Nat) : IntKind.u8.wrap (((n / 2 ^ (8 * k) : Nat)) : Int) = ((UInt8.ofNat (n >>> (8 * k))).toNat : Int) := by
  rw [IntKind.wrap_u8', Nat.shiftRight_eq_div_pow]
  simp

set_option maxRecDepth 100000 in
set_option maxHeartbeats 1600000 in
theorem lay_any (B : Nat) (v : Value) (l : List UInt8) (n size : Nat) (w : World) (h : OwnB w B v l) (hB : B ≤ w.heap.size) (hs1 : 1 ≤ size) (hs : size ≤ 8) (hn : n < 18446744073709551616) (hl : l.length ≤ 1000000) :
    Calls Tryd.prog 68 #[v, .int .u64 n, .int .i64 size] w fun r w' => ∃ v', r = .returned v' ∧ OwnB w' B v' (l ++ be n size) ∧ Below B w w' := by
  obtain ⟨A0, c0, rfl, _⟩ := own_form h
  have H := Lib.hid h
  obtain ⟨i0, hi, hz0, hz1, hz2⟩ := info_parts byte_info
  clear h
  go_enter Tryd.func68, Tryd.ntmps68
  go_wp2_with fail
  go_loopw [0, 7] (fun v i wr => ∃ (k : Nat) (m : List UInt8), k ≤ size ∧ i = .int .i64 ((k : Int) - 1) ∧ Hid (OwnB wr B v m) ∧ m.length ≤ 1000008 - k ∧ Hid (m ++ be n k = l ++ be n size) ∧ Hid (Below B w wr)) (fun _ i _ => (intOf i + 1).toNat)
  case atStart => exact ⟨size, l, Nat.le_refl _, rfl, H, by omega, rfl, Below.refl _ _⟩
  case round =>
    obtain ⟨k, m, hk, rfl, HO, hm, HE, HB⟩ := hrel
    obtain ⟨A1, c1, rfl, _⟩ := own_form HO.out
    rcases Nat.eq_zero_or_pos k with h0 | h0
    · subst h0
      go_wp2_with fail
      go_ret
      have := HE.out
      simp only [be, List.append_nil] at this
      exact ⟨_, rfl, by rw [← this]; exact HO.out, HB.out⟩
    · obtain ⟨j, rfl⟩ : ∃ j, k = j + 1 := ⟨k - 1, by omega⟩
      have e1 : ((j + 1 : Nat) : Int) - 1 = (j : Int) := by omega
      rw [e1]
      have hj : (j : Int) ≤ 7 := by omega
      have hj0 : (0 : Int) ≤ (j : Int) := by omega
      have e2 := u8_shift n j
      clear e1
      go_wp2_with (at_builtin; refine wpList_append_own_at _ rfl (.tmp 14) (.tmp 20) 59 rfl B 5 i0 (.int .u8 0) 1 1 Tryd.underlying59 hi hz0 hz1 hz2 rfl (by decide) (.slice A1 m.length c1) m.length (Lib.byteCells m) rfl (HO.out.alloc _) ⟨wr.heap.size, 0, none⟩ 1 1 _ rfl rfl (cell_one_new _ _ _) ?c2 ?c3 ?c4 ?c5 ?_)
      case c2 => intro u hu; simp at hu; subst hu; rfl
      case c3 => unfold maxLen; omega
      case c4 => omega
      case c5 => exact Nat.le_trans (Nat.le_trans hB HB.out.size) (by simp)
      · intro v' w1 hown' hgrow _ hat
        have hO2 : OwnB w1 B v' (m ++ [UInt8.ofNat (n >>> (8 * j))]) := by
          unfold OwnB
          rw [List.length_append, List.length_singleton]
          have e3 : Lib.byteCells (m ++ [UInt8.ofNat (n >>> (8 * j))]) = Lib.byteCells m ++ [.int .u8 (((UInt8.ofNat (n >>> (8 * j))).toNat : Nat) : Int)] := by simp [Lib.byteCells]
          rw [e3]
          have e4 : (n : Int) / 2 ^ (8 * j) % 256 = (((UInt8.ofNat (n >>> (8 * j))).toNat : Nat) : Int) := by
            rw [← e2, IntKind.wrap_u8']; simp
          rw [← e4]
          exact hown'
        have hB2 : Below B w w1 := HB.out.trans (((Below.refl _ _).alloc (Nat.le_trans hB HB.out.size) _).grown hgrow (by have := HB.out.size; simp; omega) (fun k hk => (World.ownsRow.lt HO.out k (by simpa [Value.ownBlock] using hk)).1))
        have HO2 := Lib.hid hO2
        have HB2 := Lib.hid hB2
        have hE2 : (m ++ [UInt8.ofNat (n >>> (8 * j))]) ++ be n j = l ++ be n size := by rw [← HE.out]; simp [be]
        have HE2 := Lib.hid hE2
        clear hown' hgrow hat hO2 hB2 hE2
        go_wp2_with fail
        go_roundw
        case rel => exact ⟨j, _, by omega, by go_num, HO2.out, by rw [List.length_append, List.length_singleton]; omega, HE2.out, HB2.out⟩
        case measure => simp [intOf]
end Go.Proofs.YtncpjapfkcgjnaaDoor
namespace Go.Proofs.YtncpjapfkcgjnaaDoor
set_option linter.unusedVariables false
open Go.RowKit

theorem xor_u8 (a b : UInt8) : bits .xor .u8 (a.toNat : Int) (b.toNat : Int) = ((a ^^^ b).toNat : Int) := by
  rw [u8_xor_nat _ _ a.toNat_lt b.toNat_lt, UInt8.toNat_xor]

/-- A row of bytes. -/
def Bytes (w : World) (t : TypeId) (b : Nat) (l : List UInt8) : Prop := w.heap[b]? = some (.cells (Lib.byteCells l).toArray t (0, 0))

namespace Bytes
variable {w w' : World} {t : TypeId} {b : Nat} {l : List UInt8}
theorem cell (h : Bytes w t b l) {i : Nat} {x : UInt8} (hx : l[i]? = some x) : w.cell? ⟨b, i, none⟩ = some (.int .u8 x.toNat) := by
  rw [cell_at h i]
  simp [Lib.byteCells, hx]
theorem fr (h : Bytes w t b l) (i : Nat) : w.frozen? ⟨b, i, none⟩ = false := free_at h i
theorem set (h : Bytes w t b l) (i : Nat) (x : UInt8) : Bytes (w.setCell ⟨b, i, none⟩ (.int .u8 x.toNat)) t b (l.set i x) := by
  have h1 := heap_set h i (.int .u8 x.toNat)
  unfold Bytes
  rw [h1]
  simp [Lib.byteCells, List.map_set]
end Bytes

/-- The first k bytes turned. -/
def partT (l : List UInt8) (p : UInt8) (k : Nat) : List UInt8 := (l.take k).map (· ^^^ p) ++ l.drop k

theorem partT_at (l : List UInt8) (p : UInt8) {k : Nat} {x : UInt8} (h : l[k]? = some x) : (partT l p k)[k]? = some x := by
  have hk : k < l.length := (List.getElem?_eq_some_iff.1 h).1
  unfold partT
  rw [List.getElem?_append_right (by simp; omega)]
  simp only [List.length_map, List.length_take]
  rw [List.getElem?_drop, show k + (k - min k l.length) = k from by omega, h]

theorem partT_set (l : List UInt8) (p : UInt8) {k : Nat} {x : UInt8} (h : l[k]? = some x) : (partT l p k).set k (x ^^^ p) = partT l p (k + 1) := by
  have hk : k < l.length := (List.getElem?_eq_some_iff.1 h).1
  unfold partT
  rw [List.set_append_right _ _ (by simp; omega)]
  simp only [List.length_map, List.length_take]
  rw [show k - min k l.length = 0 from by omega, drop_next h, take_next h]
  simp

theorem partT_all (l : List UInt8) (p : UInt8) : partT l p l.length = l.map (· ^^^ p) := by simp [partT]

set_option maxRecDepth 100000 in
set_option maxHeartbeats 1600000 in
theorem turned_any (key : ByteArray) (p : UInt8) (w : World) (hk : key.size ≤ 64) :
    Calls Tryd.prog 58 #[.string key, .int .u8 p.toNat] w fun r w' => r = .returned (.string ⟨(turned key.data.toList p).toArray⟩) ∧ Below w.heap.size w w' := by
  have hb1 : (Tryd.prog.info? 5).map (·.size) = some 1 := by kernel_rfl
  have HB1 := Lib.hid hb1
  have hm : key.size = min key.size 64 := by omega
  have HM := Lib.hid hm
  have hrow : ∀ (C : List Value) (W : World), C = Lib.byteCells (List.replicate 64 0) → W.heap[w.heap.size]? = some (.cells C.toArray 112 (0, 0)) →
      Bytes (W.setRow w.heap.size (Lib.byteCells (key.data.toList.take key.size) ++ C.drop key.size).toArray) 112 w.heap.size (key.data.toList ++ List.replicate (64 - key.size) 0) := fun C W hC hW => by
    unfold Bytes
    rw [setRow_heap _ _ _ _ _ _ hW, hC, List.take_of_length_le (by rw [← Lib.size_eq]; exact Nat.le_refl _)]
    congr 3
    unfold Lib.byteCells
    rw [← List.map_drop, List.drop_replicate, ← List.map_append]
  have HROW := Lib.hid hrow
  clear hb1 hm hrow
  go_enter Tryd.func58, Tryd.ntmps58
  go_wp2_with (refine wpList_copy_some _ rfl (.tmp 7) (.tmp 8) 59 9 rfl 5 Tryd.underlying59 HB1.out key _ 112 key.size HM.out rfl rfl (heap_alloc_new w _) (by simp; omega) ?_)
  generalize hw1 : World.setRow _ w.heap.size _ = w1
  have hT : Bytes w1 112 w.heap.size (key.data.toList ++ List.replicate (64 - key.size) 0) := by
    rw [← hw1]
    exact HROW.out _ _ (by kernel_rfl) (heap_alloc_new w _)
  have hb1 : Below w.heap.size w w1 := by
    rw [← hw1]
    exact ((Below.refl _ _).alloc (Nat.le_refl _) _).trans ((keep_row _ _ _).below (by simp) (fun k hk e => by omega))
  have hlen : (key.data.toList ++ List.replicate (64 - key.size) 0).length = 64 := by
    rw [List.length_append, List.length_replicate, ← Lib.size_eq]; omega
  obtain ⟨L, hL⟩ : ∃ L, L = key.data.toList ++ List.replicate (64 - key.size) 0 := ⟨_, rfl⟩
  rw [← hL] at hT hlen
  have HT := Lib.hid hT
  have HB := Lib.hid hb1
  have HL := Lib.hid hL
  have HLn := Lib.hid hlen
  clear hT hb1 hw1 hL hlen
  obtain ⟨B, hB⟩ : ∃ B, B = w.heap.size := ⟨_, rfl⟩
  rw [← hB] at HT ⊢
  have HBe := Lib.hid hB
  clear hB
  go_loopw [10] (fun i wr => ∃ k : Nat, k ≤ 64 ∧ i = .int .i64 k ∧ Hid (Bytes wr 112 B (partT L p k)) ∧ Hid (Keep (· = B) w1 wr)) (fun i _ => 64 - (intOf i).toNat)
  case atStart => exact ⟨0, by omega, rfl, HT, Keep.refl _ _⟩
  case round =>
    obtain ⟨k, hk, rfl, HQ, HK⟩ := hrel
    by_cases hlt : k < 64
    · obtain ⟨x, hx⟩ : ∃ x, L[k]? = some x := ⟨L[k]'(by rw [HLn.out]; exact hlt), List.getElem?_eq_getElem _⟩
      have c := HQ.out.cell (partT_at L p hx)
      have f := HQ.out.fr k
      have e := xor_u8 x p
      have HX := Lib.hid hx
      clear hx
      go_wp2_with fail
      go_roundw
      case rel => exact ⟨k + 1, by omega, by go_num, (by have := HQ.out.set k (x ^^^ p); rw [partT_set L p HX.out] at this; exact this), HK.out.own _ _⟩
      case measure => simp [intOf]; omega
    · obtain rfl : k = 64 := by omega
      have hq : Bytes wr 112 B (L.map (· ^^^ p)) := by
        have := HQ.out
        have e := HLn.out
        rw [← e, partT_all] at this
        exact this
      have hrun : (convert 59 9 (.slice (some ⟨B, 0, none⟩) 64 64)).run Tryd.prog wr = .ok (.string ⟨(L.map (· ^^^ p)).toArray⟩) wr := by
        have hl : (L.map (· ^^^ p)).length = 64 := by rw [List.length_map]; exact HLn.out
        have := run_convert_bytes_back (P := Tryd.prog) wr 59 9 5 ⟨B, 0, none⟩ 64 (L.map (· ^^^ p)) Tryd.underlying59 Tryd.underlying5 Tryd.underlying9 (fun j hj => by
          rw [add_mk, Nat.zero_add, hq.cell (List.getElem?_eq_getElem hj)])
        rwa [hl] at this
      have HE : Hid (turned key.data.toList p = L.map (· ^^^ p)) := by
        show _ = _
        rw [HL.out, turned, ← Lib.size_eq]
      clear hq
      go_wp2_with fail
      go_ret
      exact ⟨by rw [HE.out]; rfl, HB.out.trans (HK.out.below HB.out.size (fun k hk e => by rw [HBe.out] at e; omega))⟩
end Go.Proofs.YtncpjapfkcgjnaaDoor
namespace Go.Proofs.YtncpjapfkcgjnaaDoor
set_option linter.unusedVariables false
open Go.RowKit

theorem repeat_zero (z : Nat) : Lib.repeatL [(0 : UInt8)] z = List.replicate z 0 := by
  induction z with
  | zero => rfl
  | succ z ih => rw [List.replicate_succ, ← ih]; rfl

set_option maxRecDepth 100000 in
set_option maxHeartbeats 1600000 in
theorem ending_any (size : Nat) (w : World) (hs : size ≤ 1000000) :
    Calls Tryd.prog 67 #[.int .i64 size] w fun r w' => r = .returned (.string ⟨(endOf size).toArray⟩) ∧ Below w.heap.size w w' := by
  obtain ⟨z, hz⟩ : ∃ z : Nat, z = (119 - size % 64) % 64 := ⟨_, rfl⟩
  have e1 : (119 - (size : Int) % 64) % 64 = (z : Int) := by omega
  obtain ⟨m, hm⟩ : ∃ m : Nat, m = 8 * size := ⟨_, rfl⟩
  have e2 : (size : Int) * 8 = (m : Int) := by omega
  have hz2 : z ≤ 63 := by omega
  have hm2 : m ≤ 8000000 := by omega
  have HZ := Lib.hid hz
  have HM := Lib.hid hm
  clear hz hm
  go_enter Tryd.func67, Tryd.ntmps67
  go_wp2_with fail
  refine (Tryd.strings_Repeat ⟨#[0]⟩ z w (by omega) (by show 1 * z ≤ _; omega)).mono ?_
  rintro r w1 ⟨rfl, hb⟩
  obtain ⟨R, hR⟩ : ∃ R : ByteArray, R = ⟨(Lib.repeatL (⟨#[0]⟩ : ByteArray).data.toList z).toArray⟩ := ⟨_, rfl⟩
  have hRl : R = ⟨(List.replicate z (0 : UInt8)).toArray⟩ := by rw [hR, ← repeat_zero]
  have hRs : R.size = z := by rw [hRl, size_mk, List.length_replicate]
  have hRz : 1 + R.size ≤ 9223372036854775807 := by omega
  rw [← hR]
  have HR := Lib.hid hRl
  have HB := Lib.hid hb
  have HRS := Lib.hid hRs
  clear hR hRl hb hRs
  go_wp2_with fail
  refine (lay_any w1.heap.size (.slice none 0 0) [] m 8 w1 (World.ownsRow_nil _ _ _ _) (Nat.le_refl _) (by omega) (by omega) (by omega) (by simp)).mono ?_
  rintro r w2 ⟨v, rfl, ho, hb⟩
  obtain ⟨A1, c1, rfl, _⟩ := own_form ho
  have hl8 : (([] : List UInt8) ++ be m 8).length = 8 := by rw [List.nil_append, be_len]
  have hcv := run_own_string (P := Tryd.prog) (t := 59) (u := 9) ho Tryd.underlying59 Tryd.underlying5 Tryd.underlying9
  rw [List.nil_append] at hcv hl8
  obtain ⟨Q, hQ⟩ : ∃ Q : ByteArray, Q = ⟨(be m 8).toArray⟩ := ⟨_, rfl⟩
  have hQs : Q.size = 8 := by rw [hQ, size_mk, be_len]
  rw [← hQ] at hcv
  rw [List.nil_append]
  have hz1 : (⟨#[128]⟩ ++ R : ByteArray).size + Q.size ≤ 9223372036854775807 := by
    rw [ByteArray.size_append, hQs]
    have := HRS.out
    show 1 + R.size + 8 ≤ _
    omega
  have HB2 := Lib.hid hb
  have HQ := Lib.hid hQ
  have HE : Hid ((⟨#[128]⟩ ++ R) ++ Q = (⟨(endOf size).toArray⟩ : ByteArray)) := by
    show _ = _
    rw [HR.out, hQ, HM.out, HZ.out]
    apply ByteArray.ext
    simp [endOf]
  clear ho hb hQ hQs hl8
  go_wp2_with fail
  go_ret
  exact ⟨by rw [← HE.out]; rfl, HB.out.trans (HB2.out.mono HB.out.size)⟩
end Go.Proofs.YtncpjapfkcgjnaaDoor
namespace Go.Proofs.YtncpjapfkcgjnaaDoor
set_option linter.unusedVariables false
open Go.RowKit

theorem endOf_len (size : Nat) : (endOf size).length = 9 + (119 - size % 64) % 64 := by
  simp [endOf, be_len]; omega

theorem padded_len (l : List UInt8) : (padded l).length ≤ l.length + 72 := by
  unfold padded
  rw [List.length_append, endOf_len]
  omega

/-- The first k words, in bytes. -/
def outK (s : St) (k : Nat) : List UInt8 := (s.words.take k).flatMap fun x => be x.nat 4

theorem outK_len (s : St) (k : Nat) (h : k ≤ 8) : (outK s k).length = 4 * k := by
  unfold outK
  rw [List.length_flatMap]
  simp only [be_len]
  rw [List.map_const', List.sum_replicate_nat, List.length_take, words_length]
  omega

theorem outK_step (s : St) (k : Nat) (h : k < 8) : outK s (k + 1) = outK s k ++ be (s.at k).nat 4 := by
  unfold outK
  rw [take_next (st_at h)]
  simp

theorem outK_all (s : St) : outK s 8 = outOf s := rfl

set_option maxRecDepth 100000 in
set_option maxHeartbeats 1600000 in
theorem end_any (p : Nat) (l : List UInt8) (w : World) (h : MsgL w p l) (hr : Roots w) (hl : l.length ≤ 900000) :
    Calls Tryd.prog 59 #[.pointer (some ⟨p, 0, none⟩)] w fun r w' => r = .returned (.string ⟨(digest l).toArray⟩) ∧ Keep (· = p) w w' := by
  have H := Lib.hid h
  obtain ⟨q, hq, _⟩ := h
  have hp0 := hq.ne_roots hr
  have c72 := hq.size_at
  have HR := Lib.hid hr
  have HP0 := Lib.hid hp0
  have hplt := hq.lt
  have hel := endOf_len l.length
  have hes : (⟨(endOf l.length).toArray⟩ : ByteArray).size ≤ 72 := by rw [size_mk]; omega
  clear hq hp0 hr hel
  go_enter Tryd.func59, Tryd.ntmps59
  go_wp2_with fail
  refine (ending_any l.length w (by omega)).mono ?_
  rintro r w1 ⟨rfl, hb⟩
  have HB := Lib.hid hb
  clear hb c72
  go_wp2_with fail
  refine (take_any p l ⟨(endOf l.length).toArray⟩ w1 (H.out.below HB.out) (HR.out.below HB.out) (by omega)).mono ?_
  rintro r w2 ⟨rfl, hm, hk⟩
  have hm' : MsgL w2 p (padded l) := hm
  obtain ⟨part, hm2, _⟩ := hm'
  obtain ⟨s, hs⟩ : ∃ s, s = run (padded l) ((padded l).length / 64) := ⟨_, rfl⟩
  rw [← hs] at hm2
  have HM := Lib.hid hm2
  have HK := Lib.hid hk
  have HS : Hid (outOf s = digest l) := by show outOf s = outOf _; rw [hs]
  have HI : Hid ((Tryd.prog.info? 88).map (·.size) = some (wcells s.words).length) := by show _ = _; rw [state_info, wcells_length, words_length]
  clear hm hk hm2 hs
  obtain ⟨WA, hWA⟩ : ∃ WA, WA = (wcells s.words).toArray := ⟨_, rfl⟩
  have hix : ∀ k : Nat, k < 8 → ∀ W, (Instr.index 88 (.agg WA) (.int .i64 (k : Int))).run Tryd.prog W = .ok (.int .u32 (s.at k).n) W := fun k hk W => by rw [hWA]; exact index_word s hk
  have HX := Lib.hid hix
  have HWA := Lib.hid hWA
  clear hix hWA
  have hon := World.ownsRow_nil w2 w2.heap.size 5 1
  go_wp2_with (refine wpList_load_mid rfl 88 (.tmp 15) rfl p 0 rfl (wcells s.words) _ HM.out.state_range Tryd.underlying88 rfl HI.out ?_; rw [← HWA.out])
  obtain ⟨B, hB⟩ : ∃ B, B = w2.heap.size := ⟨_, rfl⟩
  have HBe := Lib.hid hB
  rw [← hB] at hon
  clear hB
  go_loopw [3, 17] (fun v i wr => ∃ k : Nat, k ≤ 8 ∧ i = .int .i64 k ∧ Hid (OwnB wr B v (outK s k)) ∧ Hid (Below B w2 wr)) (fun _ i _ => 8 - (intOf i).toNat)
  case atStart => exact ⟨0, by omega, rfl, hon, Below.refl _ _⟩
  case round =>
    obtain ⟨k, hk, rfl, HO, HBw⟩ := hrel
    obtain ⟨A1, c1, rfl, _⟩ := own_form HO.out
    by_cases hlt : k < 8
    · have hi := HX.out k hlt
      have hol := outK_len s k hk
      have hst := outK_step s k hlt
      have HST := Lib.hid hst
      have HOL := Lib.hid hol
      have hbd := (s.at k).n_bd
      have hlt' := (s.at k).lt
      generalize s.at k = x at hi HST hbd hlt'
      clear hst hol
      go_wp2_with fail
      refine (lay_any B (.slice A1 (outK s k).length c1) (outK s k) x.nat 4 wr HO.out (by rw [HBe.out]; exact HBw.out.size) (by omega) (by omega) (by omega) (by rw [HOL.out]; omega)).mono ?_
      rintro r w3 ⟨v, rfl, ho, hb⟩
      obtain ⟨A2, c2, rfl, _⟩ := own_form ho
      rw [← HST.out] at ho ⊢
      have HO3 := Lib.hid ho
      have HB3 := Lib.hid (HBw.out.trans hb)
      clear ho hb
      go_wp2_with fail
      go_roundw
      case rel => exact ⟨k + 1, by omega, by go_num, HO3.out, HB3.out⟩
      case measure => simp [intOf]; omega
    · obtain rfl : k = 8 := by omega
      have hcv := run_own_string (P := Tryd.prog) (t := 59) (u := 9) HO.out Tryd.underlying59 Tryd.underlying5 Tryd.underlying9
      go_wp2_with fail
      go_ret
      refine ⟨by rw [← HS.out]; rfl, ?_⟩
      exact ((Keep.of_below _ HB.out).trans HK.out (fun _ _ e => e)).trans (Keep.of_below (fun _ => False) (by rw [← HBe.out]; exact HBw.out)) (fun _ _ e => e.elim)

end Go.Proofs.YtncpjapfkcgjnaaDoor
namespace Go.Proofs.YtncpjapfkcgjnaaDoor
set_option linter.unusedVariables false
open Go.RowKit

theorem digest_len (l : List UInt8) : (digest l).length = 32 := by
  unfold digest
  rw [← outK_all, outK_len _ 8 (by omega)]

theorem joinL_nil : joinL [] = [] := rfl

theorem sum_take_next {xs : List ByteArray} {k : Nat} {x : ByteArray} (h : xs[k]? = some x) : sum (xs.take k) + x.size ≤ sum xs := by
  rw [← sum_snoc, ← take_next h]
  exact sum_take xs (k + 1)

set_option maxRecDepth 100000 in
set_option maxHeartbeats 1600000 in
theorem hash_any (A : Option Addr) (n c : Nat) (xs : List ByteArray) (w : World) (h : Src w A n (xs.map Value.string)) (hr : Roots w) (hs : sum xs ≤ 900000) (hn : n ≤ 1000000) :
    Calls Tryd.prog 55 #[.slice A n c] w fun r w' => r = .returned (.string ⟨(digest (joinL xs)).toArray⟩) ∧ Below w.heap.size w w' := by
  have H := Lib.hid h
  have HR := Lib.hid hr
  have hl : xs.length = n := by have := h.1; rwa [List.length_map] at this
  have HL := Lib.hid hl
  clear h hr hl
  go_enter Tryd.func55, Tryd.ntmps55
  go_wp2_with fail
  refine (begin_any w).mono ?_
  rintro r w1 ⟨rfl, hm, hb⟩
  obtain ⟨p, hp⟩ : ∃ p, p = w.heap.size := ⟨_, rfl⟩
  rw [← hp] at hm ⊢
  have HM := Lib.hid hm
  have HB := Lib.hid hb
  have HP := Lib.hid hp
  have hs1 := hb.size
  clear hm hb hp
  go_wp2_with fail
  go_loopw [9] (fun i wr => ∃ k : Nat, k ≤ n ∧ i = .int .i64 k ∧ Hid (MsgL wr p (joinL (xs.take k))) ∧ Hid (Keep (· = p) w1 wr)) (fun i _ => n - (intOf i).toNat)
  case atStart => exact ⟨0, by omega, rfl, HM, Keep.refl _ _⟩
  case round =>
    obtain ⟨k, hk, rfl, HQ, HK⟩ := hrel
    have hb : Below w.heap.size w wr := HB.out.trans (HK.out.below HB.out.size (fun k hk e => by rw [HP.out] at e; omega))
    have HBw := Lib.hid hb
    clear hb
    by_cases hlt : k < n
    · obtain ⟨x, hx⟩ : ∃ x, xs[k]? = some x := ⟨xs[k]'(by rw [HL.out]; exact hlt), List.getElem?_eq_getElem _⟩
      obtain ⟨b, off, rfl, hbl, hc⟩ := (H.out.below HBw.out).2 (by omega)
      have hcx := hc k (.string x) (by rw [List.getElem?_map, hx]; rfl)
      have hsx := sum_take_next hx
      have hjl := joinL_len (xs.take k)
      have HX := Lib.hid hx
      have HJ := Lib.hid hjl
      clear hc hx hjl
      go_wp2_with fail
      refine (take_any p (joinL (xs.take k)) x wr HQ.out (HR.out.below HBw.out) (by rw [HJ.out]; omega)).mono ?_
      rintro r w3 ⟨rfl, hm, hk3⟩
      rw [← joinL_snoc, ← take_next HX.out] at hm
      have HM3 := Lib.hid hm
      have HK3 := Lib.hid hk3
      clear hm hk3 hcx
      go_wp2_with fail
      go_roundw
      case rel => exact ⟨k + 1, by omega, by go_num, HM3, HK.out.trans HK3.out (fun _ _ e => e)⟩
      case measure => simp [intOf]; omega
    · have hx : xs.take k = xs := List.take_of_length_le (by rw [HL.out]; omega)
      rw [hx] at HQ
      have hjl := joinL_len xs
      clear hx
      go_wp2_with fail
      refine (end_any p (joinL xs) wr HQ.out (HR.out.below HBw.out) (by omega)).mono ?_
      rintro r w3 ⟨rfl, hk3⟩
      have HK3 := Lib.hid hk3
      clear hk3 hjl
      go_wp2_with fail
      go_ret
      exact ⟨rfl, HBw.out.trans (HK3.out.below HBw.out.size (fun k hk e => by rw [HP.out] at e; omega))⟩

end Go.Proofs.YtncpjapfkcgjnaaDoor
namespace Go.Proofs.YtncpjapfkcgjnaaDoor
set_option linter.unusedVariables false
open Go.RowKit

theorem turned_len (key : ByteArray) (p : UInt8) (h : key.size ≤ 64) : (turned key.data.toList p).length = 64 := by
  unfold turned
  rw [List.length_map, List.length_append, List.length_replicate, ← Lib.size_eq]
  omega

theorem src_two {w : World} (u v : Value) (t : TypeId) (g : Nat) (hg : g = w.heap.size) : Src (w.alloc (.cells #[u, v] t)) (some ⟨g, 0, none⟩) 2 [u, v] := by
  subst hg
  refine ⟨rfl, fun _ => ⟨_, 0, rfl, by simp, fun i v hv => ?_⟩⟩
  rw [Nat.zero_add, cell_of_row _ _ i _ t (0, 0) (heap_alloc_new w _)]
  simpa using hv

theorem keyOf_short (key : ByteArray) (h : key.size ≤ 64) : keyOf key.data.toList = key.data.toList := by
  unfold keyOf
  rw [if_neg (by rw [← Lib.size_eq]; omega)]

theorem keyOf_long (key : ByteArray) (h : 64 < key.size) : keyOf key.data.toList = digest key.data.toList := by
  unfold keyOf
  rw [if_pos (by rw [← Lib.size_eq]; omega)]

set_option maxRecDepth 100000 in
set_option maxHeartbeats 3200000 in
theorem tag_short (key : ByteArray) (A : Option Addr) (n c : Nat) (xs : List ByteArray) (w : World) (h : Src w A n (xs.map Value.string)) (hr : Roots w) (hs : sum xs ≤ 100000) (hn : n ≤ 1000000) (hk : key.size ≤ 64) :
    Calls Tryd.prog 39 #[.string key, .slice A n c] w fun r w' => r = .returned (.string ⟨(tagL key.data.toList (joinL xs)).toArray⟩) ∧ Below w.heap.size w w' := by
  have H := Lib.hid h
  have HR := Lib.hid hr
  have hl : xs.length = n := by have := h.1; rwa [List.length_map] at this
  have HL := Lib.hid hl
  have HKO := Lib.hid (keyOf_short key hk)
  clear h hr hl
  go_enter Tryd.func39, Tryd.ntmps39
  go_wp2_with fail
  refine (begin_any w).mono ?_
  rintro r w1 ⟨rfl, hm, hb⟩
  obtain ⟨p, hp⟩ : ∃ p, p = w.heap.size := ⟨_, rfl⟩
  rw [← hp] at hm ⊢
  have hwp : w.heap.size ≤ p := by rw [hp]; exact (Below.refl w.heap.size w).size
  have HM := Lib.hid hm
  have HB := Lib.hid ((Below.refl w.heap.size w).trans (hb.mono (Below.refl w.heap.size w).size))
  clear hm hb hp
  go_wp2_with fail
  refine (turned_any key 54 w1 (by omega)).mono ?_
  rintro r w2 ⟨rfl, hb⟩
  have HB2 := Lib.hid (HB.out.trans (hb.mono HB.out.size))
  have HM2 := Lib.hid (HM.out.below hb)
  have ht54 := turned_len key 54 (by omega)
  clear hb HB HM
  go_wp2_with fail
  refine (take_any p [] ⟨(turned key.data.toList 54).toArray⟩ w2 HM2.out (HR.out.below HB2.out) (by rw [size_mk, ht54]; simp)).mono ?_
  rintro r w3 ⟨rfl, hm, hk⟩
  rw [List.nil_append] at hm
  have HM3 := Lib.hid hm
  have HB3 := Lib.hid (HB2.out.trans (hk.below HB2.out.size (fun k hk e => by omega)))
  clear hm hk HB2 HM2
  go_wp2_with fail
  go_loopw [21] (fun i wr => ∃ k : Nat, k ≤ n ∧ i = .int .i64 k ∧ Hid (MsgL wr p (turned key.data.toList 54 ++ joinL (xs.take k))) ∧ Hid (Keep (· = p) w3 wr)) (fun i _ => n - (intOf i).toNat)
  case atStart => exact ⟨0, by omega, rfl, (by show MsgL _ _ _; rw [List.take_zero, joinL_nil, List.append_nil]; exact HM3.out), Keep.refl _ _⟩
  case round =>
    obtain ⟨k, hk, rfl, HQ, HK⟩ := hrel
    have hb : Below w.heap.size w wr := HB3.out.trans (HK.out.below HB3.out.size (fun k hk e => by omega))
    have HBw := Lib.hid hb
    clear hb
    by_cases hlt : k < n
    · obtain ⟨x, hx⟩ : ∃ x, xs[k]? = some x := ⟨xs[k]'(by rw [HL.out]; exact hlt), List.getElem?_eq_getElem _⟩
      obtain ⟨b, off, rfl, hbl, hc⟩ := (H.out.below HBw.out).2 (by omega)
      have hcx := hc k (.string x) (by rw [List.getElem?_map, hx]; rfl)
      have hsx := sum_take_next hx
      have hjl : (turned key.data.toList 54 ++ joinL (xs.take k)).length = 64 + sum (xs.take k) := by rw [List.length_append, ht54, joinL_len]
      have HX := Lib.hid hx
      have HJ := Lib.hid hjl
      clear hc hx hjl
      go_wp2_with fail
      refine (take_any p (turned key.data.toList 54 ++ joinL (xs.take k)) x wr HQ.out (HR.out.below HBw.out) (by rw [HJ.out]; omega)).mono ?_
      rintro r w4 ⟨rfl, hm, hk3⟩
      rw [List.append_assoc, ← joinL_snoc, ← take_next HX.out] at hm
      have HM4 := Lib.hid hm
      have HK4 := Lib.hid hk3
      clear hm hk3 hcx
      go_wp2_with fail
      go_roundw
      case rel => exact ⟨k + 1, by omega, by go_num, HM4, HK.out.trans HK4.out (fun _ _ e => e)⟩
      case measure => simp [intOf]; omega
    · have hx : xs.take k = xs := List.take_of_length_le (by rw [HL.out]; omega)
      rw [hx] at HQ
      have hjl : (turned key.data.toList 54 ++ joinL xs).length = 64 + sum xs := by rw [List.length_append, ht54, joinL_len]
      clear hx
      go_wp2_with fail
      refine (turned_any key 92 wr (by omega)).mono ?_
      rintro r w4 ⟨rfl, hb⟩
      have HB4 := Lib.hid (HBw.out.trans (hb.mono HBw.out.size))
      have HM4 := Lib.hid (HQ.out.below hb)
      have ht92 := turned_len key 92 (by omega)
      clear hb
      go_wp2_with fail
      refine (end_any p (turned key.data.toList 54 ++ joinL xs) w4 HM4.out (HR.out.below HB4.out) (by omega)).mono ?_
      rintro r w5 ⟨rfl, hk⟩
      have HB5 := Lib.hid (HB4.out.trans (hk.below HB4.out.size (fun k hk e => by omega)))
      clear hk
      obtain ⟨T, hT⟩ : ∃ T : ByteArray, T = ⟨(turned key.data.toList 92).toArray⟩ := ⟨_, rfl⟩
      obtain ⟨D, hD⟩ : ∃ D : ByteArray, D = ⟨(digest (turned key.data.toList 54 ++ joinL xs)).toArray⟩ := ⟨_, rfl⟩
      have hsum : sum [T, D] ≤ 900000 := by rw [sum_two, hT, hD, size_mk, size_mk, ht92, digest_len]; omega
      have hjoin : joinL [T, D] = turned key.data.toList 92 ++ digest (turned key.data.toList 54 ++ joinL xs) := by rw [hT, hD]; simp [joinL]
      obtain ⟨E, hE⟩ : ∃ E : ByteArray, E = ⟨(digest (joinL [T, D])).toArray⟩ := ⟨_, rfl⟩
      have hEs : E.size = 32 := by rw [hE, size_mk, digest_len]
      have hEx : E.extract 0 16 = ⟨(tagL key.data.toList (joinL xs)).toArray⟩ := by
        rw [hE, extract_mk, List.drop_zero, hjoin]
        unfold tagL
        rw [HKO.out]
      rw [← hT, ← hD]
      have HE := Lib.hid hE
      have HX := Lib.hid hEx
      have hE16 : 16 ≤ E.size := by omega
      have hb6 : Below w.heap.size w (w5.alloc (.cells #[.string T, .string D] 9)) := HB5.out.alloc HB5.out.size _
      have HB6 := Lib.hid hb6
      clear hT hD hE hEs hEx hb6 hjoin ht92
      go_wp2_with fail
      refine (hash_any (some ⟨w5.heap.size, 0, none⟩) 2 2 [T, D] _ (src_two _ _ _ _ rfl) (HR.out.below HB6.out) hsum (by omega)).mono ?_
      rintro r w6 ⟨rfl, hb⟩
      rw [← HE.out]
      have HB7 := Lib.hid (HB6.out.trans (hb.mono HB6.out.size))
      clear hb
      go_wp2_with fail
      go_ret
      exact ⟨by rw [← HX.out]; rfl, HB7.out⟩

set_option maxRecDepth 100000 in
set_option maxHeartbeats 3200000 in
theorem tag_long (key : ByteArray) (A : Option Addr) (n c : Nat) (xs : List ByteArray) (w : World) (h : Src w A n (xs.map Value.string)) (hr : Roots w) (hs : sum xs ≤ 100000) (hn : n ≤ 1000000) (hk : 64 < key.size) (hk2 : key.size ≤ 100000) :
    Calls Tryd.prog 39 #[.string key, .slice A n c] w fun r w' => r = .returned (.string ⟨(tagL key.data.toList (joinL xs)).toArray⟩) ∧ Below w.heap.size w w' := by
  have H := Lib.hid h
  have HR := Lib.hid hr
  have hl : xs.length = n := by have := h.1; rwa [List.length_map] at this
  have HL := Lib.hid hl
  have hb0 : Below w.heap.size w (w.alloc (.cells #[.string key] 9)) := (Below.refl _ _).alloc (Nat.le_refl _) _
  have HB0 := Lib.hid hb0
  clear h hr hl hb0
  go_enter Tryd.func39, Tryd.ntmps39
  go_wp2_with fail
  refine (hash_any (some ⟨w.heap.size, 0, none⟩) 1 1 [key] _ (src_one _ _ _ rfl) (HR.out.below HB0.out) (by rw [sum_one]; omega) (by omega)).mono ?_
  rintro r w0 ⟨rfl, hb⟩
  have HB9 := Lib.hid (HB0.out.trans (hb.mono HB0.out.size))
  obtain ⟨K, hK⟩ : ∃ K : ByteArray, K = ⟨(digest (joinL [key])).toArray⟩ := ⟨_, rfl⟩
  have hKl : K.data.toList = keyOf key.data.toList := by rw [hK, keyOf_long key hk]; simp [joinL]
  have hKs : K.size ≤ 64 := by rw [hK, size_mk, digest_len]; omega
  rw [← hK]
  have HKO : Hid (keyOf key.data.toList = K.data.toList) := hKl.symm
  clear hK hKl hb
  go_wp2_with fail
  refine (begin_any w0).mono ?_
  rintro r w1 ⟨rfl, hm, hb⟩
  obtain ⟨p, hp⟩ : ∃ p, p = w0.heap.size := ⟨_, rfl⟩
  rw [← hp] at hm ⊢
  have hwp : w.heap.size ≤ p := by rw [hp]; exact (HB9.out).size
  have HM := Lib.hid hm
  have HB := Lib.hid ((HB9.out).trans (hb.mono (HB9.out).size))
  clear hm hb hp
  go_wp2_with fail
  refine (turned_any K 54 w1 (by omega)).mono ?_
  rintro r w2 ⟨rfl, hb⟩
  have HB2 := Lib.hid (HB.out.trans (hb.mono HB.out.size))
  have HM2 := Lib.hid (HM.out.below hb)
  have ht54 := turned_len K 54 (by omega)
  clear hb HB HM
  go_wp2_with fail
  refine (take_any p [] ⟨(turned K.data.toList 54).toArray⟩ w2 HM2.out (HR.out.below HB2.out) (by rw [size_mk, ht54]; simp)).mono ?_
  rintro r w3 ⟨rfl, hm, hk⟩
  rw [List.nil_append] at hm
  have HM3 := Lib.hid hm
  have HB3 := Lib.hid (HB2.out.trans (hk.below HB2.out.size (fun k hk e => by omega)))
  clear hm hk HB2 HM2
  go_wp2_with fail
  go_loopw [21] (fun i wr => ∃ k : Nat, k ≤ n ∧ i = .int .i64 k ∧ Hid (MsgL wr p (turned K.data.toList 54 ++ joinL (xs.take k))) ∧ Hid (Keep (· = p) w3 wr)) (fun i _ => n - (intOf i).toNat)
  case atStart => exact ⟨0, by omega, rfl, (by show MsgL _ _ _; rw [List.take_zero, joinL_nil, List.append_nil]; exact HM3.out), Keep.refl _ _⟩
  case round =>
    obtain ⟨k, hk, rfl, HQ, HK⟩ := hrel
    have hb : Below w.heap.size w wr := HB3.out.trans (HK.out.below HB3.out.size (fun k hk e => by omega))
    have HBw := Lib.hid hb
    clear hb
    by_cases hlt : k < n
    · obtain ⟨x, hx⟩ : ∃ x, xs[k]? = some x := ⟨xs[k]'(by rw [HL.out]; exact hlt), List.getElem?_eq_getElem _⟩
      obtain ⟨b, off, rfl, hbl, hc⟩ := (H.out.below HBw.out).2 (by omega)
      have hcx := hc k (.string x) (by rw [List.getElem?_map, hx]; rfl)
      have hsx := sum_take_next hx
      have hjl : (turned K.data.toList 54 ++ joinL (xs.take k)).length = 64 + sum (xs.take k) := by rw [List.length_append, ht54, joinL_len]
      have HX := Lib.hid hx
      have HJ := Lib.hid hjl
      clear hc hx hjl
      go_wp2_with fail
      refine (take_any p (turned K.data.toList 54 ++ joinL (xs.take k)) x wr HQ.out (HR.out.below HBw.out) (by rw [HJ.out]; omega)).mono ?_
      rintro r w4 ⟨rfl, hm, hk3⟩
      rw [List.append_assoc, ← joinL_snoc, ← take_next HX.out] at hm
      have HM4 := Lib.hid hm
      have HK4 := Lib.hid hk3
      clear hm hk3 hcx
      go_wp2_with fail
      go_roundw
      case rel => exact ⟨k + 1, by omega, by go_num, HM4, HK.out.trans HK4.out (fun _ _ e => e)⟩
      case measure => simp [intOf]; omega
    · have hx : xs.take k = xs := List.take_of_length_le (by rw [HL.out]; omega)
      rw [hx] at HQ
      have hjl : (turned K.data.toList 54 ++ joinL xs).length = 64 + sum xs := by rw [List.length_append, ht54, joinL_len]
      clear hx
      go_wp2_with fail
      refine (turned_any K 92 wr (by omega)).mono ?_
      rintro r w4 ⟨rfl, hb⟩
      have HB4 := Lib.hid (HBw.out.trans (hb.mono HBw.out.size))
      have HM4 := Lib.hid (HQ.out.below hb)
      have ht92 := turned_len K 92 (by omega)
      clear hb
      go_wp2_with fail
      refine (end_any p (turned K.data.toList 54 ++ joinL xs) w4 HM4.out (HR.out.below HB4.out) (by omega)).mono ?_
      rintro r w5 ⟨rfl, hk⟩
      have HB5 := Lib.hid (HB4.out.trans (hk.below HB4.out.size (fun k hk e => by omega)))
      clear hk
      obtain ⟨T, hT⟩ : ∃ T : ByteArray, T = ⟨(turned K.data.toList 92).toArray⟩ := ⟨_, rfl⟩
      obtain ⟨D, hD⟩ : ∃ D : ByteArray, D = ⟨(digest (turned K.data.toList 54 ++ joinL xs)).toArray⟩ := ⟨_, rfl⟩
      have hsum : sum [T, D] ≤ 900000 := by rw [sum_two, hT, hD, size_mk, size_mk, ht92, digest_len]; omega
      have hjoin : joinL [T, D] = turned K.data.toList 92 ++ digest (turned K.data.toList 54 ++ joinL xs) := by rw [hT, hD]; simp [joinL]
      obtain ⟨E, hE⟩ : ∃ E : ByteArray, E = ⟨(digest (joinL [T, D])).toArray⟩ := ⟨_, rfl⟩
      have hEs : E.size = 32 := by rw [hE, size_mk, digest_len]
      have hEx : E.extract 0 16 = ⟨(tagL key.data.toList (joinL xs)).toArray⟩ := by
        rw [hE, extract_mk, List.drop_zero, hjoin]
        unfold tagL
        rw [HKO.out]
      rw [← hT, ← hD]
      have HE := Lib.hid hE
      have HX := Lib.hid hEx
      have hE16 : 16 ≤ E.size := by omega
      have hb6 : Below w.heap.size w (w5.alloc (.cells #[.string T, .string D] 9)) := HB5.out.alloc HB5.out.size _
      have HB6 := Lib.hid hb6
      clear hT hD hE hEs hEx hb6 hjoin ht92
      go_wp2_with fail
      refine (hash_any (some ⟨w5.heap.size, 0, none⟩) 2 2 [T, D] _ (src_two _ _ _ _ rfl) (HR.out.below HB6.out) hsum (by omega)).mono ?_
      rintro r w6 ⟨rfl, hb⟩
      rw [← HE.out]
      have HB7 := Lib.hid (HB6.out.trans (hb.mono HB6.out.size))
      clear hb
      go_wp2_with fail
      go_ret
      exact ⟨by rw [← HX.out]; rfl, HB7.out⟩

theorem tag_any (key : ByteArray) (A : Option Addr) (n c : Nat) (xs : List ByteArray) (w : World) (h : Src w A n (xs.map Value.string)) (hr : Roots w) (hs : sum xs ≤ 100000) (hn : n ≤ 1000000) (hk : key.size ≤ 100000) :
    Calls Tryd.prog 39 #[.string key, .slice A n c] w fun r w' => r = .returned (.string ⟨(tagL key.data.toList (joinL xs)).toArray⟩) ∧ Below w.heap.size w w' := by
  rcases Nat.lt_or_ge 64 key.size with h1 | h1
  · exact tag_long key A n c xs w h hr hs hn h1 hk
  · exact tag_short key A n c xs w h hr hs hn h1

end Go.Proofs.YtncpjapfkcgjnaaDoor
