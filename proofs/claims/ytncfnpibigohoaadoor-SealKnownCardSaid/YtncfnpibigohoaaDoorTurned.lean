/- turned. Own work. -/
import Derived.Test.YtncfnpibigohoaaDoorHashB
namespace Go.Proofs.YtncfnpibigohoaaDoor
set_option linter.unusedVariables false
open Go.RowKit

theorem xor_u8 (a b : UInt8) : bits .xor .u8 (a.toNat : Int) (b.toNat : Int) = ((a ^^^ b).toNat : Int) := by
  rw [u8_xor_nat _ _ a.toNat_lt b.toNat_lt, UInt8.toNat_xor]

/-- A row of bytes. -/
def Bytes (w : World) (t : TypeId) (b : Nat) (l : List UInt8) : Prop := w.heap[b]? = some (.cells (Lib.byteCells l).toArray t (0, 0))

namespace Bytes
variable {w w' : World} {t : TypeId} {b : Nat} {l : List UInt8}
theorem cell (h : Bytes w t b l) {i : Nat} {x : UInt8} (hx : l[i]? = some x) : w.cell? ⟨b, i, none⟩ = some (.int .u8 x.toNat) := by
  rw [cell_at h i]
  simp [Lib.byteCells, hx]
theorem fr (h : Bytes w t b l) (i : Nat) : w.frozen? ⟨b, i, none⟩ = false := free_at h i
theorem set (h : Bytes w t b l) (i : Nat) (x : UInt8) : Bytes (w.setCell ⟨b, i, none⟩ (.int .u8 x.toNat)) t b (l.set i x) := by
  have h1 := heap_set h i (.int .u8 x.toNat)
  unfold Bytes
  rw [h1]
  simp [Lib.byteCells, List.map_set]
end Bytes

/-- The first k bytes turned. -/
def partT (l : List UInt8) (p : UInt8) (k : Nat) : List UInt8 := (l.take k).map (· ^^^ p) ++ l.drop k

theorem partT_at (l : List UInt8) (p : UInt8) {k : Nat} {x : UInt8} (h : l[k]? = some x) : (partT l p k)[k]? = some x := by
  have hk : k < l.length := (List.getElem?_eq_some_iff.1 h).1
  unfold partT
  rw [List.getElem?_append_right (by simp; omega)]
  simp only [List.length_map, List.length_take]
  rw [List.getElem?_drop, show k + (k - min k l.length) = k from by omega, h]

theorem partT_set (l : List UInt8) (p : UInt8) {k : Nat} {x : UInt8} (h : l[k]? = some x) : (partT l p k).set k (x ^^^ p) = partT l p (k + 1) := by
  have hk : k < l.length := (List.getElem?_eq_some_iff.1 h).1
  unfold partT
  rw [List.set_append_right _ _ (by simp; omega)]
  simp only [List.length_map, List.length_take]
  rw [show k - min k l.length = 0 from by omega, drop_next h, take_next h]
  simp

theorem partT_all (l : List UInt8) (p : UInt8) : partT l p l.length = l.map (· ^^^ p) := by simp [partT]

set_option maxRecDepth 100000 in
set_option maxHeartbeats 1600000 in
theorem turned_any (key : ByteArray) (p : UInt8) (w : World) (hk : key.size ≤ 64) :
    Calls Tryd.prog 25 #[.string key, .int .u8 p.toNat] w fun r w' => r = .returned (.string ⟨(turned key.data.toList p).toArray⟩) ∧ Below w.heap.size w w' := by
  have hb1 : (Tryd.prog.info? 5).map (·.size) = some 1 := by kernel_rfl
  have HB1 := Lib.hid hb1
  have hm : key.size = min key.size 64 := by omega
  have HM := Lib.hid hm
  have hrow : ∀ (C : List Value) (W : World), C = Lib.byteCells (List.replicate 64 0) → W.heap[w.heap.size]? = some (.cells C.toArray 57 (0, 0)) →
      Bytes (W.setRow w.heap.size (Lib.byteCells (key.data.toList.take key.size) ++ C.drop key.size).toArray) 57 w.heap.size (key.data.toList ++ List.replicate (64 - key.size) 0) := fun C W hC hW => by
    unfold Bytes
    rw [setRow_heap _ _ _ _ _ _ hW, hC, List.take_of_length_le (by rw [← Lib.size_eq]; exact Nat.le_refl _)]
    congr 3
    unfold Lib.byteCells
    rw [← List.map_drop, List.drop_replicate, ← List.map_append]
  have HROW := Lib.hid hrow
  clear hb1 hm hrow
  go_enter Tryd.func25, Tryd.ntmps25
  go_wp2_with (refine wpList_copy_some _ rfl (.tmp 7) (.tmp 8) 34 9 rfl 5 Tryd.underlying34 HB1.out key _ 57 key.size HM.out rfl rfl (heap_alloc_new w _) (by simp; omega) ?_)
  generalize hw1 : World.setRow _ w.heap.size _ = w1
  have hT : Bytes w1 57 w.heap.size (key.data.toList ++ List.replicate (64 - key.size) 0) := by
    rw [← hw1]
    exact HROW.out _ _ (by kernel_rfl) (heap_alloc_new w _)
  have hb1 : Below w.heap.size w w1 := by
    rw [← hw1]
    exact ((Below.refl _ _).alloc (Nat.le_refl _) _).trans ((keep_row _ _ _).below (by simp) (fun k hk e => by omega))
  have hlen : (key.data.toList ++ List.replicate (64 - key.size) 0).length = 64 := by
    rw [List.length_append, List.length_replicate, ← Lib.size_eq]; omega
  obtain ⟨L, hL⟩ : ∃ L, L = key.data.toList ++ List.replicate (64 - key.size) 0 := ⟨_, rfl⟩
  rw [← hL] at hT hlen
  have HT := Lib.hid hT
  have HB := Lib.hid hb1
  have HL := Lib.hid hL
  have HLn := Lib.hid hlen
  clear hT hb1 hw1 hL hlen
  obtain ⟨B, hB⟩ : ∃ B, B = w.heap.size := ⟨_, rfl⟩
  rw [← hB] at HT ⊢
  have HBe := Lib.hid hB
  clear hB
  go_loopw [10] (fun i wr => ∃ k : Nat, k ≤ 64 ∧ i = .int .i64 k ∧ Hid (Bytes wr 57 B (partT L p k)) ∧ Hid (Keep (· = B) w1 wr)) (fun i _ => 64 - (intOf i).toNat)
  case atStart => exact ⟨0, by omega, rfl, HT, Keep.refl _ _⟩
  case round =>
    obtain ⟨k, hk, rfl, HQ, HK⟩ := hrel
    by_cases hlt : k < 64
    · obtain ⟨x, hx⟩ : ∃ x, L[k]? = some x := ⟨L[k]'(by rw [HLn.out]; exact hlt), List.getElem?_eq_getElem _⟩
      have c := HQ.out.cell (partT_at L p hx)
      have f := HQ.out.fr k
      have e := xor_u8 x p
      have HX := Lib.hid hx
      clear hx
      go_wp2_with fail
      go_roundw
      case rel => exact ⟨k + 1, by omega, by go_num, (by have := HQ.out.set k (x ^^^ p); rw [partT_set L p HX.out] at this; exact this), HK.out.own _ _⟩
      case measure => simp [intOf]; omega
    · obtain rfl : k = 64 := by omega
      have hq : Bytes wr 57 B (L.map (· ^^^ p)) := by
        have := HQ.out
        have e := HLn.out
        rw [← e, partT_all] at this
        exact this
      have hrun : (convert 34 9 (.slice (some ⟨B, 0, none⟩) 64 64)).run Tryd.prog wr = .ok (.string ⟨(L.map (· ^^^ p)).toArray⟩) wr := by
        have hl : (L.map (· ^^^ p)).length = 64 := by rw [List.length_map]; exact HLn.out
        have := run_convert_bytes_back (P := Tryd.prog) wr 34 9 5 ⟨B, 0, none⟩ 64 (L.map (· ^^^ p)) Tryd.underlying34 Tryd.underlying5 Tryd.underlying9 (fun j hj => by
          rw [add_mk, Nat.zero_add, hq.cell (List.getElem?_eq_getElem hj)])
        rwa [hl] at this
      have HE : Hid (turned key.data.toList p = L.map (· ^^^ p)) := by
        show _ = _
        rw [HL.out, turned, ← Lib.size_eq]
      clear hq
      go_wp2_with fail
      go_ret
      exact ⟨by rw [HE.out]; rfl, HB.out.trans (HK.out.below HB.out.size (fun k hk e => by rw [HBe.out] at e; omega))⟩
end Go.Proofs.YtncfnpibigohoaaDoor
