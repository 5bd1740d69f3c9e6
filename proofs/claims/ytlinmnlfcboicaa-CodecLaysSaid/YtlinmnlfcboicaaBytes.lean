/- []byte(s), string(b) over rows told by their cells. Own work; it speaks of no program. -/
import Derived.Test.YtlinmnlfcboicaaRow
import Derived.Laws.IdiomStrings
import Derived.Lib.UnsafeStr
namespace Go.Proofs.Ytlinmnlfcboicaa
set_option linter.unusedVariables false
open Go.RowKit

/-- []byte(s): a new row of its own. -/
theorem run_bytes_row {P : Program} (w : World) (src dst e : TypeId) (s : ByteArray) (hs : P.underlying src = some .string) (hd : P.underlying dst = some (.slice e)) (he : P.underlying e = some (.int .u8)) (hl : s.size ≤ maxLen) :
    ∃ cap w', (convert src dst (.string s)).run P w = .ok (.slice (some ⟨w.heap.size, 0, none⟩) s.size cap) w' ∧ Row w' w.heap.size 0 s.size cap (Lib.byteCells s.data.toList) ∧ Below w.heap.size w w' := by
  have hr := run_bytes_of_string (P := P) w src dst e s hs hd he
  have hge := grownCap_ge w s.size 0 e
  have hcm := grownCap_le_maxLen w s.size 0 e hl
  have hsz : (bytesRow s (grownCap w s.size 0 e)).size = grownCap w s.size 0 e := by
    have : s.data.size = s.size := rfl
    simp only [bytesRow, Array.size_append, Array.size_map, Array.size_replicate, this]
    omega
  have htk : (bytesRow s (grownCap w s.size 0 e)).toList.take s.size = Lib.byteCells s.data.toList := by
    have h1 : (s.data.map fun b => Value.int .u8 (b.toNat : Int)).toList = Lib.byteCells s.data.toList := by simp [Lib.byteCells]
    have h2 : (Lib.byteCells s.data.toList).length = s.size := by rw [Lib.byteCells_length, Array.length_toList]; rfl
    simp only [bytesRow, Array.toList_append, h1]
    rw [List.take_append_of_le_length (by omega), List.take_of_length_le (by omega)]
  have hrow := Row.of_block (heap_alloc_new w.drew (.cells (bytesRow s (grownCap w s.size 0 e)) e ((bytesRow s (grownCap w s.size 0 e)).size, (bytesRow s (grownCap w s.size 0 e)).size + 1))) (.inr (Nat.le_refl _)) (n := s.size) (by rw [hsz]; exact hge) (by rw [hsz]; exact hcm)
  rw [htk, hsz] at hrow
  rw [hsz] at hr
  exact ⟨_, _, hr, hrow, ((Below.refl _ w).drew).alloc (Nat.le_refl _) _⟩

/-- string(b): its bytes. -/
theorem run_row_string {P : Program} {w : World} (src dst e : TypeId) {b off n cap : Nat} {l : List UInt8} (h : Row w b off n cap (Lib.byteCells l)) (hs : P.underlying src = some (.slice e)) (he : P.underlying e = some (.int .u8)) (hd : P.underlying dst = some .string) :
    (convert src dst (.slice (some ⟨b, off, none⟩) n cap)).run P w = .ok (.string ⟨l.toArray⟩) w := by
  have hn : l.length = n := by rw [← h.len, Lib.byteCells_length]
  subst hn
  refine run_convert_bytes_back w src dst e _ cap l hs he hd (fun j hj => ?_)
  have hadd : (⟨b, off, none⟩ : Addr).add j = ⟨b, off + j, none⟩ := by unfold Addr.add; split <;> simp_all
  rw [hadd]
  exact h.val j _ (by simp [Lib.byteCells, hj])

end Go.Proofs.Ytlinmnlfcboicaa
