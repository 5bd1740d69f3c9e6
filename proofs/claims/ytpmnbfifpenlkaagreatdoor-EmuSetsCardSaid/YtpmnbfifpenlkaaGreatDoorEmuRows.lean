/- Rows of a screen as texts. Own work. -/
import Derived.Test.YtpmnbfifpenlkaaGreatDoorEmuWrapsM
import Derived.Test.YtpmnbfifpenlkaaGreatDoorEmuPaintM
namespace Go.Proofs.YtpmnbfifpenlkaaGreatDoor
set_option linter.unusedVariables false
set_option linter.unusedSimpArgs false
open Go.RowKit

theorem row_text {W : Nat} {F : Nat → CellM} {j : Nat} {f : Nat → Nat} (h : ∀ i, i < W → (F (j * W + i)).r = (f i : Int) ∧ f i < 128) : showL (rowL W (fun x => F (j * W + x))) = bytesN (tab W f) := by
  apply nats_ext
  rw [natsOf_bytesN _ (fun c hc => by obtain ⟨i, hi, rfl⟩ := tab_mem hc; have := (h i hi).2; omega), showL_nats]
  · unfold rowL tab
    rw [List.map_map]
    apply List.map_congr_left
    intro i hi
    show ((F (j * W + i)).r).toNat = f i
    rw [(h i (List.mem_range.1 hi)).1]
    simp
  · intro c hc
    unfold rowL at hc
    obtain ⟨i, hi, rfl⟩ := List.mem_map.1 hc
    have := h i (List.mem_range.1 hi)
    rw [this.1]
    omega
/-- The texts that Text answers lie in a row. -/
theorem text_cells {w w' : World} {W H : Nat} {F : Nat → CellM} {r : Value} (hH : 0 < H) (hr : w'.ownsRow w.heap.size 9 1 r H ((rowsT W F H).map Value.string)) :
    ∃ g c, r = .slice (some ⟨g, 0, none⟩) H c ∧ g < w'.heap.size ∧ ∀ j, j < H → w'.cell? ⟨g, j, none⟩ = some (.string (showL (rowL W (fun x => F (j * W + x))))) := by
  obtain ⟨A, c, rfl, hA⟩ := own_form hr
  obtain ⟨g, rfl⟩ := hA hH
  have hc : ∀ j, j < H → w'.cell? ⟨g, j, none⟩ = some (.string (showL (rowL W (fun x => F (j * W + x))))) := fun j hj => by
    have h := World.ownsRow.cells hr (g := g) rfl j (.string (showL (rowL W (fun x => F (j * W + x))))) (by rw [List.getElem?_map, rowsT_at W F H j hj]; rfl)
    rwa [add_mk, Nat.zero_add] at h
  exact ⟨g, c, rfl, World.block_lt_of_cell? w' _ (hc 0 hH), hc⟩

end Go.Proofs.YtpmnbfifpenlkaaGreatDoor
