/- A slice of runes that comes in. It speaks of no program. Own work. -/
import Derived.Test.YtoihadjboeeglaaBase
import Derived.Deep.Slices
set_option linter.unusedVariables false
set_option linter.unusedSimpArgs false
namespace Go.Proofs.Ytoihadjboeeglaa
set_option linter.unusedVariables false
open Go.RowKit

/-- n runes that are read. -/
def Runes (w : World) (A : Option Addr) (n : Nat) (xs : List Int) : Prop := Src w A n (xs.map (Value.int .i32)) ∧ (∀ x ∈ xs, -2147483648 ≤ x ∧ x ≤ 2147483647) ∧ n ≤ maxLen

theorem wf_bounds32 {x : Int} (h : (Lit.int .i32 x).wf = true) : -2147483648 ≤ x ∧ x ≤ 2147483647 := by
  simpa [Lit.wf, IntKind.min, IntKind.max, IntKind.signed, IntKind.bits] using h

theorem runes_of {w : World} {x : Addr} {len : Nat} {zs : List Int} (hl : len ≤ zs.length) (hcell : ∀ i, i < zs.length → w.cell? (x.add i) = some (.int .i32 (zs.getD i 0))) (hws : ∀ n ∈ zs, (Lit.int .i32 n).wf = true) (hm : len ≤ maxLen) :
    Runes w (some x) len (zs.take len) := by
  refine ⟨⟨by rw [List.length_map, List.length_take]; omega, fun h0 => ?_⟩, fun s hs => wf_bounds32 (hws s (List.mem_of_mem_take hs)), hm⟩
  obtain ⟨b, off, spot⟩ := x
  have hc := hcell 0 (by omega)
  have hspot : spot = none := by simpa [Addr.add] using World.cell?_spot hc
  subst hspot
  refine ⟨b, off, rfl, ?_, fun i s hi => ?_⟩
  · have := World.block_lt_of_cell? w _ hc
    simpa [Addr.add] using this
  · rw [List.getElem?_map] at hi
    obtain ⟨y, hy, rfl⟩ := Option.map_eq_some_iff.1 hi
    rw [List.getElem?_take] at hy
    split at hy
    · have hiz : i < zs.length := by
        rcases Nat.lt_or_ge i zs.length with h | h
        · exact h
        · rw [List.getElem?_eq_none h] at hy; cases hy
      have h1 := hcell i hiz
      rw [add_mk] at h1
      rw [h1, List.getD_eq_getElem?_getD, hy]
      rfl
    · cases hy

section
open Go.ChangeShapes Go.WideShapes Go.Deep
variable {H : Type} {enc : TypeId × Value → H} {P : Program} {w : World}
theorem runes_read {t e : TypeId} (ht : P.underlying t = some (.slice e)) (he : P.underlying e = some (.int .i32)) (hc : P.cellsOf e = 1) {fuel : Nat} {v : Value} {y : DataW H × List MemPlace} (h : DataW.trod enc P w 0 (fun _ => true) true fuel t [v] = some y) :
    ∃ A len cap zs, v = .slice A len cap ∧ Runes w A len zs := by
  rcases open_ints ht he hc h with ⟨hcs, _⟩ | ⟨x, l, c, zs, hcs, _, hl, hm, hz, _, hcell, hwz⟩
  · injection hcs with h1
    exact ⟨none, 0, 0, [], h1, ⟨rfl, fun h => absurd h (by omega)⟩, by simp, by unfold maxLen; omega⟩
  · injection hcs with h1
    have hz' : zs.length = c := by simpa using hz
    exact ⟨some x, l, c, _, h1, runes_of (by omega) hcell hwz (Nat.le_trans hl hm)⟩
end

end Go.Proofs.Ytoihadjboeeglaa
