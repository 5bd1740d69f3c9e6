/- What the table of roots reads as. Own work, after the guide's frame for tables. -/
import Derived.Test.YtncpjapfkcgjnaaDoorRows
import Derived.Test.YtncpjapfkcgjnaaDoorSealA
import Derived.ProofKit
import Derived.LaidMore
import Derived.OpenShut
import Derived.Stop.Joined
set_option linter.unusedVariables false
set_option linter.unusedSimpArgs false
namespace Go.Proofs.YtncpjapfkcgjnaaDoor
open Go.ChangeShapes Go.WideShapes Go.ChangeAt Go.RowKit
set_option linter.unusedVariables false

/-- Cell by cell, what an array of words reads as. -/
theorem laid_words {H : Type} {enc : TypeId × Value → H} {P : Program} {w : World} {base : Nat} {sp : Nat → Bool} {held : Bool} {fuel : Nat} {t e : TypeId} {n : Nat} {cs : List Value} {ds : List (DataW H)} {p : List MemPlace}
    (ht : P.underlying t = some (.array n e)) (he : P.underlying e = some (.int .u32)) (hc : P.cellsOf e = 1) (h : DataW.trod enc P w base sp held fuel t cs = some (.agg ds, p)) :
    ∀ i k, i < n → ds[i]? = some (.lit (.int .u32 k)) → cs[i]? = some (.int .u32 k) := by
  obtain ⟨xs, m, rfl, hx, hlen, hn, hel⟩ := DataW.trod_array ht h
  intro i k hi hd
  simp only [Prod.mk.injEq, DataW.agg.injEq] at hx
  have h1 := hel i hi
  rw [hx.1, List.getElem?_map] at hd
  obtain ⟨x, hxi, hxd⟩ := Option.map_eq_some_iff.1 hd
  rw [hxi, hc, Nat.mul_one] at h1
  obtain ⟨k', e1, e2, _⟩ := DataW.trod_int he h1
  have hk : k' = k := by
    rw [e2] at hxd
    injection hxd with q
    injection q
  subst hk
  have hil : i < cs.length := by
    rcases Nat.lt_or_ge i cs.length with q | q
    · exact q
    · rw [List.drop_of_length_le q] at e1; cases e1
  rw [List.drop_eq_getElem_cons hil, List.take_succ_cons] at e1
  injection e1 with e1 _
  rw [List.getElem?_eq_getElem hil, e1]

theorem roots_datum : (Rows.laid_pontoon_seal_cubeRoots : DataW Unit) = .agg ((List.range 64).map fun i => .lit (.int .u32 (kAt i).n)) := by kernel_rfl

theorem of_laid {W : World} (h : laidMetH Tryd.prog Rows.frameTellsRow.laid W) : Roots W := by
  rw [MakeChecks.laidMetH_plain _ _ _ (by kernel_rfl)] at h
  obtain ⟨ps, ⟨g, t, cs, f, p, q, hg, ht, hv, hd, _, _⟩, _, _⟩ := h
  have hg0 : g = 0 := (Option.some.inj (hg.symm.trans (show _ = some 0 by kernel_rfl)))
  subst hg0
  have ht0 : t = 91 := (Option.some.inj (ht.symm.trans (show _ = some 91 by kernel_rfl)))
  subst ht0
  rw [roots_datum] at hd
  have hw := laid_words Tryd.underlying91 Tryd.underlying87 (by kernel_rfl) hd
  have hc : ∀ i, i < 64 → W.cell? ⟨0, i, none⟩ = some (.int .u32 (kAt i).n) := fun i hi => by
    rw [World.var?_cell hg hv i, ← Array.getElem?_toList]
    exact hw i _ hi (by rw [List.getElem?_map, List.getElem?_range hi]; rfl)
  exact ⟨World.block_lt_of_cell? W _ (hc 0 (by omega)), hc⟩

/-- The door's own heap meets the condition. -/
theorem door_met (os : Os) (args : Array Value) : laidMetH Tryd.prog Rows.frameTellsRow.laid ((World.doorLaid Tryd.prog 400 os).forCall (fun _ _ => 0) ⟨#[], args, []⟩).memory :=
  laidMetH_of_parts3 (fuel := 8) (laidMet_of_run' 8 (by kernel_rfl) (by kernel_rfl)) (by kernel_rfl) (by kernel_rfl)

theorem door_shaped (os : Os) (args : Array Value) : True := trivial

end Go.Proofs.YtncpjapfkcgjnaaDoor
