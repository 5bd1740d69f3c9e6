/- Law EmuHides: Size of the one terminal that there is. Own work. -/
import Derived.Test.YtmlceohmjkaadaaGreatDoorEmuLaw2
import Derived.Test.YtmlceohmjkaadaaGreatDoorEmuSz
namespace Go.Proofs.YtmlceohmjkaadaaGreatDoor
set_option linter.unusedVariables false
set_option linter.unusedSimpArgs false
open Go.RowKit

/-- A terminal that was turned, its parser not. -/
theorem EmuF.turned {w w' : World} {e k : Nat} {L L' : Loc} {p : PL} {m m' : EmM} (h : EmuF w e L k (p, m)) (hr : EmR w' e L' m') (mv : Mv e L L' w w') :
    EmuF w' e L' k (p, m') ∧ ∀ i, Own w' e L' i → Own w e L i ∨ w.heap.size ≤ i := by
  obtain ⟨b, h1, h2, h3, h4⟩ := h.esc
  have cc : ∀ i v, i < 19 → Cell w e i v → Cell w' e i v := fun i v hi c => ⟨(mv.low i hi).1.trans c.1, (mv.low i hi).2.trans c.2⟩
  have e0 := (mv.low 0 (by omega)).1
  refine ⟨⟨hr, ⟨b, ⟨h1.c.cells cc, ?_, h1.al⟩, h2, h3, h4⟩, fun R hR hT => ?_⟩, fun i o => ?_⟩
  · rcases h1.r with hz | ⟨R, hR, hRr, hRp⟩
    · exact .inl (cc 0 _ (by omega) hz)
    · exact .inr ⟨R, cc 0 _ (by omega) hR, hRr.keep mv.keep (h.rul R hR.1), hRp⟩
  · rw [e0] at hR
    rcases mv.new R hT with y | y
    · exact h.rul R hR y
    · have := h.own_lt (i := R) (.inr hR); omega
  · rcases o with o | o
    · exact (mv.new i o).imp .inl id
    · rw [e0] at o; exact .inl (.inr o)

theorem size1 {w0 w : World} {e k : Nat} {L : Loc} {m : EmM} (h : Ems w0 w [⟨e, L, k, (pAt 0, m)⟩]) (x y : Int) (ho : m.O = none) :
    Calls Tryz.prog 25 #[.pointer (some ⟨e, 0, none⟩), .int .i64 x, .int .i64 y] w fun v w' => v = .returned (.tuple #[]) ∧ ∃ L' m', m'.O = none ∧ m'.hid = m.hid ∧ Ems w0 w' [⟨e, L', k, (pAt 0, m')⟩] := by
  obtain ⟨W, hW⟩ : ∃ W : Nat, min (max x 2) 40 = (W : Int) := ⟨(min (max x 2) 40).toNat, by omega⟩
  obtain ⟨H, hH⟩ : ∃ H : Nat, min (max y 1) 20 = (H : Int) := ⟨(min (max y 1) 20).toNat, by omega⟩
  refine (emu_size_main w e L m x y W H h.one.r ho hW hH).mono ?_
  rintro v w' ⟨rfl, L', hr, mv⟩
  obtain ⟨hf, hn⟩ := h.one.turned hr mv
  exact ⟨rfl, L', m.size W H, by show Option.map _ m.O = none; rw [ho]; rfl, rfl, h.move (l1 := []) (l2 := []) mv.keep hf hn⟩

end Go.Proofs.YtmlceohmjkaadaaGreatDoor
