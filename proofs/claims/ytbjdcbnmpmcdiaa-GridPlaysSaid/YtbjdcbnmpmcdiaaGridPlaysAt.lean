/- Law GridPlays: what stands in memory. Own work. -/
import Derived.Test.YtbjdcbnmpmcdiaaGridTwo
import Derived.Test.YtbjdcbnmpmcdiaaRGridFill
import Derived.Test.YtbjdcbnmpmcdiaaGridText
import Derived.Test.YtbjdcbnmpmcdiaaGridQR
import Derived.Test.YtbjdcbnmpmcdiaaGridA
import Derived.Test.YtbjdcbnmpmcdiaaHeld
import Derived.Test.YtbjdcbnmpmcdiaaBoCellsTexts
namespace Go.Proofs.Ytbjdcbnmpmcdiaa
set_option linter.unusedVariables false
set_option linter.unusedSimpArgs false
open Go.RowKit

def gridH (p g c W H n : Nat) (f : Nat → CellM) : Hold := ⟨fun b => b = p ∨ b = g, fun w => GridAt w p g c W H n f⟩
theorem gridH_cl (p g c W H n : Nat) (f : Nat → CellM) : ClosedBy (gridH p g c W H n f).s (gridH p g c W H n f).p := fun S w w' k hs h => GridAt.keep h k (hs p (.inl rfl)) (hs g (.inr rfl))
def rgridH (r lb lc W H : Nat) (R : Nat → Nat) (F : Nat → Nat → CellM) : Hold := ⟨rown r lb H R, fun w => RGrid w r lb lc W H R F⟩
theorem rgridH_cl (r lb lc W H : Nat) (R : Nat → Nat) (F : Nat → Nat → CellM) : ClosedBy (rgridH r lb lc W H R F).s (rgridH r lb lc W H R F).p := fun S w w' k hs h => RGrid.keep h k hs
def bookH (q : Nat) (own : Fin 8 → Nat → Prop) (m : Nat) : Hold := ⟨fun b => b = q ∨ ∃ j, own j b, fun w => BoCellsTexts w q own m⟩
theorem bookH_cl (q : Nat) (own : Fin 8 → Nat → Prop) (m : Nat) : ClosedBy (bookH q own m).s (bookH q own m).p := fun S w w' k hs h => BoCellsTexts.keep h k (hs q (.inl rfl)) (fun j b hb => hs b (.inr ⟨j, hb⟩))
def lentH (gm c : Nat) (xs : List CellM) : Hold := ⟨fun b => b = gm, fun w => LentC w gm c xs⟩
theorem lentH_cl (gm c : Nat) (xs : List CellM) : ClosedBy (lentH gm c xs).s (lentH gm c xs).p := fun S w w' k hs h => LentC.keep h k (hs gm rfl)
/-- A row of its own. -/
def ownH (B : Nat) (e : TypeId) (z : Nat) (A : Option Addr) (n c : Nat) (xs : List Value) : Hold := ⟨fun b => blk A = some b, fun w => w.ownsRow B e z (.slice A n c) n xs⟩
theorem ownH_cl (B : Nat) (e : TypeId) (z : Nat) (A : Option Addr) (n c : Nat) (xs : List Value) : ClosedBy (ownH B e z A n c xs).s (ownH B e z A n c xs).p := fun S w w' k hs h => own_keep h k (fun i hi => hs i (by rwa [ownBlock_slice] at hi))

variable {w0 w w' : World} {xs : List Hold}
theorem star_grid {p g c W H n : Nat} {f f' : Nat → CellM} (h : Star w0 w xs) (i : Nat) (hx : xs[i]? = some (gridH p g c W H n f)) (h1 : GridAt w' p g c W H n f') (k : Keep (· = g) w w') : Star w0 w' (xs.set i (gridH p g c W H n f')) :=
  h.turn i hx (gridH p g c W H n f') (k.mono (fun b _ e => .inr e)) (fun b e => ⟨.inl e, by
    rcases e with e | e
    · rw [e]; exact h1.lt
    · rw [e]; exact h1.hg⟩) h1 (gridH_cl _ _ _ _ _ _ _)
theorem star_gridS {p g c W H n g' c' W' H' n' : Nat} {f f' : Nat → CellM} (h : Star w0 w xs) (i : Nat) (hx : xs[i]? = some (gridH p g c W H n f)) (hg : w.heap.size ≤ g') (h1 : GridAt w' p g' c' W' H' n' f') (k : Keep (· = p) w w') : Star w0 w' (xs.set i (gridH p g' c' W' H' n' f')) :=
  h.turn i hx (gridH p g' c' W' H' n' f') (k.mono (fun b _ e => .inl e)) (fun b e => by
    rcases e with e | e
    · exact ⟨.inl (.inl e), by rw [e]; exact h1.lt⟩
    · exact ⟨.inr (by rw [e]; exact hg), by rw [e]; exact h1.hg⟩) h1 (gridH_cl _ _ _ _ _ _ _)
theorem star_rg {r lb lc W H lb' lc' W' H' : Nat} {R R' : Nat → Nat} {F F' : Nat → Nat → CellM} (h : Star w0 w xs) (i : Nat) (hx : xs[i]? = some (rgridH r lb lc W H R F)) (h1 : RGrid w' r lb' lc' W' H' R' F') (s : Step (rown r lb H R) w (rown r lb' H' R') w') : Star w0 w' (xs.set i (rgridH r lb' lc' W' H' R' F')) :=
  h.turn i hx (rgridH r lb' lc' W' H' R' F') s.1 (fun b e => ⟨s.2 b e, h1.lt b e⟩) h1 (rgridH_cl _ _ _ _ _ _ _)
theorem star_rgK {r lb lc W H : Nat} {R : Nat → Nat} {F F' : Nat → Nat → CellM} (h : Star w0 w xs) (i : Nat) (hx : xs[i]? = some (rgridH r lb lc W H R F)) (h1 : RGrid w' r lb lc W H R F') (k : Keep (rown r lb H R) w w') : Star w0 w' (xs.set i (rgridH r lb lc W H R F')) :=
  star_rg h i hx h1 ⟨k, fun b e => .inl e⟩

/-- One list is kept: the Book takes what lay beside it. -/
theorem star_put {q m : Nat} {own own' : Fin 8 → Nat → Prop} {B : Nat} {e : TypeId} {z : Nat} {A : Option Addr} {n c : Nat} {L : List Value} (h : Star w0 w xs) (i j : Nat) (hij : i ≠ j) (hx : xs[i]? = some (bookH q own m)) (hy : xs[j]? = some (ownH B e z A n c L))
    (h1 : BoCellsTexts w' q own' (m + 1)) (k : Keep (fun k => k = q ∨ ∃ j, own j k) w w') (h2 : ∀ j k, own' j k → own j k ∨ blk A = some k ∨ w.heap.size ≤ k) : Star w0 w' ((xs.set j .no).set i (bookH q own' (m + 1))) := by
  have hb := h.both i j hij hx hy
  have hl : i < ((xs.set j Hold.no).set i ⟨fun b => (bookH q own m).s b ∨ (ownH B e z A n c L).s b, fun v => (bookH q own m).p v ∧ (ownH B e z A n c L).p v⟩).length := by
    obtain ⟨hi, _⟩ := List.getElem?_eq_some_iff.1 hx
    rw [List.length_set, List.length_set]; exact hi
  have := hb.turn i (List.getElem?_eq_getElem hl) (bookH q own' (m + 1)) (k.mono (fun b _ e => by simp only [List.getElem_set_self]; exact .inl e)) (fun b e => ?_) h1 (bookH_cl _ _ _)
  · rwa [List.set_set] at this
  · simp only [List.getElem_set_self]
    rcases e with e | ⟨t, e⟩
    · subst e
      exact ⟨.inl (.inl (.inl rfl)), h1.lq⟩
    · refine ⟨?_, h1.lt t b e⟩
      rcases h2 t b e with z | z | z
      · exact .inl (.inl (.inr ⟨t, z⟩))
      · exact .inl (.inr z)
      · exact .inr z

/-- A list of cells, as a function. -/
def getF (xs : List CellM) (k : Nat) : CellM := xs.getD k .z
theorem getF_flat (xs : List CellM) : flatF (getF xs) xs.length = flatL xs := flatF_list xs (getF xs) (fun k c h => by simp [getF, List.getD, h])

/-- What stands at a place of both. -/
theorem atF_lin {W H : Nat} (F : Nat → Nat → CellM) (x y : Nat) (hx : x < W) (hy : y < H) : atF W H (linF W F) x y = F y x := by
  unfold atF
  rw [if_pos (by omega)]
  have : restA W (x : Int) (y : Int) = y * W + x := by unfold restA; simp
  rw [this, linF_at F y x hx]

/-- A cell in a block of its own. -/
def atH (ab : Nat) (Z : CellM) : Hold := ⟨fun b => b = ab, fun w => Lies w ab 0 1 (fun _ => Z) ∧ ab < w.heap.size⟩
theorem atH_cl (ab : Nat) (Z : CellM) : ClosedBy (atH ab Z).s (atH ab Z).p := fun S w w' k hs h => ⟨h.1.keep h.2 k (hs ab rfl), Nat.lt_of_lt_of_le h.2 k.size⟩
theorem src_keepN {S : Nat → Prop} {w w' : World} {A : Option Addr} {m : Nat} {us : List Value} (h : Src w A m us) (k : Keep S w w') (hn : ∀ i, blk A = some i → ¬ S i) : Src w' A m us := ⟨h.1, fun h0 => by
  obtain ⟨b, off, e, hb, hc⟩ := h.2 h0
  exact ⟨b, off, e, Nat.lt_of_lt_of_le hb k.size, fun i u hu => (k.cell (p := ⟨b, off + i, none⟩) hb (hn b (by rw [e]; rfl))).trans (hc i u hu)⟩⟩
end Go.Proofs.Ytbjdcbnmpmcdiaa
