/- Law ChartPlays: what stands in memory. Own work. -/
import Derived.Test.YthmogbldfecckaaChartA
import Derived.Test.YthmogbldfecckaaChartOps
import Derived.Test.YthmogbldfecckaaStar
import Derived.Test.YthmogbldfecckaaBoInts
import Derived.Test.YthmogbldfecckaaBookI
namespace Go.Proofs.Ythmogbldfecckaa
set_option linter.unusedVariables false
set_option linter.unusedSimpArgs false
open Go.RowKit

def stopsH (p g n c : Nat) (l : List Bool) : Hold := ⟨fun b => b = p ∨ b = g, fun w => StopsAt w p g n c l⟩
theorem stopsH_cl (p g n c : Nat) (l : List Bool) : ClosedBy (stopsH p g n c l).s (stopsH p g n c l).p := fun S w w' k hs h => StopsAt.keep h k (hs p (.inl rfl)) (hs g (.inr rfl))
def rowH (rb n : Nat) (l : List Bool) : Hold := ⟨fun b => b = rb, fun w => Row w rb 0 n n (l.map Value.bool)⟩
theorem rowH_cl (rb n : Nat) (l : List Bool) : ClosedBy (rowH rb n l).s (rowH rb n l).p := fun S w w' k hs h => Row.keep h k (hs rb rfl)
def bookH (q : Nat) (own : Fin 8 → Nat → Prop) (m : Nat) : Hold := ⟨fun b => b = q ∨ ∃ j, own j b, fun w => BoInts w q own m⟩
theorem bookH_cl (q : Nat) (own : Fin 8 → Nat → Prop) (m : Nat) : ClosedBy (bookH q own m).s (bookH q own m).p := fun S w w' k hs h => BoInts.keep h k (hs q (.inl rfl)) (fun j b hb => hs b (.inr ⟨j, hb⟩))
def boxH (ob : Nat) (cs : List Value) : Hold := ⟨fun b => b = ob, fun w => Cells w ob cs⟩
theorem boxH_cl (ob : Nat) (cs : List Value) : ClosedBy (boxH ob cs).s (boxH ob cs).p := fun S w w' k hs h => Cells.keep h k (hs ob rfl)
def lentH (gm c : Nat) (xs : List Int) : Hold := ⟨fun b => b = gm, fun w => Lent w 3 gm c (xs.map (Value.int .i64)) (.int .i64 (-77))⟩
theorem lentH_cl (gm c : Nat) (xs : List Int) : ClosedBy (lentH gm c xs).s (lentH gm c xs).p := fun S w w' k hs h => Lent.keep h k (hs gm rfl)
def bufH (A : Option Addr) (n c : Nat) (xs : List Int) : Hold := ⟨fun b => blk A = some b, fun w => Buf w A n c (xs.map (Value.int .i64))⟩
theorem bufH_cl (A : Option Addr) (n c : Nat) (xs : List Int) : ClosedBy (bufH A n c xs).s (bufH A n c xs).p := fun S w w' k hs h => Buf.keep h k (fun i hi => hs i hi)

def ownH (B : Nat) (v : Value) (n : Nat) (xs : List Int) : Hold := ⟨fun b => v.ownBlock = some b, fun w => w.ownsRow B 3 1 v n (xs.map (Value.int .i64))⟩
theorem ownH_cl (B : Nat) (v : Value) (n : Nat) (xs : List Int) : ClosedBy (ownH B v n xs).s (ownH B v n xs).p := fun S w w' k hs h => own_keep h k (fun i hi => hs i hi)

theorem bufz_buf {w : World} {A : Option Addr} {n c : Nat} {xs : List Value} (h : Buf w A n c xs) : BufZ 1 w A n c xs := BufZ.of_buf h

/-- One list is kept: the Book takes what lay beside it. -/
theorem star_put {w0 w w' : World} {xs : List Hold} {q m : Nat} {own own' : Fin 8 → Nat → Prop} {A : Option Addr} {n c : Nat} {L : List Int} (h : Star w0 w xs) (i j : Nat) (hij : i ≠ j) (hx : xs[i]? = some (bookH q own m)) (hy : xs[j]? = some (bufH A n c L))
    (h1 : BoInts w' q own' (m + 1)) (k : Keep (fun k => k = q ∨ ∃ j, own j k) w w') (h2 : ∀ j k, own' j k → own j k ∨ blk A = some k ∨ w.heap.size ≤ k) : Star w0 w' ((xs.set j .no).set i (bookH q own' (m + 1))) := by
  have hb := h.both i j hij hx hy
  have hl : i < ((xs.set j Hold.no).set i ⟨fun b => (bookH q own m).s b ∨ (bufH A n c L).s b, fun v => (bookH q own m).p v ∧ (bufH A n c L).p v⟩).length := by
    obtain ⟨hi, _⟩ := List.getElem?_eq_some_iff.1 hx
    rw [List.length_set, List.length_set]; exact hi
  have := hb.turn i (List.getElem?_eq_getElem hl) (bookH q own' (m + 1)) (k.mono (fun b _ e => by simp only [List.getElem_set_self]; exact .inl e)) (fun b e => ?_) h1 (bookH_cl _ _ _)
  · rwa [List.set_set] at this
  · simp only [List.getElem_set_self]
    rcases e with e | ⟨t, e⟩
    · subst e
      exact ⟨.inl (.inl (.inl rfl)), h1.lq⟩
    · refine ⟨?_, h1.lt t b e⟩
      rcases h2 t b e with z | z | z
      · exact .inl (.inl (.inr ⟨t, z⟩))
      · exact .inl (.inr z)
      · exact .inr z

theorem star_stops {w0 w w' : World} {xs : List Hold} {p g n c : Nat} {l l' : List Bool} (h : Star w0 w xs) (i : Nat) (hx : xs[i]? = some (stopsH p g n c l)) (h1 : StopsAt w' p g n c l') (k : Keep (fun i => i = g ∧ 0 < n) w w') : Star w0 w' (xs.set i (stopsH p g n c l')) :=
  h.turn i hx (stopsH p g n c l') (k.mono (fun b _ e => .inr e.1)) (fun b e => ⟨.inl e, by
    rcases e with e | e
    · subst e; exact h1.lt
    · subst e; exact h1.lg⟩) h1 (stopsH_cl _ _ _ _ _)
theorem star_row {w0 w : World} {xs : List Hold} {rb n : Nat} {l : List Bool} (h : Star w0 w xs) (i : Nat) (hx : xs[i]? = some (rowH rb n l)) (z : Nat) (hz : z < n) (b : Bool) : Star w0 (w.setCell ⟨rb, z, none⟩ (.bool b)) (xs.set i (rowH rb n (l.set z b))) := by
  have hr : Row w rb 0 n n (l.map Value.bool) := h.get i hx
  have hk := keep_set w rb z (.bool b)
  refine h.turn i hx (rowH rb n (l.set z b)) hk (fun b e => ⟨.inl e, Nat.lt_of_lt_of_le (h.lt i hx e) hk.size⟩) ?_ (rowH_cl _ _ _)
  have := hr.set z hz (.bool b)
  rw [Nat.zero_add] at this
  show Row _ _ _ _ _ _
  rwa [List.map_set]

end Go.Proofs.Ythmogbldfecckaa
