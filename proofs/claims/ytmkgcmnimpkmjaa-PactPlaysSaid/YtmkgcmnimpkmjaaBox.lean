/- A side in memory: two cells. Own work. -/
import Derived.Test.YtmkgcmnimpkmjaaBase
namespace Go.Proofs.Ytmkgcmnimpkmjaa
set_option linter.unusedVariables false
set_option linter.unusedSimpArgs false
open Go.RowKit

/-- A side that lies at p. -/
structure Box (w : World) (p : Nat) (s : Int) (o : Bool) : Prop where
  lt : p < w.heap.size
  c0 : w.cell? ⟨p, 0, none⟩ = some (.int .i64 s)
  c1 : w.cell? ⟨p, 1, none⟩ = some (.bool o)
  f0 : w.frozen? ⟨p, 0, none⟩ = false
  f1 : w.frozen? ⟨p, 1, none⟩ = false

namespace Box
variable {w w' : World} {p : Nat} {s : Int} {o : Bool}
theorem below {B : Nat} (h : Box w p s o) (k : Below B w w') (hp : p < B) : Box w' p s o :=
  ⟨Nat.lt_of_lt_of_le h.lt k.size, (k.cell (p := ⟨p, 0, none⟩) hp).trans h.c0, (k.cell (p := ⟨p, 1, none⟩) hp).trans h.c1, (k.frozen (p := ⟨p, 0, none⟩) hp).trans h.f0, (k.frozen (p := ⟨p, 1, none⟩) hp).trans h.f1⟩
theorem call (h : Box w p s o) (k : Below w.heap.size w w') : Box w' p s o := h.below k h.lt
theorem alloc (h : Box w p s o) (x : Obj) : Box (w.alloc x) p s o := h.below ((Below.refl w.heap.size w).alloc (Nat.le_refl _) x) h.lt
theorem drew (h : Box w p s o) : Box w.drew p s o := ⟨h.lt, h.c0, h.c1, h.f0, h.f1⟩
theorem drewN (h : Box w p s o) (n : Nat) : Box (w.drewN n) p s o := ⟨h.lt, h.c0, h.c1, h.f0, h.f1⟩
theorem new (w : World) (s : Int) (o : Bool) (t : TypeId) (q : Nat) (hq : q = w.heap.size) : Box (w.alloc (.cells #[.int .i64 s, .bool o] t)) q s o := by
  subst hq
  exact ⟨by simp, by simp [go_sem, Array.size_push], by simp [go_sem, Array.size_push], by simp [go_sem, Array.size_push], by simp [go_sem, Array.size_push]⟩
theorem far (h : Box w p s o) {q : Addr} (hq : q.block ≠ p) (v : Value) : Box (w.setCell q v) p s o :=
  ⟨by simpa [World.setCell] using h.lt, (World.cell?_setCell_other _ _ _ _ (by intro e; exact hq (by rw [e]))).trans h.c0, (World.cell?_setCell_other _ _ _ _ (by intro e; exact hq (by rw [e]))).trans h.c1,
    by rw [World.frozen?_setCell]; exact h.f0, by rw [World.frozen?_setCell]; exact h.f1⟩
theorem put (h : Box w p s o) (s' : Int) (o' : Bool) : Box ((w.setCell ⟨p, 0, none⟩ (.int .i64 s')).setCell ⟨p, 1, none⟩ (.bool o')) p s' o' := by
  have e0 := World.cell?_setCell_same w ⟨p, 0, none⟩ (.int .i64 s') h.c0
  have e1 : (w.setCell ⟨p, 0, none⟩ (.int .i64 s')).cell? ⟨p, 1, none⟩ = some (.bool o) := (World.cell?_setCell_other _ _ _ _ (by simp)).trans h.c1
  exact ⟨by simpa [World.setCell] using h.lt, (World.cell?_setCell_other _ _ _ _ (by simp)).trans e0, World.cell?_setCell_same _ ⟨p, 1, none⟩ (.bool o') e1,
    by rw [World.frozen?_setCell, World.frozen?_setCell]; exact h.f0, by rw [World.frozen?_setCell, World.frozen?_setCell]; exact h.f1⟩
end Box

end Go.Proofs.Ytmkgcmnimpkmjaa
