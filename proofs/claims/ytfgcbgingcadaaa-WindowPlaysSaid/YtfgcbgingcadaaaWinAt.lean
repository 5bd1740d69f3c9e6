/- A window that lies somewhere. Own work. -/
import Derived.Test.YtfgcbgingcadaaaWinAlive
namespace Go.Proofs.Ytfgcbgingcadaaa
set_option linter.unusedVariables false
set_option linter.unusedSimpArgs false
open Go.RowKit

/-- A window variable: its two cells. -/
structure WinAt (w : World) (p : Nat) (t : Int) (s : Nat) : Prop where
  c0 : w.cell? ⟨p, 0, none⟩ = some (.int .i64 t)
  c1 : w.cell? ⟨p, 1, none⟩ = some (.int .u64 s)
  f0 : w.frozen? ⟨p, 0, none⟩ = false
  f1 : w.frozen? ⟨p, 1, none⟩ = false

theorem WinAt.lt {w : World} {p : Nat} {t : Int} {s : Nat} (h : WinAt w p t s) : p < w.heap.size := World.block_lt_of_cell? w _ h.c0

theorem WinAt.keep {S : Nat → Prop} {w w' : World} {p : Nat} {t : Int} {s : Nat} (h : WinAt w p t s) (k : Keep S w w') (hn : ¬ S p) : WinAt w' p t s :=
  ⟨(k.cell (p := ⟨p, 0, none⟩) h.lt hn).trans h.c0, (k.cell (p := ⟨p, 1, none⟩) h.lt hn).trans h.c1, (k.frozen (p := ⟨p, 0, none⟩) h.lt hn).trans h.f0, (k.frozen (p := ⟨p, 1, none⟩) h.lt hn).trans h.f1⟩

theorem WinAt.below {w w' : World} {p : Nat} {t : Int} {s : Nat} (h : WinAt w p t s) (k : Below w.heap.size w w') : WinAt w' p t s := h.keep (Keep.of_below (fun _ => False) k) (fun x => x)

theorem WinAt.alloc {w : World} {p : Nat} {t : Int} {s : Nat} (h : WinAt w p t s) (o : Obj) : WinAt (w.alloc o) p t s := h.keep (Keep.alloc (Keep.refl (fun _ => False) w) o) (fun x => x)

theorem WinAt.drewN {w : World} {p : Nat} {t : Int} {s : Nat} (h : WinAt w p t s) (k : Nat) : WinAt (w.drewN k) p t s := h.keep (Keep.drewN (Keep.refl (fun _ => False) w) k) (fun x => x)

theorem WinAt.drew {w : World} {p : Nat} {t : Int} {s : Nat} (h : WinAt w p t s) : WinAt w.drew p t s := h.keep (Keep.drew (Keep.refl (fun _ => False) w)) (fun x => x)

/-- Made anew. -/
theorem winAt_new (w : World) (t : Int) (s : Nat) (T : TypeId) : WinAt (w.alloc (.cells #[.int .i64 t, .int .u64 (s : Int)] T)) w.heap.size t s :=
  ⟨by simp [go_sem], by simp [go_sem], by simp [go_sem], by simp [go_sem]⟩

/-- Set anew. -/
theorem WinAt.set {w : World} {p : Nat} {t : Int} {s : Nat} (h : WinAt w p t s) (t' : Int) (s' : Nat) : WinAt ((w.setCell ⟨p, 0, none⟩ (.int .i64 t')).setCell ⟨p, 1, none⟩ (.int .u64 (s' : Int))) p t' s' := by
  obtain ⟨c0, c1, f0, f1⟩ := h
  exact ⟨by simp [go_sem, c0, c1], by simp [go_sem, c0, c1], by simp [go_sem, f0, f1], by simp [go_sem, f0, f1]⟩

theorem WinAt.far {w : World} {p q : Nat} {t : Int} {s : Nat} (h : WinAt w p t s) (hq : p ≠ q) (i : Nat) (u : Value) : WinAt (w.setCell ⟨q, i, none⟩ u) p t s :=
  h.keep (keep_set w q i u) hq

theorem made3 {W w3 : World} {p : Nat} (hW : WinAt W p 0 0) (hb : Below W.heap.size W w3) : w3.cell? ⟨p, 0, none⟩ = some (.int .i64 0) ∧ w3.cell? ⟨p, 1, none⟩ = some (.int .u64 0) ∧ w3.frozen? ⟨p, 0, none⟩ = false ∧ w3.frozen? ⟨p, 1, none⟩ = false := by
  have h := hW.below hb
  exact ⟨h.c0, h.c1, h.f0, h.f1⟩

theorem quiet_keep {w0 W w3 : World} (hW : Keep (fun k => w0.heap.size ≤ k) w0 W) (hb : Below W.heap.size W w3) : Keep (fun k => w0.heap.size ≤ k) w0 w3 := hW.trans (Keep.of_below (fun _ => False) hb) (fun _ _ x => x.elim)

theorem tell3 {w w' : World} {a b c : Addr} {x y z : Value} (h : w.cell? a = some x ∧ w.cell? b = some y ∧ w.cell? c = some z) (k : Keep (fun k => w.heap.size ≤ k) w w') : w'.cell? a = some x ∧ w'.cell? b = some y ∧ w'.cell? c = some z := by
  have p1 := World.block_lt_of_cell? w _ h.1
  have p2 := World.block_lt_of_cell? w _ h.2.1
  have p3 := World.block_lt_of_cell? w _ h.2.2
  exact ⟨(k.cell p1 (by omega)).trans h.1, (k.cell p2 (by omega)).trans h.2.1, (k.cell p3 (by omega)).trans h.2.2⟩

end Go.Proofs.Ytfgcbgingcadaaa
