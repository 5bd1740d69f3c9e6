/- What the laws of emu want: several terminals, Ends, digits, Screens that are kept. Own work. -/
import Derived.Test.YtnminmaklbhakaaGreatDoorEmuZs
import Derived.Test.YtnminmaklbhakaaGreatDoorEmuLs
import Derived.Test.YtnminmaklbhakaaGreatDoorEmuHs
import Derived.Test.YtnminmaklbhakaaGreatDoorEmuW2
import Derived.Test.YtnminmaklbhakaaGreatDoorBookT0
namespace Go.Proofs.YtnminmaklbhakaaGreatDoor
set_option linter.unusedVariables false
set_option linter.unusedSimpArgs false
open Go.RowKit

theorem ends_any2 (W H : Int) (w : World) :
    Calls Tryz.prog 30 #[.int .i64 W, .int .i64 H] w fun e w' => e = .returned (.tuple #[.int .i64 (min (max W 2) 40), .int .i64 (min (max H 1) 20)]) ∧ w' = w := by
  go_enter Tryz.func30, Tryz.ntmps30
  go_wp2_with fail
  go_ret2
  exact ⟨rfl, rfl⟩
theorem ends_is (x y : Int) (W H : Nat) (hW : min (max x 2) 40 = (W : Int)) (hH : min (max y 1) 20 = (H : Int)) (w : World) :
    Calls Tryz.prog 30 #[.int .i64 x, .int .i64 y] w fun e w' => e = .returned (.tuple #[.int .i64 (W : Int), .int .i64 (H : Int)]) ∧ w' = w := by
  have h := ends_any2 x y w
  rwa [hW, hH] at h

theorem natsJ_eq (ts : List ByteArray) : natsJ ts = ts.flatMap natsOf := by
  unfold natsJ joinL natsOf
  induction ts with
  | nil => rfl
  | cons a r ih => simp only [List.flatMap_cons, List.map_append] at *; rw [ih]

theorem Ems.one {w0 w : World} {s : Em} (h : Ems w0 w [s]) : EmuF w s.e s.L s.k s.x := h.each s (by simp)
theorem Ems.two {w0 w : World} {s t : Em} (h : Ems w0 w [s, t]) : EmuF w s.e s.L s.k s.x ∧ EmuF w t.e t.L t.k t.x := ⟨h.each s (by simp), h.each t (by simp)⟩
theorem Ems.three {w0 w : World} {s t u : Em} (h : Ems w0 w [s, t, u]) : EmuF w s.e s.L s.k s.x ∧ EmuF w t.e t.L t.k t.x ∧ EmuF w u.e u.L u.k u.x := ⟨h.each s (by simp), h.each t (by simp), h.each u (by simp)⟩
theorem EmuF.below {w w' : World} {e k : Nat} {L : Loc} {x : PL × EmM} (h : EmuF w e L k x) (b : Below w.heap.size w w') : EmuF w' e L k x := h.keep (Keep.of_below (fun _ => False) b) (fun _ x => x.elim)
theorem EmuF.few {w : World} {e k : Nat} {L : Loc} {x : PL × EmM} (h : EmuF w e L k x) : x.2.W * x.2.H ≤ 800 := Nat.mul_le_mul h.r.ok.w40 h.r.ok.h20
theorem EmuF.lt {w : World} {e k : Nat} {L : Loc} {x : PL × EmM} (h : EmuF w e L k x) : e < w.heap.size := h.r.elt
/-- A Screen's cells, each by itself. -/
theorem scr_cells (w : World) (m : EmM) (A : Option Addr) (c : Nat) (t : TypeId) (W : World) (hW : W = w.alloc (.cells #[.int .i64 (m.W : Int), .int .i64 (m.H : Int), .slice A (m.W * m.H) c, .int .i64 (m.st.x : Int), .int .i64 (m.st.y : Int), .bool m.hid] t)) :
    W.cell? ⟨w.heap.size, 0, none⟩ = some (.int .i64 (m.W : Int)) ∧ W.cell? ⟨w.heap.size, 1, none⟩ = some (.int .i64 (m.H : Int)) ∧ W.cell? ⟨w.heap.size, 2, none⟩ = some (.slice A (m.W * m.H) c) ∧
    W.cell? ⟨w.heap.size, 3, none⟩ = some (.int .i64 (m.st.x : Int)) ∧ W.cell? ⟨w.heap.size, 4, none⟩ = some (.int .i64 (m.st.y : Int)) ∧ W.cell? ⟨w.heap.size, 5, none⟩ = some (.bool m.hid) := by
  have q : W.heap[w.heap.size]? = some (.cells #[.int .i64 (m.W : Int), .int .i64 (m.H : Int), .slice A (m.W * m.H) c, .int .i64 (m.st.x : Int), .int .i64 (m.st.y : Int), .bool m.hid] t (0, 0)) := by rw [hW]; exact heap_alloc_new w _
  exact ⟨cell_at q 0, cell_at q 1, cell_at q 2, cell_at q 3, cell_at q 4, cell_at q 5⟩

theorem Shown.refl (m : EmM) : Shown m m := ⟨rfl, rfl, rfl, rfl, rfl, rfl⟩
theorem decN_digits (n : Nat) : ∀ c ∈ decN n, 48 ≤ c ∧ c ≤ 57 := fun c hc => decN_mem n c hc
theorem natsOf_decN (n : Nat) : natsOf (bytesN (decN n)) = decN n := natsOf_bytesN _ (fun c hc => by have := decN_digits n c hc; omega)

end Go.Proofs.YtnminmaklbhakaaGreatDoor

