/- pact's New. Own work. -/
import Derived.Test.YtmkgcmnimpkmjaaPactA
import Derived.Test.YtmkgcmnimpkmjaaClone
import Derived.Test.YtmkgcmnimpkmjaaRowI
import Derived.Maps.OwnOps
namespace Go.Proofs.Ytmkgcmnimpkmjaa
set_option linter.unusedVariables false
set_option linter.unusedSimpArgs false
open Go.RowKit Go.Maps Go.WideMaps

set_option maxRecDepth 100000 in
set_option maxHeartbeats 3200000 in
theorem new_any (name : ByteArray) (q : Nat) (hq : min (name.size : Int) 30 = (q : Int)) (hq1 : q ≤ name.size) (hq2 : q ≤ 30) (a b : Int) (w : World) :
    Calls Try.prog 9 #[.string name, .int .i64 a, .int .i64 b] w fun e w' => ∃ p L, e = .returned (.pointer (some ⟨p, 0, none⟩)) ∧ (w.heap.size ≤ p ∧ w.heap.size ≤ L.b1 ∧ w.heap.size ≤ L.b2) ∧ PactAt w' p L (name.extract 0 q) 0 0 (Pm.new a b) ∧ Below w.heap.size w w' := by
  have hmm := @run_makeMap Try.prog
  have q0 : (0 : Int) ≤ (q : Int) := by omega
  have q1 : (q : Int) ≤ (name.size : Int) := by omega
  have HC := Lib.hid (fun W => clone_any (name.extract 0 q) W (by rw [ByteArray.size_extract]; omega))
  have HS := Lib.hid (fun W => sizeOf_any a b W)
  clear hq1 hq2
  go_enter Try.func9, Try.ntmps9
  go_wp2_with fail
  obtain ⟨g, hg⟩ : ∃ g, g = w.heap.size := ⟨_, rfl⟩
  have hz : ∀ (W : World) (o : Obj), (W.alloc o).heap.size = W.heap.size + 1 := fun W o => World.size_alloc W o
  refine (HC.out _).mono ?_
  rintro e w5 ⟨rfl, hb5⟩
  go_wp2_with fail
  refine (HS.out _).mono ?_
  rintro e w6 ⟨rfl, hb6⟩
  have k0 : Below (w.heap.size + 1) (w.alloc (.cells #[.int .i64 0, .int .i64 3, .int .i64 24, .int .i64 31] 3)) w6 :=
    ((((Below.refl _ _).alloc (by simp) _).alloc (by simp <;> omega) _).alloc (by simp <;> omega) _).trans ((hb5.mono (by simp <;> omega)).trans (hb6.mono (by have := hb5.size; simp at this; omega)))
  have k2 : Below (w.heap.size + 1 + 1 + 1) (((w.alloc (.cells #[.int .i64 0, .int .i64 3, .int .i64 24, .int .i64 31] 3)).alloc (.map #[] 0)).alloc (.cells #[.int .i64 0, .int .i64 1, .int .i64 3] 3)) w6 :=
    ((Below.refl _ _).alloc (by simp) _).trans ((hb5.mono (by simp)).trans (hb6.mono (by have := hb5.size; simp at this; omega)))
  have I1 : Ints w6 (some ⟨w.heap.size, 0, none⟩) 4 (agreedL true) := ints_row rfl [0, 3, 24, 31] 4 rfl 3 (by decide) (by simp) k0
  have I2 : Ints w6 (some ⟨w.heap.size + 1 + 1, 0, none⟩) 3 (agreedL false) := ints_row (w := (w.alloc (.cells #[.int .i64 0, .int .i64 3, .int .i64 24, .int .i64 31] 3)).alloc (.map #[] 0)) (by simp) [0, 1, 3] 3 rfl 3 (by decide) (by simp) (by simpa using k2)
  have M1 : Sides w6 (w.heap.size + 1) 0 (fun _ => (0, false)) := (Sides.made (w.alloc (.cells #[.int .i64 0, .int .i64 3, .int .i64 24, .int .i64 31] 3)) (by simp)).keep (S := fun _ => False) (Keep.of_below _ ((((Below.refl _ _).alloc (by simp) _).alloc (by simp <;> omega) _).trans ((hb5.mono (by simp)).trans (hb6.mono (by have := hb5.size; simp at this ⊢; omega))))) (fun x => x)
  have M2 : Sides w6 (w.heap.size + 1 + 1 + 1) 0 (fun _ => (0, false)) := (Sides.made (((w.alloc (.cells #[.int .i64 0, .int .i64 3, .int .i64 24, .int .i64 31] 3)).alloc (.map #[] 0)).alloc (.cells #[.int .i64 0, .int .i64 1, .int .i64 3] 3)) (by simp)).keep (S := fun _ => False) (Keep.of_below _ (hb5.trans (hb6.mono hb5.size))) (fun x => x)
  have B6 : Below w.heap.size w w6 := ((Below.refl w.heap.size w).alloc (Nat.le_refl _) _).trans (k0.mono (by omega))
  have z6 : w.heap.size + 1 + 1 + 1 < w6.heap.size := by have h5 := hb5.size; have h6 := hb6.size; simp at h5; omega
  have HI1 := Lib.hid I1
  have HI2 := Lib.hid I2
  have HM1 := Lib.hid M1
  have HM2 := Lib.hid M2
  have HB6 := Lib.hid B6
  clear hb5 hb6 k0 k2 I1 I2 M1 M2 B6 HC HS hz
  go_wp2_with fail
  go_ret
  refine ⟨w6.heap.size, ⟨w.heap.size, w.heap.size + 1 + 1, w.heap.size + 1, w.heap.size + 1 + 1 + 1⟩, rfl, ⟨by omega, by simp <;> omega, by simp <;> omega⟩, ⟨?_, ?_, ?_, ?_, ?_, ?_⟩, HB6.out.alloc HB6.out.size _⟩
  · exact Cells.box w6 (pcs ⟨w.heap.size, w.heap.size + 1 + 1, w.heap.size + 1, w.heap.size + 1 + 1 + 1⟩ (name.extract 0 q) 0 0 (Pm.new a b)) 79
  · exact HI1.out.keepS (S := fun _ => False) ((Keep.refl _ _).alloc _) (fun x => x)
  · exact HI2.out.keepS (S := fun _ => False) ((Keep.refl _ _).alloc _) (fun x => x)
  · exact HM1.out.keep (S := fun _ => False) ((Keep.refl _ _).alloc _) (fun x => x)
  · exact HM2.out.keep (S := fun _ => False) ((Keep.refl _ _).alloc _) (fun x => x)
  · refine ⟨?_, ?_, ?_, ?_, ?_, ?_, ?_, ?_, ?_⟩ <;> simp <;> omega

end Go.Proofs.Ytmkgcmnimpkmjaa
