/- The laws' first call. Own work. -/
import Derived.Test.YtcpdeeiopoghiaaHeard
namespace Go.Proofs.Ytcpdeeiopoghiaa
set_option linter.unusedVariables false
set_option linter.unusedSimpArgs false
open Go.RowKit

set_option maxHeartbeats 800000 in
theorem alive_any (w : World) : Calls Try.prog 7 #[] w fun e w' => e = .returned (.bool true) ∧ Below w.heap.size w w' := by
  have H1 := Lib.hid fun W => side_ask 0 false true W rfl
  have H2 := Lib.hid fun W => side_heard 3 false false true W rfl
  go_enter Try.func7, Try.ntmps7
  go_wp2_with fail
  refine (H1.out _).mono ?_
  rintro e w1 ⟨rfl, hb⟩
  simp only [askL, if_true, if_false, Int.reduceEq]
  have HB := Lib.hid hb
  clear hb
  go_wp2_with fail
  refine (H2.out _).mono ?_
  rintro e w2 ⟨rfl, hb⟩
  simp only [heardL, heardOffL, if_true, if_false, Int.reduceEq, Bool.false_eq_true]
  have hc : ∀ o, w2.cell? ⟨w1.heap.size, o, none⟩ = (w1.alloc (.cells #[.int .i64 3, .bool false] 26)).cell? ⟨w1.heap.size, o, none⟩ := fun o => hb.cell (p := ⟨w1.heap.size, o, none⟩) (by simp)
  have HB2 := Lib.hid (((HB.out.alloc HB.out.size _).trans (hb.mono (by have := HB.out.size; simp; omega))))
  have hz : w1.heap.size < w2.heap.size := by have := hb.size; simp at this; omega
  clear hb
  go_wp2_with fail
  go_ret
  refine ⟨rfl, ?_⟩
  repeat (first | exact HB2.out | (refine Below.setCell ?_ (by have := HB.out.size; have := HB2.out.size; simp; omega) _) | (refine Below.alloc ?_ (by have := HB2.out.size; simp; omega) _))

end Go.Proofs.Ytcpdeeiopoghiaa
