/- Package pontoonlaw16: alive. Own work. -/
import Derived.Test.YthmogbldfecckaaChartQ
namespace Go.Proofs.Ythmogbldfecckaa
set_option linter.unusedVariables false
set_option linter.unusedSimpArgs false
open Go.RowKit

set_option maxRecDepth 100000 in
set_option maxHeartbeats 1600000 in
theorem alive_any (w : World) :
    Calls Try.prog 6 #[] w fun e w' => e = .returned (.bool true) ∧ Below w.heap.size w w' := by
  go_enter Try.func6, Try.ntmps6
  go_wp2_with fail
  refine (chart_new w 20 20 rfl).mono ?_
  rintro e w1 ⟨rfl, hs, hb⟩
  have n0 : nextL (newL 20) 0 = 8 := by decide
  have n1 : nextL (newL 20) 8 = 16 := by decide
  have n2 : nextL (newL 20) 16 = 19 := by decide
  have m0 : mapM 48 113 = 9472 := by decide
  have HN0 := Lib.hid (n0 ▸ chart_next _ _ _ _ _ _ 0 hs)
  have HN1 := Lib.hid (n1 ▸ chart_next _ _ _ _ _ _ 8 hs)
  have HN2 := Lib.hid (n2 ▸ chart_next _ _ _ _ _ _ 16 hs)
  have HM := Lib.hid (m0 ▸ chart_map w1 48 113 (by omega))
  have HB := Lib.hid hb
  clear hs hb n0 n1 n2 m0
  go_wp2_with fail
  refine HN0.out.mono ?_
  rintro e w2 ⟨rfl, rfl⟩
  go_wp2_with fail
  refine HN1.out.mono ?_
  rintro e w3 ⟨rfl, rfl⟩
  go_wp2_with fail
  refine HN2.out.mono ?_
  rintro e w4 ⟨rfl, rfl⟩
  go_wp2_with fail
  refine HM.out.mono ?_
  rintro e w5 ⟨rfl, hm⟩
  have HB5 := Lib.hid (HB.out.trans (hm.mono HB.out.size))
  clear hm HN0 HN1 HN2 HM HB
  go_wp2_with fail
  refine (chart_known _ 66).mono ?_
  rintro e w6 ⟨rfl, rfl⟩
  go_wp2_with fail
  go_ret
  exact ⟨rfl, HB5.out⟩

end Go.Proofs.Ythmogbldfecckaa
