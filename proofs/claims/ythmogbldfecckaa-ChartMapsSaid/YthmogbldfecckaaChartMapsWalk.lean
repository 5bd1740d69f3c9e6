/- Law ChartMaps: the walk. Own work. -/
import Derived.Test.YthmogbldfecckaaChartA
namespace Go.Proofs.Ythmogbldfecckaa
set_option linter.unusedVariables false
set_option linter.unusedSimpArgs false
open Go.RowKit

set_option maxRecDepth 100000 in
set_option maxHeartbeats 1600000 in
theorem walk_ChartMaps (s : Int) (ws : (Lit.int .u8 s).wf = true) (r : Int) (wr : (Lit.int .i32 r).wf = true) (w : World) :
    Calls Try.prog 4 #[.int .u8 s, .int .i32 r] w fun e w' => e = .returned (.bool true) ∧ Below w.heap.size w w' := by
  have hb : -2147483648 ≤ r ∧ r ≤ 2147483647 := by simpa [Lit.wf, IntKind.min, IntKind.max, IntKind.signed, IntKind.bits] using wr
  have HM := Lib.hid (fun V => chart_map V s r hb)
  have HR := Lib.hid (fun V => ref_map V s r hb)
  have HM2 := Lib.hid (fun V => chart_map V 66 r hb)
  have e66 : mapM 66 r = r := by unfold mapM; rw [if_neg (fun e => absurd e.1 (by decide)), if_neg (by decide)]
  rw [e66] at HM2
  obtain ⟨z, hz⟩ : ∃ z, mapM s r = z := ⟨_, rfl⟩
  obtain ⟨k, hk⟩ : ∃ k, knownM s = k := ⟨_, rfl⟩
  have HK := Lib.hid (fun V => hk ▸ chart_known V s)
  have HKR := Lib.hid (fun V => hk ▸ ref_known V s)
  rw [hz] at HM HR
  clear hz hk e66 hb ws wr
  go_enter Try.func4, Try.ntmps4
  go_wp2_with fail
  refine (alive_any _).mono ?_
  rintro e w1 ⟨rfl, hb⟩
  have HB1 := Lib.hid hb
  clear hb
  go_wp2_with fail
  refine (HM.out _).mono ?_
  rintro e w2 ⟨rfl, hb⟩
  have HB2 := Lib.hid (HB1.out.trans (hb.mono HB1.out.size))
  clear hb HB1
  go_wp2_with fail
  refine (HR.out _).mono ?_
  rintro e w3 ⟨rfl, hb⟩
  have HB3 := Lib.hid (HB2.out.trans (hb.mono HB2.out.size))
  clear hb HB2
  go_wp2_with fail
  refine (HK.out _).mono ?_
  rintro e w4 ⟨rfl, rfl⟩
  go_wp2_with fail
  refine (HKR.out _).mono ?_
  rintro e w5 ⟨rfl, rfl⟩
  go_wp2_with fail
  refine (HM2.out _).mono ?_
  rintro e w6 ⟨rfl, hb⟩
  have HB6 := Lib.hid (HB3.out.trans (hb.mono HB3.out.size))
  clear hb HB3
  go_wp2_with fail
  go_ret
  exact ⟨rfl, HB6.out⟩

end Go.Proofs.Ythmogbldfecckaa
