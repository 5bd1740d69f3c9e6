/- Law BoardPlays: what is cut off, and the rest. Own work. -/
import Derived.Test.YtkhhmnmemdadmaaGreatBoardPlaysWalk
namespace Go.Proofs.YtkhhmnmemdadmaaGreat
set_option linter.unusedVariables false
open Go.RowKit Go.Maps

set_option maxRecDepth 100000 in
set_option maxHeartbeats 3200000 in
theorem walk_BoardPlays (A : Option Addr) (n c : Nat) (ss : List ByteArray) (A2 : Option Addr) (m c2 : Nat) (ns : List Int) (ask : ByteArray) (hask : ask.size ≤ maxLen) (w : World) (hss : Strs w A n ss) (hns : Ints w A2 m ns) :
    Calls Tryz.prog 3 #[.slice A n c, .slice A2 m c2, .string ask] w fun e w' => e = .returned (.bool true) ∧ Below w.heap.size w w' := by
  have h1 := hss.2.2.2
  have h2 := hns.2.2.2
  unfold maxLen at h1 h2
  by_cases h40 : n ≤ 40
  · by_cases hmn : n ≤ m
    · exact bplays_good A n c ss A2 m c2 ns ask w hss hns hask h40 hmn
    · clear hss hns hask
      have hd1 : decide (40 < (n : Int)) = false := by simp; omega
      have hd2 : decide (m < n) = true := by simp; omega
      go_enter Tryz.func3, Tryz.ntmps3
      go_wp2_with fail
      refine (talive_any _).mono ?_
      rintro r w1 ⟨rfl, hb⟩
      go_wp2_with fail
      go_ret
      exact ⟨rfl, hb⟩
  · clear hss hns hask
    have hd1 : decide (40 < (n : Int)) = true := by simp; omega
    go_enter Tryz.func3, Tryz.ntmps3
    go_wp2_with fail
    refine (talive_any _).mono ?_
    rintro r w1 ⟨rfl, hb⟩
    go_wp2_with fail
    go_ret
    exact ⟨rfl, hb⟩

end Go.Proofs.YtkhhmnmemdadmaaGreat
