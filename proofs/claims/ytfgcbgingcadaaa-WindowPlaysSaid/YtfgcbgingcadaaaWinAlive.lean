/- The laws' first call. Own work. -/
import Derived.Test.YtfgcbgingcadaaaWinMark
namespace Go.Proofs.Ytfgcbgingcadaaa
set_option linter.unusedVariables false
set_option linter.unusedSimpArgs false
open Go.RowKit

theorem win_take (t : Int) (s : Nat) (n : Int) (t' : Int) (s' : Nat) (w : World) (hs : s < 18446744073709551616) (h0 : 0 ≤ t) (h1 : t ≤ 4611686018427387904) (hf : freshB t s n = true) (ht : max t n = t') (hs' : markS t s n = s') :
    Calls Try.prog 10 #[.agg #[.int .i64 t, .int .u64 (s : Int)], .int .i64 n] w fun e w' => e = .returned (.tuple #[.agg #[.int .i64 t', .int .u64 (s' : Int)], .bool true]) ∧ Below w.heap.size w w' := by
  subst ht hs'
  simpa [hf] using win_mark t s n w hs h0 h1

theorem win_fresh_is (t : Int) (s : Nat) (n : Int) (b : Bool) (w : World) (hs : s < 18446744073709551616) (h0 : 0 ≤ t) (h1 : t ≤ 4611686018427387904) (hf : freshB t s n = b) :
    Calls Try.prog 8 #[.agg #[.int .i64 t, .int .u64 (s : Int)], .int .i64 n] w fun e w' => e = .returned (.bool b) ∧ Below w.heap.size w w' := by
  subst hf
  exact win_fresh t s n w hs h0 h1

/-- Mark at the zero window, spelt as the walk spells it. -/
theorem take_5 (w : World) : Calls Try.prog 10 #[.agg #[.int .i64 0, .int .u64 0], .int .i64 5] w fun e w' => e = .returned (.tuple #[.agg #[.int .i64 5, .int .u64 1], .bool true]) ∧ Below w.heap.size w w' :=
  win_take 0 0 5 5 1 w (by omega) (by omega) (by omega) (by decide) (by decide) (by decide)
theorem take_3 (w : World) : Calls Try.prog 10 #[.agg #[.int .i64 5, .int .u64 1], .int .i64 3] w fun e w' => e = .returned (.tuple #[.agg #[.int .i64 5, .int .u64 5], .bool true]) ∧ Below w.heap.size w w' :=
  win_take 5 1 3 5 5 w (by omega) (by omega) (by omega) (by decide) (by decide) (by decide)
theorem fresh_5 (w : World) : Calls Try.prog 8 #[.agg #[.int .i64 5, .int .u64 5], .int .i64 5] w fun e w' => e = .returned (.bool false) ∧ Below w.heap.size w w' :=
  win_fresh_is 5 5 5 false w (by omega) (by omega) (by omega) (by decide)
theorem fresh_4 (w : World) : Calls Try.prog 8 #[.agg #[.int .i64 5, .int .u64 5], .int .i64 4] w fun e w' => e = .returned (.bool true) ∧ Below w.heap.size w w' :=
  win_fresh_is 5 5 4 true w (by omega) (by omega) (by omega) (by decide)

set_option maxHeartbeats 400000 in
theorem alive_any (w : World) : Calls Try.prog 7 #[] w fun e w' => e = .returned (.bool true) ∧ Below w.heap.size w w' := by
  go_enter Try.func7, Try.ntmps7
  go_wp2_with fail
  refine (take_5 _).mono ?_
  rintro e w1 ⟨rfl, hb⟩
  have HB := Lib.hid hb
  clear hb
  go_wp2_with fail
  refine (take_3 _).mono ?_
  rintro e w2 ⟨rfl, hb⟩
  have HB2 := Lib.hid (((HB.out.alloc HB.out.size _).trans (hb.mono (by have := HB.out.size; simp; omega))))
  clear HB hb
  go_wp2_with fail
  refine (fresh_5 _).mono ?_
  rintro e w3 ⟨rfl, hb⟩
  have hc : ∀ o, w3.cell? ⟨w2.heap.size, o, none⟩ = (w2.alloc (.cells #[.int .i64 5, .int .u64 5] 26)).cell? ⟨w2.heap.size, o, none⟩ := fun o => hb.cell (p := ⟨w2.heap.size, o, none⟩) (by simp)
  have HB3 := Lib.hid (((HB2.out.alloc HB2.out.size _).trans (hb.mono (by have := HB2.out.size; simp; omega))))
  clear HB2 hb
  go_wp2_with fail
  refine (fresh_4 _).mono ?_
  rintro e w4 ⟨rfl, hb⟩
  have HB4 := Lib.hid (HB3.out.trans (hb.mono HB3.out.size))
  clear HB3 hb hc
  go_wp2_with fail
  go_ret
  exact ⟨rfl, HB4.out⟩

end Go.Proofs.Ytfgcbgingcadaaa
