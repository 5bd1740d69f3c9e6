/- Law FrameTells: the walk. Own work. -/
import Derived.Test.YtncpjapfkcgjnaaDoorFrmAlive
import Derived.Test.YtncpjapfkcgjnaaDoorFrmRefR
namespace Go.Proofs.YtncpjapfkcgjnaaDoor
set_option linter.unusedVariables false
set_option linter.unusedSimpArgs false
open Go.RowKit

/-- Behind the bytes: what both sides tell. -/
theorem frm_out (key : List UInt8) (b : List UInt8) : ∃ fw fs fb e, readL key b = (⟨fw, fs, fb⟩, e) := ⟨_, _, _, _, rfl⟩

set_option maxRecDepth 100000 in
set_option maxHeartbeats 3200000 in
theorem tells_good (key : ByteArray) (way seq : Int) (body b : ByteArray) (own : Bool) (w : World) (hw : -9223372036854775808 ≤ way ∧ way ≤ 9223372036854775807) (hs : -9223372036854775808 ≤ seq ∧ seq ≤ 9223372036854775807)
    (h1 : key.size ≤ 100) (h2 : body.size ≤ 500) (h3 : b.size ≤ 500) (hr : Roots w) :
    Calls Tryd.prog 3 #[.string key, .int .i64 way, .int .i64 seq, .string body, .string b, .bool own] w fun e w' => e = .returned (.bool true) ∧ Below w.heap.size w w' := by
  -- the bytes that are read
  obtain ⟨B, hB⟩ : ∃ B : ByteArray, B = if own = true then ⟨(sealedL key.data.toList b.data.toList).toArray⟩ else b := ⟨_, rfl⟩
  have hBs : B.size ≤ 600 := by
    rw [hB]
    split
    · rw [size_mk, sealedL, List.length_append, tagL_len, ← Lib.size_eq]; omega
    · omega
  have hlay := fun W hW => frmlay_any key way seq body W hW (by omega) hs (by unfold maxLen; omega)
  have hrlay := fun W => reflay_any key way seq body W (by omega) hw hs (by unfold maxLen; omega)
  have hrd := fun W hW => frmread_any key B W hW (by omega) (by omega)
  have hrrd := fun W => refread_any key B W (by omega) (by omega)
  obtain ⟨D, hD⟩ : ∃ D : ByteArray, D = ⟨(layL key.data.toList way seq body.data.toList).1.toArray⟩ := ⟨_, rfl⟩
  obtain ⟨d, hd⟩ : ∃ d, d = (layL key.data.toList way seq body.data.toList).2 := ⟨_, rfl⟩
  rw [← hD, ← hd] at hlay hrlay
  obtain ⟨fw, fs, fb, e, he⟩ := frm_out key.data.toList B.data.toList
  rw [he] at hrd hrrd
  have HLAY := Lib.hid hlay
  have HRLAY := Lib.hid hrlay
  have HRD := Lib.hid hrd
  have HRRD := Lib.hid hrrd
  have HR := Lib.hid hr
  have k1 : ¬ (100 < (key.size : Int)) := by omega
  have k2 : ¬ (500 < (body.size : Int)) := by omega
  have k3 : ¬ (500 < (b.size : Int)) := by omega
  have HSE := Lib.hid (fun W => refseal_any key b W (by omega) (by omega))
  clear hlay hrlay hrd hrrd hD hd he hr
  cases own
  · simp only [Bool.false_eq_true, if_false] at hB
    subst hB
    go_enter Tryd.func3, Tryd.ntmps3
    go_wp2_with fail
    refine (alive_any w HR.out).mono ?_
    rintro r w1 ⟨rfl, b1⟩
    have B1 := Lib.hid b1
    clear b1
    go_wp2_with fail
    refine (HLAY.out _ (HR.out.below B1.out)).mono ?_
    rintro r w2 ⟨rfl, b2⟩
    have B2 := Lib.hid (below_step B1.out b2)
    clear b2
    go_wp2_with fail
    refine (HRLAY.out _).mono ?_
    rintro r w3 ⟨rfl, b3⟩
    have B3 := Lib.hid (below_step B2.out b3)
    clear b3
    go_wp2_with fail
    refine (HRD.out _ (HR.out.below B3.out)).mono ?_
    rintro r w4 ⟨rfl, b4⟩
    have B4 := Lib.hid ((below_step B3.out b4).alloc (below_step B3.out b4).size (.cells #[.int .i64 fw, .int .i64 fs, .string fb] 28))
    have Q4 := Lib.hid (three_new w4 (.int .i64 fw) (.int .i64 fs) (.string fb) 28)
    clear b4
    go_wp2_with fail
    refine (HRRD.out _).mono ?_
    rintro r w5 ⟨rfl, b5⟩
    have B5 := Lib.hid ((below_step B4.out b5).alloc (below_step B4.out b5).size (.cells #[.int .i64 fw, .int .i64 fs, .string fb] 30))
    obtain ⟨q0, q1, q2, _, _, _⟩ := Q4.out.below b5
    have hz : w4.heap.size < w5.heap.size := (Q4.out.below b5).lt
    clear b5 Q4
    go_wp2_with fail
    go_ret
    exact ⟨rfl, B5.out⟩
  · rw [if_pos rfl] at hB
    have HB := Lib.hid hB
    clear hB
    go_enter Tryd.func3, Tryd.ntmps3
    go_wp2_with fail
    refine (alive_any w HR.out).mono ?_
    rintro r w1 ⟨rfl, b1⟩
    have B0 := Lib.hid b1
    clear b1
    go_wp2_with fail
    refine (HSE.out _).mono ?_
    rintro r w1s ⟨rfl, b1⟩
    rw [← HB.out]
    have B1 := Lib.hid (below_step B0.out b1)
    clear b1
    go_wp2_with fail
    refine (HLAY.out _ (HR.out.below B1.out)).mono ?_
    rintro r w2 ⟨rfl, b2⟩
    have B2 := Lib.hid (below_step B1.out b2)
    clear b2
    go_wp2_with fail
    refine (HRLAY.out _).mono ?_
    rintro r w3 ⟨rfl, b3⟩
    have B3 := Lib.hid (below_step B2.out b3)
    clear b3
    go_wp2_with fail
    refine (HRD.out _ (HR.out.below B3.out)).mono ?_
    rintro r w4 ⟨rfl, b4⟩
    have B4 := Lib.hid ((below_step B3.out b4).alloc (below_step B3.out b4).size (.cells #[.int .i64 fw, .int .i64 fs, .string fb] 28))
    have Q4 := Lib.hid (three_new w4 (.int .i64 fw) (.int .i64 fs) (.string fb) 28)
    clear b4
    go_wp2_with fail
    refine (HRRD.out _).mono ?_
    rintro r w5 ⟨rfl, b5⟩
    have B5 := Lib.hid ((below_step B4.out b5).alloc (below_step B4.out b5).size (.cells #[.int .i64 fw, .int .i64 fs, .string fb] 30))
    obtain ⟨q0, q1, q2, _, _, _⟩ := Q4.out.below b5
    have hz : w4.heap.size < w5.heap.size := (Q4.out.below b5).lt
    clear b5 Q4
    go_wp2_with fail
    go_ret
    exact ⟨rfl, B5.out⟩

set_option maxRecDepth 100000 in
set_option maxHeartbeats 1600000 in
theorem walk_FrameTells (key : ByteArray) (hk : key.size ≤ maxLen) (way : Int) (hw : (Lit.int .i64 way).wf = true) (seq : Int) (hs : (Lit.int .i64 seq).wf = true) (body : ByteArray) (hb : body.size ≤ maxLen) (b : ByteArray) (hb2 : b.size ≤ maxLen) (own : Bool) (w : World) (hr : Roots w) :
    Calls Tryd.prog 3 #[.string key, .int .i64 way, .int .i64 seq, .string body, .string b, .bool own] w fun e w' => e = .returned (.bool true) ∧ Below w.heap.size w w' := by
  unfold maxLen at hk hb hb2
  by_cases h1 : 100 < key.size
  · have h1' : (100 : Int) < (key.size : Int) := by omega
    have HR := Lib.hid hr
    clear hr hw hs
    go_enter Tryd.func3, Tryd.ntmps3
    go_wp2_with fail
    refine (alive_any w HR.out).mono ?_
    rintro r w1 ⟨rfl, b1⟩
    go_wp2_with fail
    go_ret
    exact ⟨rfl, b1⟩
  by_cases h2 : 500 < body.size
  · have h1' : ¬ (100 : Int) < (key.size : Int) := by omega
    have h2' : (500 : Int) < (body.size : Int) := by omega
    have HR := Lib.hid hr
    clear hr hw hs
    go_enter Tryd.func3, Tryd.ntmps3
    go_wp2_with fail
    refine (alive_any w HR.out).mono ?_
    rintro r w1 ⟨rfl, b1⟩
    go_wp2_with fail
    go_ret
    exact ⟨rfl, b1⟩
  by_cases h3 : 500 < b.size
  · have h1' : ¬ (100 : Int) < (key.size : Int) := by omega
    have h2' : ¬ (500 : Int) < (body.size : Int) := by omega
    have h3' : (500 : Int) < (b.size : Int) := by omega
    have HR := Lib.hid hr
    clear hr hw hs
    go_enter Tryd.func3, Tryd.ntmps3
    go_wp2_with fail
    refine (alive_any w HR.out).mono ?_
    rintro r w1 ⟨rfl, b1⟩
    go_wp2_with fail
    go_ret
    exact ⟨rfl, b1⟩
  exact tells_good key way seq body b own w (wf_bounds hw) (wf_bounds hs) (by omega) (by omega) (by omega) hr

end Go.Proofs.YtncpjapfkcgjnaaDoor
