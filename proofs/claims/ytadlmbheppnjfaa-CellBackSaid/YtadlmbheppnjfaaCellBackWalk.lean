/- Law CellBack: the walk. Own work. -/
import Derived.Test.YtadlmbheppnjfaaCellRd
import Derived.Test.YtadlmbheppnjfaaCellRead
namespace Go.Proofs.Ytadlmbheppnjfaa
set_option linter.unusedVariables false
set_option linter.unusedSimpArgs false
open Go.RowKit

set_option maxRecDepth 100000 in
set_option maxHeartbeats 6400000 in
theorem walk_CellBack (c : CellM) (wc : c.wf) (S : ByteArray) (wS : S.size ≤ maxLen) (w : World) :
    Calls Try.prog 4 #[c.v, .string S] w fun e w' => e = .returned (.bool true) ∧ Below w.heap.size w w' := by
  obtain ⟨r, ⟨f, g, b, u, i⟩⟩ := c
  obtain ⟨O, hO⟩ : ∃ O, O = Obj.cells #[.int .i32 r, .int .i64 f, .int .i64 g, .bool b, .bool u, .bool i] 26 (0, 0) := ⟨_, rfl⟩
  have HO := Lib.hid hO
  have early : (S.size : Int) > 100 ∨ (¬ (S.size : Int) > 100 ∧ r < 0) ∨ (¬ (S.size : Int) > 100 ∧ ¬ r < 0 ∧ r > 1114111) → Calls Try.prog 4 #[(⟨r, ⟨f, g, b, u, i⟩⟩ : CellM).v, .string S] w fun e w' => e = .returned (.bool true) ∧ Below w.heap.size w w' := by
    intro h
    simp only [CellM.v]
    rcases h with h | ⟨h0, h⟩ | ⟨h0, h1, h⟩
    all_goals
      go_enter Try.func4, Try.ntmps4
      go_wp2_with fail
      refine (alive_any _).mono ?_
      rintro e w1 ⟨rfl, hb⟩
      have HB1 : Hid (Below w.heap.size w w1) := Lib.hid ((below_box ..).trans (hb.mono (by simp)))
      clear hb
      go_wp2_with fail
      go_ret
      exact ⟨rfl, HB1.out⟩
  by_cases h1 : (S.size : Int) > 100
  · exact early (.inl h1)
  by_cases h2 : r < 0
  · exact early (.inr (.inl ⟨h1, h2⟩))
  by_cases h3 : r > 1114111
  · exact early (.inr (.inr ⟨h1, h2, h3⟩))
  clear early
  simp only [CellM.v]
  by_cases h4 : ¬ At.ok ⟨f, g, b, u, i⟩
  · go_enter Try.func4, Try.ntmps4
    go_wp2_with fail
    refine (ref_valid ⟨f, g, b, u, i⟩ _ false (decide_eq_false h4)).mono ?_
    rintro e w1 ⟨rfl, hb⟩
    have HB1 : Hid (Below w.heap.size w w1) := Lib.hid ((below_box ..).trans (hb.mono (by simp)))
    clear hb
    go_wp2_with fail
    refine (alive_any _).mono ?_
    rintro e w2 ⟨rfl, hb⟩
    have HB2 : Hid (Below w.heap.size w w2) := Lib.hid (HB1.out.trans (hb.mono HB1.out.size))
    clear hb
    go_wp2_with fail
    go_ret
    exact ⟨rfl, HB2.out⟩
  have h4 := Decidable.not_not.1 h4
  have HOK := Lib.hid h4
  obtain ⟨n, rfl⟩ : ∃ n : Nat, r = (n : Int) := ⟨r.toNat, by omega⟩
  obtain ⟨p, hp⟩ : ∃ p, p = w.heap.size := ⟨_, rfl⟩
  have HP := Lib.hid hp
  have HLay := Lib.hid (fun V => cell_lay_low ⟨n, ⟨f, g, b, u, i⟩⟩ V h4 n (by omega) rfl (by simp))
  simp only [CellM.v] at HLay
  have hk1 : 1 ≤ (enc n).length := enc_pos n
  have hk2 : (enc n).length ≤ 3 := enc_length 2 n (by omega)
  obtain ⟨L, hL⟩ : ∃ L : ByteArray, L = ⟨(layL n ⟨f, g, b, u, i⟩).toArray⟩ := ⟨_, rfl⟩
  rw [← hL] at HLay
  have hLs : L.size = (enc n).length + 3 := by rw [hL, size_mk]; simp [layL]
  obtain ⟨T, hT⟩ : ∃ T : ByteArray, T = L ++ S := ⟨_, rfl⟩
  have hTT : T = ⟨(enc n ++ (UInt8.ofNat f.toNat :: UInt8.ofNat g.toNat :: UInt8.ofNat (At.marks ⟨f, g, b, u, i⟩) :: S.data.toList)).toArray⟩ := by
    rw [hT, hL]
    apply ByteArray.ext
    simp [layL]
  have HRd := Lib.hid (fun V => read_laid n (by omega) f g b u i h4 S.data.toList (by simp; have : S.data.size = S.size := rfl; omega) T hTT V)
  obtain ⟨k, hk⟩ : ∃ k, k = (enc n).length + 3 := ⟨_, rfl⟩
  rw [← hk] at HRd hLs
  have hk4 : 4 ≤ (k : Int) := by omega
  have hk6 : (k : Int) ≤ 6 := by omega
  have HT := Lib.hid hT
  clear h4 hp wc hO hk hk1 hk2 hL hTT hT
  go_enter Try.func4, Try.ntmps4
  go_wp2_with fail
  refine (ref_valid ⟨f, g, b, u, i⟩ _ true (decide_eq_true HOK.out)).mono ?_
  rintro e w1 ⟨rfl, hb⟩
  have HB1 : Hid (Below w.heap.size w w1) := Lib.hid ((below_box ..).trans (hb.mono (by simp)))
  have HX1 : Hid (w1.heap[p]? = some O) := Lib.hid (by rw [HP.out, HO.out]; exact (hb.block _ (by simp)).trans (heap_alloc_new w _))
  clear hb
  go_wp2_with fail
  refine (alive_any _).mono ?_
  rintro e w2 ⟨rfl, hb⟩
  have HB2 : Hid (Below w.heap.size w w2) := Lib.hid (HB1.out.trans (hb.mono HB1.out.size))
  have HX2 : Hid (w2.heap[p]? = some O) := Lib.hid ((hb.block _ (lt_heap HX1.out)).trans HX1.out)
  clear hb
  have hx2 := HX2.out
  rw [HO.out] at hx2
  have d0 : w2.cell? ⟨p, 0, none⟩ = some (.int .i32 n) := cell_at hx2 0
  have d1 : w2.cell? ⟨p, 1, none⟩ = some (.int .i64 f) := cell_at hx2 1
  have d2 : w2.cell? ⟨p, 2, none⟩ = some (.int .i64 g) := cell_at hx2 2
  have d3 : w2.cell? ⟨p, 3, none⟩ = some (.bool b) := cell_at hx2 3
  have d4 : w2.cell? ⟨p, 4, none⟩ = some (.bool u) := cell_at hx2 4
  have d5 : w2.cell? ⟨p, 5, none⟩ = some (.bool i) := cell_at hx2 5
  clear hx2 HB1 HX1
  rw [← HP.out]
  go_wp2_with fail
  refine (HLay.out _).mono ?_
  rintro e w3 ⟨rfl, hb⟩
  have HB3 : Hid (Below w.heap.size w w3) := Lib.hid (HB2.out.trans (hb.mono HB2.out.size))
  have HX3 : Hid (w3.heap[p]? = some O) := Lib.hid ((hb.block _ (lt_heap HX2.out)).trans HX2.out)
  clear hb d0 d1 d2 d3 d4 d5 HB2 HX2
  go_wp2_with fail
  rw [← HT.out]
  refine (HRd.out _).mono ?_
  rintro e w4 ⟨rfl, hb⟩
  have HB4 : Hid (Below w.heap.size w w4) := Lib.hid (HB3.out.trans (hb.mono HB3.out.size))
  have HX4 : Hid (w4.heap[p]? = some O) := Lib.hid ((hb.block _ (lt_heap HX3.out)).trans HX3.out)
  clear hb HB3 HX3
  have hx2 := HX4.out
  rw [HO.out] at hx2
  have d0 : w4.cell? ⟨p, 0, none⟩ = some (.int .i32 n) := cell_at hx2 0
  have d1 : w4.cell? ⟨p, 1, none⟩ = some (.int .i64 f) := cell_at hx2 1
  have d2 : w4.cell? ⟨p, 2, none⟩ = some (.int .i64 g) := cell_at hx2 2
  have d3 : w4.cell? ⟨p, 3, none⟩ = some (.bool b) := cell_at hx2 3
  have d4 : w4.cell? ⟨p, 4, none⟩ = some (.bool u) := cell_at hx2 4
  have d5 : w4.cell? ⟨p, 5, none⟩ = some (.bool i) := cell_at hx2 5
  clear hx2
  have hp4 : p < w4.heap.size := lt_heap HX4.out
  go_wp2_with fail
  go_ret
  exact ⟨rfl, HB4.out.alloc HB4.out.size _⟩

end Go.Proofs.Ytadlmbheppnjfaa
