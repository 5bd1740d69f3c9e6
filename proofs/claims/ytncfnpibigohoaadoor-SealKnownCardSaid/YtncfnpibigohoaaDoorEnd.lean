/- end, hash. Own work. -/
import Derived.Test.YtncfnpibigohoaaDoorHash
namespace Go.Proofs.YtncfnpibigohoaaDoor
set_option linter.unusedVariables false
open Go.RowKit

theorem endOf_len (size : Nat) : (endOf size).length = 9 + (119 - size % 64) % 64 := by
  simp [endOf, be_len]; omega

theorem padded_len (l : List UInt8) : (padded l).length ≤ l.length + 72 := by
  unfold padded
  rw [List.length_append, endOf_len]
  omega

/-- The first k words, in bytes. -/
def outK (s : St) (k : Nat) : List UInt8 := (s.words.take k).flatMap fun x => be x.nat 4

theorem outK_len (s : St) (k : Nat) (h : k ≤ 8) : (outK s k).length = 4 * k := by
  unfold outK
  rw [List.length_flatMap]
  simp only [be_len]
  rw [List.map_const', List.sum_replicate_nat, List.length_take, words_length]
  omega

theorem outK_step (s : St) (k : Nat) (h : k < 8) : outK s (k + 1) = outK s k ++ be (s.at k).nat 4 := by
  unfold outK
  rw [take_next (st_at h)]
  simp

theorem outK_all (s : St) : outK s 8 = outOf s := rfl

set_option maxRecDepth 100000 in
set_option maxHeartbeats 1600000 in
theorem end_any (p : Nat) (l : List UInt8) (w : World) (h : MsgL w p l) (hr : Roots w) (hl : l.length ≤ 900000) :
    Calls Tryd.prog 26 #[.pointer (some ⟨p, 0, none⟩)] w fun r w' => r = .returned (.string ⟨(digest l).toArray⟩) ∧ Keep (· = p) w w' := by
  have H := Lib.hid h
  obtain ⟨q, hq, _⟩ := h
  have hp0 := hq.ne_roots hr
  have c72 := hq.size_at
  have HR := Lib.hid hr
  have HP0 := Lib.hid hp0
  have hplt := hq.lt
  have hel := endOf_len l.length
  have hes : (⟨(endOf l.length).toArray⟩ : ByteArray).size ≤ 72 := by rw [size_mk]; omega
  clear hq hp0 hr hel
  go_enter Tryd.func26, Tryd.ntmps26
  go_wp2_with fail
  refine (ending_any l.length w (by omega)).mono ?_
  rintro r w1 ⟨rfl, hb⟩
  have HB := Lib.hid hb
  clear hb c72
  go_wp2_with fail
  refine (take_any p l ⟨(endOf l.length).toArray⟩ w1 (H.out.below HB.out) (HR.out.below HB.out) (by omega)).mono ?_
  rintro r w2 ⟨rfl, hm, hk⟩
  have hm' : MsgL w2 p (padded l) := hm
  obtain ⟨part, hm2, _⟩ := hm'
  obtain ⟨s, hs⟩ : ∃ s, s = run (padded l) ((padded l).length / 64) := ⟨_, rfl⟩
  rw [← hs] at hm2
  have HM := Lib.hid hm2
  have HK := Lib.hid hk
  have HS : Hid (outOf s = digest l) := by show outOf s = outOf _; rw [hs]
  have HI : Hid ((Tryd.prog.info? 49).map (·.size) = some (wcells s.words).length) := by show _ = _; rw [state_info, wcells_length, words_length]
  clear hm hk hm2 hs
  obtain ⟨WA, hWA⟩ : ∃ WA, WA = (wcells s.words).toArray := ⟨_, rfl⟩
  have hix : ∀ k : Nat, k < 8 → ∀ W, (Instr.index 49 (.agg WA) (.int .i64 (k : Int))).run Tryd.prog W = .ok (.int .u32 (s.at k).n) W := fun k hk W => by rw [hWA]; exact index_word s hk
  have HX := Lib.hid hix
  have HWA := Lib.hid hWA
  clear hix hWA
  have hon := World.ownsRow_nil w2 w2.heap.size 5 1
  go_wp2_with (refine wpList_load_mid rfl 49 (.tmp 15) rfl p 0 rfl (wcells s.words) _ HM.out.state_range Tryd.underlying49 rfl HI.out ?_; rw [← HWA.out])
  obtain ⟨B, hB⟩ : ∃ B, B = w2.heap.size := ⟨_, rfl⟩
  have HBe := Lib.hid hB
  rw [← hB] at hon
  clear hB
  go_loopw [3, 17] (fun v i wr => ∃ k : Nat, k ≤ 8 ∧ i = .int .i64 k ∧ Hid (OwnB wr B v (outK s k)) ∧ Hid (Below B w2 wr)) (fun _ i _ => 8 - (intOf i).toNat)
  case atStart => exact ⟨0, by omega, rfl, hon, Below.refl _ _⟩
  case round =>
    obtain ⟨k, hk, rfl, HO, HBw⟩ := hrel
    obtain ⟨A1, c1, rfl, _⟩ := own_form HO.out
    by_cases hlt : k < 8
    · have hi := HX.out k hlt
      have hol := outK_len s k hk
      have hst := outK_step s k hlt
      have HST := Lib.hid hst
      have HOL := Lib.hid hol
      have hbd := (s.at k).n_bd
      have hlt' := (s.at k).lt
      generalize s.at k = x at hi HST hbd hlt'
      clear hst hol
      go_wp2_with fail
      refine (lay_any B (.slice A1 (outK s k).length c1) (outK s k) x.nat 4 wr HO.out (by rw [HBe.out]; exact HBw.out.size) (by omega) (by omega) (by omega) (by rw [HOL.out]; omega)).mono ?_
      rintro r w3 ⟨v, rfl, ho, hb⟩
      obtain ⟨A2, c2, rfl, _⟩ := own_form ho
      rw [← HST.out] at ho ⊢
      have HO3 := Lib.hid ho
      have HB3 := Lib.hid (HBw.out.trans hb)
      clear ho hb
      go_wp2_with fail
      go_roundw
      case rel => exact ⟨k + 1, by omega, by go_num, HO3.out, HB3.out⟩
      case measure => simp [intOf]; omega
    · obtain rfl : k = 8 := by omega
      have hcv := run_own_string (P := Tryd.prog) (t := 34) (u := 9) HO.out Tryd.underlying34 Tryd.underlying5 Tryd.underlying9
      go_wp2_with fail
      go_ret
      refine ⟨by rw [← HS.out]; rfl, ?_⟩
      exact ((Keep.of_below _ HB.out).trans HK.out (fun _ _ e => e)).trans (Keep.of_below (fun _ => False) (by rw [← HBe.out]; exact HBw.out)) (fun _ _ e => e.elim)

end Go.Proofs.YtncfnpibigohoaaDoor
