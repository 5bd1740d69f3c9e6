/- utf.Reader in memory: goOn, take. Own work. -/
import Derived.Test.YtoihadjboeeglaaUtfB
import Derived.Deep.RegionLaw
import Derived.Deep.Cut
namespace Go.Proofs.Ytoihadjboeeglaa
set_option linter.unusedVariables false
set_option linter.unusedSimpArgs false
open Go.RowKit

set_option maxRecDepth 100000 in
set_option maxHeartbeats 1600000 in
theorem utf_goOn_end (p o B : Nat) (v : Value) (xs : List Int) (s : St) (b : Nat) (w : World) (h : RdU w p o s) (hv : w.ownsRow B 21 1 v xs.length (xs.map (Value.int .i32))) (hp : ∀ k, v.ownBlock = some k → k ≠ p) (hB : B ≤ w.heap.size) (hl : xs.length ≤ 1099511627776) (hb : b < 256) (h1 : s.left = 1) :
    Calls Try.prog 63 #[.pointer (some ⟨p, o, none⟩), v, .int .u8 (b : Int)] w (LRes p o B v xs w (onward s b)) := by
  obtain ⟨i0, hi0, hz0, hz1, hz2⟩ := info_parts rune_info
  have H := Lib.hid h
  have HV := Lib.hid hv
  have HP := Lib.hid hp
  have hvl := h.ok.v_lt
  have c0 := h.c0.1
  have c1 := h.c1.1
  have c2 := h.c2.1
  have c3 := h.c3.1
  have c4 := h.c4.1
  have f0 := h.c0.2
  have f1 := h.c1.2
  have f2 := h.c2.2
  have f3 := h.c3.2
  have f4 := h.c4.2
  have hm := and63 b hb
  obtain ⟨r, hr⟩ : ∃ r, b % 64 = r := ⟨_, rfl⟩
  obtain ⟨m, hm2⟩ : ∃ m, s.v * 64 = m := ⟨_, rfl⟩
  obtain ⟨n, hn⟩ : ∃ n, m + r = n := ⟨_, rfl⟩
  have hrl : r < 64 := by omega
  have hml : m < 16777216 := by omega
  rw [hr] at hm
  have hw1 : IntKind.i32.wrap ((s.v : Int) * 64) = (m : Int) := by rw [IntKind.wrap_i32]; omega
  have hw2 := i32_nat r (by omega)
  have hor : bits .or .i32 (m : Int) (r : Int) = (n : Int) := (i32_or6 (x := (m : Int)) (y := (r : Int)) (by omega) (by omega) (by omega) (by omega) (by omega)).trans (by omega)
  have HF : Hid (onward s b = (.z, [n])) := by
    show _ = _
    unfold onward
    rw [if_pos h1, hr, hm2, hn]
  have hl1 : ((s.left : Int) == 1) = true := by simp; omega
  clear h hv hp hvl hr hm2 hn h1 hrl hml
  go_enter Try.func63, Try.ntmps63
  go_upto_region 4 with fail
  obtain ⟨w1, hw⟩ : ∃ w1, w1 = ((((w.setCell ⟨p, o, none⟩ (.int .i32 0)).setCell ⟨p, o + 1, none⟩ (.int .i64 0)).setCell ⟨p, o + 2, none⟩ (.int .i64 0)).setCell ⟨p, o + 3, none⟩ (.int .u8 0)).setCell ⟨p, o + 4, none⟩ (.int .u8 0) := ⟨_, rfl⟩
  have HW := Lib.hid hw
  rw [← hw]
  clear hw c0 c1 c2 c3 c4 f0 f1 f2 f3 f4
  have K1 : Hid (Keep (fun k => k = p) w w1) := by
    show Keep _ _ _
    rw [HW.out]; exact keep_put w p o _ _ _ _ _
  have R1 : Hid (RdU w1 p o .z) := by
    show RdU _ _ _ _
    rw [HW.out]; exact H.out.put .z .z
  have V1 : Hid (w1.ownsRow B 21 1 v xs.length (xs.map (Value.int .i32))) := own_keep HV.out K1.out (fun k hk e => HP.out k hk e)
  have hz1' := K1.out.size
  go_wp2_with (at_builtin; refine wpList_own_more _ rfl (.tmp 25) (.tmp 27) 46 rfl B w1.heap.size 21 i0 (.int .i32 0) 1 4 Try.underlying46 hi0 hz0 hz1 hz2 rfl (by decide) _ _ _ 1 _ [.int .i32 (n : Int)] rfl rfl (own_keep V1.out ((Keep.refl (fun _ => False) w1).alloc _) (fun _ _ x => x)) (own_new1 _ _ _ rfl (Nat.le_refl _)) ?c2 ?c3 ?c4 ?c5 ?_)
  case c2 => first | rfl | (intro u hu; simp at hu; subst hu; rfl)
  case c3 => unfold maxLen; omega
  case c4 => omega
  case c5 => first | omega | (simp; omega)
  intro v' w2 hown hkeep hat
  have HO := Lib.hid hown
  have HK := Lib.hid hkeep
  have HA := Lib.hid hat
  clear hown hkeep hat
  go_wp2_with fail
  go_ret
  rw [HF.out]
  exact LRes.one (s := .z) (R1.out.alloc _) (K1.out.alloc _) HP.out HO.out HK.out (fun k hk => by have := HA.out k hk; simpa using this)

set_option maxRecDepth 100000 in
set_option maxHeartbeats 1600000 in
theorem utf_goOn_more (p o B : Nat) (v : Value) (xs : List Int) (s : St) (b : Nat) (w : World) (h : RdU w p o s) (hv : w.ownsRow B 21 1 v xs.length (xs.map (Value.int .i32))) (hp : ∀ k, v.ownBlock = some k → k ≠ p) (hb : b < 256) (h0 : 0 < s.half) (h1 : s.left ≠ 1) :
    Calls Try.prog 63 #[.pointer (some ⟨p, o, none⟩), v, .int .u8 (b : Int)] w (LRes p o B v xs w (onward s b)) := by
  have H := Lib.hid h
  have HV := Lib.hid hv
  have HP := Lib.hid hp
  have hvl := h.ok.v_lt
  have hok := h.ok.onward h0 b
  have hst : 2 ≤ s.left ∧ s.left ≤ 3 ∧ s.half ≤ 3 := by
    rcases h.ok with e | e
    · rw [e] at h0; simp [St.z] at h0
    · omega
  have c0 := h.c0.1
  have c1 := h.c1.1
  have c2 := h.c2.1
  have c3 := h.c3.1
  have c4 := h.c4.1
  have f0 := h.c0.2
  have f1 := h.c1.2
  have f2 := h.c2.2
  have f3 := h.c3.2
  have f4 := h.c4.2
  have hm := and63 b hb
  obtain ⟨r, hr⟩ : ∃ r, b % 64 = r := ⟨_, rfl⟩
  obtain ⟨m, hm2⟩ : ∃ m, s.v * 64 = m := ⟨_, rfl⟩
  obtain ⟨n, hn⟩ : ∃ n, m + r = n := ⟨_, rfl⟩
  have hrl : r < 64 := by omega
  have hml : m < 16777216 := by omega
  rw [hr] at hm
  have hw1 : IntKind.i32.wrap ((s.v : Int) * 64) = (m : Int) := by rw [IntKind.wrap_i32]; omega
  have hw2 := i32_nat r (by omega)
  have hor : bits .or .i32 (m : Int) (r : Int) = (n : Int) := (i32_or6 (x := (m : Int)) (y := (r : Int)) (by omega) (by omega) (by omega) (by omega) (by omega)).trans (by omega)
  have hfo : onward s b = (⟨n, s.half + 1, s.left - 1, 128, 191⟩, []) := by
    unfold onward
    rw [if_neg h1, hr, hm2, hn]
  rw [hfo] at hok
  have HF := Lib.hid hfo
  have HOK := Lib.hid hok
  obtain ⟨x, hx⟩ : ∃ x, s.half + 1 = x := ⟨_, rfl⟩
  obtain ⟨y, hy⟩ : ∃ y, s.left - 1 = y := ⟨_, rfl⟩
  rw [hx, hy] at HF HOK
  have hwx : IntKind.i64.wrap ((s.half : Int) + 1) = (x : Int) := by rw [IntKind.wrap_i64]; omega
  have hwy : IntKind.i64.wrap ((s.left : Int) - 1) = (y : Int) := by rw [IntKind.wrap_i64]; omega
  have hl1 : ((s.left : Int) == 1) = false := by simp; omega
  clear h hv hp hvl hr hm2 hn h1 hrl hml hok hfo hst hx hy
  go_enter Try.func63, Try.ntmps63
  go_wp2_with fail
  go_region_law (first | (go_simp; go_at_call 81; refine (utf_further _).mono ?_; rintro e w1 ⟨rfl, hb⟩; have R1 := Lib.hid ((H.out.drewN 1).below hb); have B1 := Lib.hid hb; have d0 := R1.out.c0.1; have d1 := R1.out.c1.1; have d2 := R1.out.c2.1; have d3 := R1.out.c3.1; have d4 := R1.out.c4.1; have g0 := R1.out.c0.2; have g1 := R1.out.c1.2; have g2 := R1.out.c2.2; have g3 := R1.out.c3.2; have g4 := R1.out.c4.2; clear hb) | fail)
  all_goals
    go_wp2_with fail
    go_ret
    rw [HF.out]
    have kk := (((Keep.refl (fun k => k = p) w).drew).trans (Keep.of_below (fun k => k = p) B1.out) (fun _ _ x => x)).trans (keep_put w1 p o (.int .i32 (n : Int)) (.int .i64 (x : Int)) (.int .i64 (y : Int)) (.int .u8 128) (.int .u8 191)) (fun _ _ x => x)
    refine ⟨v, rfl, ?_, R1.out.put ⟨n, x, y, 128, 191⟩ HOK.out, kk.mono (fun _ _ x => .inl x), fun k hk => .inl hk⟩
    simp only [rs, List.map_nil, List.append_nil]
    exact own_keep HV.out kk (fun k hk e => HP.out k hk e)

end Go.Proofs.Ytoihadjboeeglaa
