/- utf.Reader in memory: begin, goOn, take. By program in part. Own work. -/
import Derived.Test.YtoihadjboeeglaaUtf
import Derived.Test.YtoihadjboeeglaaRunes
import Derived.Laws.BitsLemmas
namespace Go.Proofs.Ytoihadjboeeglaa
set_option linter.unusedVariables false
set_option linter.unusedSimpArgs false
open Go.RowKit

/-- A list that grows, and a Reader that turns. -/
def LRes (p o B : Nat) (v : Value) (xs : List Int) (w : World) (x : St × List Nat) (e : Ending) (w' : World) : Prop :=
  ∃ v', e = .returned v' ∧ w'.ownsRow B 21 1 v' (xs ++ rs x.2).length ((xs ++ rs x.2).map (Value.int .i32)) ∧ RdU w' p o x.1 ∧ Keep (fun k => k = p ∨ v.ownBlock = some k) w w' ∧ (∀ k, v'.ownBlock = some k → v.ownBlock = some k ∨ w.heap.size ≤ k)

theorem and31 (b : Nat) (h : b < 256) : bits .and .u8 (b : Int) 31 = ((b % 32 : Nat) : Int) := by
  rw [show bits .and .u8 (b : Int) 31 = (b : Int) % 32 from bits_mask .u8 8 (by decide) wraps_u8 5 (by decide) (b : Int) (by omega) (by omega)]; omega
theorem and15 (b : Nat) (h : b < 256) : bits .and .u8 (b : Int) 15 = ((b % 16 : Nat) : Int) := by
  rw [show bits .and .u8 (b : Int) 15 = (b : Int) % 16 from bits_mask .u8 8 (by decide) wraps_u8 4 (by decide) (b : Int) (by omega) (by omega)]; omega
theorem and7 (b : Nat) (h : b < 256) : bits .and .u8 (b : Int) 7 = ((b % 8 : Nat) : Int) := by
  rw [show bits .and .u8 (b : Int) 7 = (b : Int) % 8 from bits_mask .u8 8 (by decide) wraps_u8 3 (by decide) (b : Int) (by omega) (by omega)]; omega
theorem and63 (b : Nat) (h : b < 256) : bits .and .u8 (b : Int) 63 = ((b % 64 : Nat) : Int) := by
  rw [show bits .and .u8 (b : Int) 63 = (b : Int) % 64 from bits_mask .u8 8 (by decide) wraps_u8 6 (by decide) (b : Int) (by omega) (by omega)]; omega
theorem i32_nat (n : Nat) (h : n < 2147483648) : IntKind.i32.wrap (n : Int) = (n : Int) := by rw [IntKind.wrap_i32]; omega

section
variable {p o B : Nat} {v : Value} {xs : List Int} {w : World}
/-- One rune is appended; the Reader is what it was. -/
theorem LRes.one {n : Nat} {s t : St} {w1 w2 : World} {v' : Value} (h : RdU w1 p o t) (k1 : Keep (fun k => k = p) w w1) (hv : ∀ k, v.ownBlock = some k → k ≠ p)
    (ho : w2.ownsRow B 21 1 v' (xs.length + 1) (xs.map (Value.int .i32) ++ [.int .i32 (n : Int)])) (kk : Keep (fun k => v.ownBlock = some k) w1 w2) (ha : ∀ k, v'.ownBlock = some k → v.ownBlock = some k ∨ w1.heap.size ≤ k) :
    LRes p o B v xs w (t, [n]) (.returned v') w2 := by
  refine ⟨v', rfl, ?_, h.keep kk (fun e => hv p e rfl), (k1.mono (fun _ _ x => .inl x)).trans kk (fun _ _ x => .inr x), fun k hk => (ha k hk).imp id (fun x => Nat.le_trans k1.size x)⟩
  rw [List.length_append, rs_len, List.map_append]
  exact ho
end

set_option maxHeartbeats 1600000 in
theorem utf_begin_two (p o B : Nat) (v : Value) (xs : List Int) (b : Nat) (w : World) (h : RdU w p o .z) (hv : w.ownsRow B 21 1 v xs.length (xs.map (Value.int .i32))) (hp : ∀ k, v.ownBlock = some k → k ≠ p) (h1 : 194 ≤ b) (h2 : b ≤ 223) :
    Calls Try.prog 64 #[.pointer (some ⟨p, o, none⟩), v, .int .u8 (b : Int)] w (LRes p o B v xs w (fresh b)) := by
  have HS := Lib.hid (fun W => utf_second b W (by omega))
  have hm := and31 b (by omega)
  have hw := i32_nat (b % 32) (by omega)
  have k128 : ¬ (b : Int) < 128 := by omega
  have k194 : (194 : Int) ≤ (b : Int) := by omega
  have k223 : (b : Int) ≤ 223 := by omega
  have k224 : ¬ (224 : Int) ≤ (b : Int) := by omega
  have k239 : (b : Int) ≤ 239 := by omega
  have k240 : ¬ (240 : Int) ≤ (b : Int) := by omega
  have k244 : (b : Int) ≤ 244 := by omega
  have hfr : fresh b = (⟨b % 32, 1, 1, secLo b, secHi b⟩, []) := by
    unfold fresh
    rw [if_neg (by omega)]
    repeat (first | rw [if_pos (by omega)] | rw [if_neg (by omega)])
  have HF := Lib.hid hfr
  have H := Lib.hid h
  have HV := Lib.hid hv
  have HP := Lib.hid hp
  clear h hv hp hfr h1 h2
  go_enter Try.func64, Try.ntmps64
  go_wp2_with fail
  refine (HS.out _).mono ?_
  rintro e w1 ⟨rfl, hb⟩
  have R := H.out.below hb
  have HR := Lib.hid R
  have HB := Lib.hid hb
  have c0 := R.c0.1
  have c1 := R.c1.1
  have c2 := R.c2.1
  have c3 := R.c3.1
  have c4 := R.c4.1
  have f0 := R.c0.2
  have f1 := R.c1.2
  have f2 := R.c2.2
  have f3 := R.c3.2
  have f4 := R.c4.2
  clear hb R
  go_wp2_with fail
  go_ret
  rw [HF.out]
  have hok : St.Ok ⟨b % 32, 1, 1, secLo b, secHi b⟩ := by have := fresh_ok b; rw [HF.out] at this; exact this
  have kk := (Keep.of_below (fun k => k = p) HB.out).trans (keep_put w1 p o (.int .i32 ((b % 32 : Nat) : Int)) (.int .i64 1) (.int .i64 1) (.int .u8 (secLo b : Int)) (.int .u8 (secHi b : Int))) (fun _ _ x => x)
  refine ⟨v, rfl, ?_, HR.out.put ⟨b % 32, 1, 1, secLo b, secHi b⟩ hok, kk.mono (fun _ _ x => .inl x), fun k hk => .inl hk⟩
  simp only [rs, List.map_nil, List.append_nil]
  exact own_keep HV.out kk (fun k hk e => HP.out k hk e)

set_option maxHeartbeats 1600000 in
theorem utf_begin_three (p o B : Nat) (v : Value) (xs : List Int) (b : Nat) (w : World) (h : RdU w p o .z) (hv : w.ownsRow B 21 1 v xs.length (xs.map (Value.int .i32))) (hp : ∀ k, v.ownBlock = some k → k ≠ p) (h1 : 224 ≤ b) (h2 : b ≤ 239) :
    Calls Try.prog 64 #[.pointer (some ⟨p, o, none⟩), v, .int .u8 (b : Int)] w (LRes p o B v xs w (fresh b)) := by
  have HS := Lib.hid (fun W => utf_second b W (by omega))
  have hm := and15 b (by omega)
  have hw := i32_nat (b % 16) (by omega)
  have k128 : ¬ (b : Int) < 128 := by omega
  have k194 : (194 : Int) ≤ (b : Int) := by omega
  have k223 : ¬ (b : Int) ≤ 223 := by omega
  have k224 : (224 : Int) ≤ (b : Int) := by omega
  have k239 : (b : Int) ≤ 239 := by omega
  have k240 : ¬ (240 : Int) ≤ (b : Int) := by omega
  have k244 : (b : Int) ≤ 244 := by omega
  have hfr : fresh b = (⟨b % 16, 1, 2, secLo b, secHi b⟩, []) := by
    unfold fresh
    rw [if_neg (by omega)]
    repeat (first | rw [if_pos (by omega)] | rw [if_neg (by omega)])
  have HF := Lib.hid hfr
  have H := Lib.hid h
  have HV := Lib.hid hv
  have HP := Lib.hid hp
  clear h hv hp hfr h1 h2
  go_enter Try.func64, Try.ntmps64
  go_wp2_with fail
  refine (HS.out _).mono ?_
  rintro e w1 ⟨rfl, hb⟩
  have R := H.out.below hb
  have HR := Lib.hid R
  have HB := Lib.hid hb
  have c0 := R.c0.1
  have c1 := R.c1.1
  have c2 := R.c2.1
  have c3 := R.c3.1
  have c4 := R.c4.1
  have f0 := R.c0.2
  have f1 := R.c1.2
  have f2 := R.c2.2
  have f3 := R.c3.2
  have f4 := R.c4.2
  clear hb R
  go_wp2_with fail
  go_ret
  rw [HF.out]
  have hok : St.Ok ⟨b % 16, 1, 2, secLo b, secHi b⟩ := by have := fresh_ok b; rw [HF.out] at this; exact this
  have kk := (Keep.of_below (fun k => k = p) HB.out).trans (keep_put w1 p o (.int .i32 ((b % 16 : Nat) : Int)) (.int .i64 1) (.int .i64 2) (.int .u8 (secLo b : Int)) (.int .u8 (secHi b : Int))) (fun _ _ x => x)
  refine ⟨v, rfl, ?_, HR.out.put ⟨b % 16, 1, 2, secLo b, secHi b⟩ hok, kk.mono (fun _ _ x => .inl x), fun k hk => .inl hk⟩
  simp only [rs, List.map_nil, List.append_nil]
  exact own_keep HV.out kk (fun k hk e => HP.out k hk e)

set_option maxHeartbeats 1600000 in
theorem utf_begin_four (p o B : Nat) (v : Value) (xs : List Int) (b : Nat) (w : World) (h : RdU w p o .z) (hv : w.ownsRow B 21 1 v xs.length (xs.map (Value.int .i32))) (hp : ∀ k, v.ownBlock = some k → k ≠ p) (h1 : 240 ≤ b) (h2 : b ≤ 244) :
    Calls Try.prog 64 #[.pointer (some ⟨p, o, none⟩), v, .int .u8 (b : Int)] w (LRes p o B v xs w (fresh b)) := by
  have HS := Lib.hid (fun W => utf_second b W (by omega))
  have hm := and7 b (by omega)
  have hw := i32_nat (b % 8) (by omega)
  have k128 : ¬ (b : Int) < 128 := by omega
  have k194 : (194 : Int) ≤ (b : Int) := by omega
  have k223 : ¬ (b : Int) ≤ 223 := by omega
  have k224 : (224 : Int) ≤ (b : Int) := by omega
  have k239 : ¬ (b : Int) ≤ 239 := by omega
  have k240 : (240 : Int) ≤ (b : Int) := by omega
  have k244 : (b : Int) ≤ 244 := by omega
  have hfr : fresh b = (⟨b % 8, 1, 3, secLo b, secHi b⟩, []) := by
    unfold fresh
    rw [if_neg (by omega)]
    repeat (first | rw [if_pos (by omega)] | rw [if_neg (by omega)])
  have HF := Lib.hid hfr
  have H := Lib.hid h
  have HV := Lib.hid hv
  have HP := Lib.hid hp
  clear h hv hp hfr h1 h2
  go_enter Try.func64, Try.ntmps64
  go_wp2_with fail
  refine (HS.out _).mono ?_
  rintro e w1 ⟨rfl, hb⟩
  have R := H.out.below hb
  have HR := Lib.hid R
  have HB := Lib.hid hb
  have c0 := R.c0.1
  have c1 := R.c1.1
  have c2 := R.c2.1
  have c3 := R.c3.1
  have c4 := R.c4.1
  have f0 := R.c0.2
  have f1 := R.c1.2
  have f2 := R.c2.2
  have f3 := R.c3.2
  have f4 := R.c4.2
  clear hb R
  go_wp2_with fail
  go_ret
  rw [HF.out]
  have hok : St.Ok ⟨b % 8, 1, 3, secLo b, secHi b⟩ := by have := fresh_ok b; rw [HF.out] at this; exact this
  have kk := (Keep.of_below (fun k => k = p) HB.out).trans (keep_put w1 p o (.int .i32 ((b % 8 : Nat) : Int)) (.int .i64 1) (.int .i64 3) (.int .u8 (secLo b : Int)) (.int .u8 (secHi b : Int))) (fun _ _ x => x)
  refine ⟨v, rfl, ?_, HR.out.put ⟨b % 8, 1, 3, secLo b, secHi b⟩ hok, kk.mono (fun _ _ x => .inl x), fun k hk => .inl hk⟩
  simp only [rs, List.map_nil, List.append_nil]
  exact own_keep HV.out kk (fun k hk e => HP.out k hk e)

set_option maxHeartbeats 1600000 in
theorem utf_begin_low (p o B : Nat) (v : Value) (xs : List Int) (b : Nat) (w : World) (h : RdU w p o .z) (hv : w.ownsRow B 21 1 v xs.length (xs.map (Value.int .i32))) (hp : ∀ k, v.ownBlock = some k → k ≠ p) (hB : B ≤ w.heap.size) (hl : xs.length ≤ 1099511627776) (h1 : b < 128) :
    Calls Try.prog 64 #[.pointer (some ⟨p, o, none⟩), v, .int .u8 (b : Int)] w (LRes p o B v xs w (fresh b)) := by
  obtain ⟨i0, hi0, hz0, hz1, hz2⟩ := info_parts rune_info
  have hw := i32_nat b (by omega)
  have k128 : (b : Int) < 128 := by omega
  have k194 : ¬ (194 : Int) ≤ (b : Int) := by omega
  have k223 : (b : Int) ≤ 223 := by omega
  have k224 : ¬ (224 : Int) ≤ (b : Int) := by omega
  have k239 : (b : Int) ≤ 239 := by omega
  have k240 : ¬ (240 : Int) ≤ (b : Int) := by omega
  have k244 : (b : Int) ≤ 244 := by omega
  have hfr : fresh b = (.z, [b]) := by
    unfold fresh
    repeat (first | rw [if_pos (by omega)] | rw [if_neg (by omega)])
  have HF := Lib.hid hfr
  have H := Lib.hid h
  have HV := Lib.hid hv
  have HP := Lib.hid hp
  clear h hv hp hfr
  go_enter Try.func64, Try.ntmps64
  go_wp2_with (at_builtin; refine wpList_own_more _ rfl (.tmp 13) (.tmp 16) 46 rfl B w.heap.size 21 i0 (.int .i32 0) 1 4 Try.underlying46 hi0 hz0 hz1 hz2 rfl (by decide) _ _ _ 1 _ [.int .i32 (b : Int)] rfl rfl (own_keep HV.out ((Keep.refl (fun _ => False) w).alloc _) (fun _ _ x => x)) (own_new1 _ _ _ rfl (Nat.le_refl _)) ?c2 ?c3 ?c4 ?c5 ?_)
  case c2 => first | rfl | (intro u hu; simp at hu; subst hu; rfl)
  case c3 => unfold maxLen; omega
  case c4 => omega
  case c5 => first | omega | (simp; omega)
  intro v' w2 hown hkeep hat
  have HO := Lib.hid hown
  have HK := Lib.hid hkeep
  have HA := Lib.hid hat
  clear hown hkeep hat
  go_wp2_with fail
  go_ret
  rw [HF.out]
  exact LRes.one (s := .z) (H.out.alloc _) ((Keep.refl _ w).alloc _) HP.out HO.out HK.out (fun k hk => by have := HA.out k hk; simpa using this)

set_option maxHeartbeats 1600000 in
theorem utf_begin_none1 (p o B : Nat) (v : Value) (xs : List Int) (b : Nat) (w : World) (h : RdU w p o .z) (hv : w.ownsRow B 21 1 v xs.length (xs.map (Value.int .i32))) (hp : ∀ k, v.ownBlock = some k → k ≠ p) (hB : B ≤ w.heap.size) (hl : xs.length ≤ 1099511627776) (h1 : 128 ≤ b) (h2 : b < 194) :
    Calls Try.prog 64 #[.pointer (some ⟨p, o, none⟩), v, .int .u8 (b : Int)] w (LRes p o B v xs w (fresh b)) := by
  obtain ⟨i0, hi0, hz0, hz1, hz2⟩ := info_parts rune_info
  have k128 : ¬ (b : Int) < 128 := by omega
  have k194 : ¬ (194 : Int) ≤ (b : Int) := by omega
  have k223 : (b : Int) ≤ 223 := by omega
  have k224 : ¬ (224 : Int) ≤ (b : Int) := by omega
  have k239 : (b : Int) ≤ 239 := by omega
  have k240 : ¬ (240 : Int) ≤ (b : Int) := by omega
  have k244 : (b : Int) ≤ 244 := by omega
  have hfr : fresh b = (.z, [65533]) := by
    unfold fresh
    repeat (first | rw [if_pos (by omega)] | rw [if_neg (by omega)])
  have HF := Lib.hid hfr
  have H := Lib.hid h
  have HV := Lib.hid hv
  have HP := Lib.hid hp
  clear h hv hp hfr
  go_enter Try.func64, Try.ntmps64
  go_wp2_with (at_builtin; refine wpList_own_more _ rfl (.tmp 7) (.tmp 8) 46 rfl B w.heap.size 21 i0 (.int .i32 0) 1 4 Try.underlying46 hi0 hz0 hz1 hz2 rfl (by decide) _ _ _ 1 _ [.int .i32 65533] rfl rfl (own_keep HV.out ((Keep.refl (fun _ => False) w).alloc _) (fun _ _ x => x)) (own_new1 _ _ _ rfl (Nat.le_refl _)) ?c2 ?c3 ?c4 ?c5 ?_)
  case c2 => first | rfl | (intro u hu; simp at hu; subst hu; rfl)
  case c3 => unfold maxLen; omega
  case c4 => omega
  case c5 => first | omega | (simp; omega)
  intro v' w2 hown hkeep hat
  have HO := Lib.hid hown
  have HK := Lib.hid hkeep
  have HA := Lib.hid hat
  clear hown hkeep hat
  go_wp2_with fail
  go_ret
  rw [HF.out]
  exact LRes.one (s := .z) (H.out.alloc _) ((Keep.refl _ w).alloc _) HP.out HO.out HK.out (fun k hk => by have := HA.out k hk; simpa using this)

set_option maxHeartbeats 1600000 in
theorem utf_begin_none2 (p o B : Nat) (v : Value) (xs : List Int) (b : Nat) (w : World) (h : RdU w p o .z) (hv : w.ownsRow B 21 1 v xs.length (xs.map (Value.int .i32))) (hp : ∀ k, v.ownBlock = some k → k ≠ p) (hB : B ≤ w.heap.size) (hl : xs.length ≤ 1099511627776) (h1 : 245 ≤ b) (h2 : b < 256) :
    Calls Try.prog 64 #[.pointer (some ⟨p, o, none⟩), v, .int .u8 (b : Int)] w (LRes p o B v xs w (fresh b)) := by
  obtain ⟨i0, hi0, hz0, hz1, hz2⟩ := info_parts rune_info
  have k128 : ¬ (b : Int) < 128 := by omega
  have k194 : (194 : Int) ≤ (b : Int) := by omega
  have k223 : ¬ (b : Int) ≤ 223 := by omega
  have k224 : (224 : Int) ≤ (b : Int) := by omega
  have k239 : ¬ (b : Int) ≤ 239 := by omega
  have k240 : (240 : Int) ≤ (b : Int) := by omega
  have k244 : ¬ (b : Int) ≤ 244 := by omega
  have hfr : fresh b = (.z, [65533]) := by
    unfold fresh
    repeat (first | rw [if_pos (by omega)] | rw [if_neg (by omega)])
  have HF := Lib.hid hfr
  have H := Lib.hid h
  have HV := Lib.hid hv
  have HP := Lib.hid hp
  clear h hv hp hfr
  go_enter Try.func64, Try.ntmps64
  go_wp2_with (at_builtin; refine wpList_own_more _ rfl (.tmp 7) (.tmp 8) 46 rfl B w.heap.size 21 i0 (.int .i32 0) 1 4 Try.underlying46 hi0 hz0 hz1 hz2 rfl (by decide) _ _ _ 1 _ [.int .i32 65533] rfl rfl (own_keep HV.out ((Keep.refl (fun _ => False) w).alloc _) (fun _ _ x => x)) (own_new1 _ _ _ rfl (Nat.le_refl _)) ?c2 ?c3 ?c4 ?c5 ?_)
  case c2 => first | rfl | (intro u hu; simp at hu; subst hu; rfl)
  case c3 => unfold maxLen; omega
  case c4 => omega
  case c5 => first | omega | (simp; omega)
  intro v' w2 hown hkeep hat
  have HO := Lib.hid hown
  have HK := Lib.hid hkeep
  have HA := Lib.hid hat
  clear hown hkeep hat
  go_wp2_with fail
  go_ret
  rw [HF.out]
  exact LRes.one (s := .z) (H.out.alloc _) ((Keep.refl _ w).alloc _) HP.out HO.out HK.out (fun k hk => by have := HA.out k hk; simpa using this)

theorem utf_begin (p o B : Nat) (v : Value) (xs : List Int) (b : Nat) (w : World) (h : RdU w p o .z) (hv : w.ownsRow B 21 1 v xs.length (xs.map (Value.int .i32))) (hp : ∀ k, v.ownBlock = some k → k ≠ p) (hB : B ≤ w.heap.size) (hl : xs.length ≤ 1099511627776) (hb : b < 256) :
    Calls Try.prog 64 #[.pointer (some ⟨p, o, none⟩), v, .int .u8 (b : Int)] w (LRes p o B v xs w (fresh b)) := by
  by_cases h1 : b < 128
  · exact utf_begin_low p o B v xs b w h hv hp hB hl h1
  by_cases h2 : b < 194
  · exact utf_begin_none1 p o B v xs b w h hv hp hB hl (by omega) h2
  by_cases h3 : b ≤ 223
  · exact utf_begin_two p o B v xs b w h hv hp (by omega) h3
  by_cases h4 : b ≤ 239
  · exact utf_begin_three p o B v xs b w h hv hp (by omega) h4
  by_cases h5 : b ≤ 244
  · exact utf_begin_four p o B v xs b w h hv hp (by omega) h5
  · exact utf_begin_none2 p o B v xs b w h hv hp hB hl (by omega) hb

end Go.Proofs.Ytoihadjboeeglaa
