/- utf.Reader in memory: take. Own work. -/
import Derived.Test.YtoihadjboeeglaaUtfT
namespace Go.Proofs.Ytoihadjboeeglaa
set_option linter.unusedVariables false
set_option linter.unusedSimpArgs false
open Go.RowKit

section
variable {p o B : Nat} {v : Value} {xs : List Int} {w : World}
theorem LRes.begun {s : St} {b : Nat} {w1 w2 : World} {v1 : Value} {e : Ending} {w' : World} {l : List Nat} {x : St × List Nat}
    (hp : ∀ k, v.ownBlock = some k → k ≠ p) (k1 : Keep (fun k => k = p) w w1) (k2 : Keep (fun k => v.ownBlock = some k) w1 w2) (ha : ∀ k, v1.ownBlock = some k → v.ownBlock = some k ∨ w1.heap.size ≤ k)
    (h : LRes p o B v1 (xs ++ rs l) w2 x e w') : LRes p o B v xs w (x.1, l ++ x.2) e w' := by
  obtain ⟨v2, rfl, h1, h2, h3, h4⟩ := h
  have s1 := k1.size
  have s2 := k2.size
  refine ⟨v2, rfl, ?_, h2, ?_, fun k hk => ?_⟩
  · simp only [rs_add]
    rw [← List.append_assoc]
    exact h1
  · refine (((k1.mono (S' := fun k => k = p ∨ v.ownBlock = some k) (fun _ _ x => .inl x)).trans k2 (fun _ _ x => .inr x)).trans h3 (fun i hi x => ?_))
    rcases x with x | x
    · exact .inl x
    · rcases ha i x with y | y
      · exact .inr y
      · omega
  · rcases h4 k hk with x | x
    · rcases ha k x with y | y
      · exact .inl y
      · exact .inr (by omega)
    · exact .inr (by omega)
end

set_option maxRecDepth 100000 in
set_option maxHeartbeats 1600000 in
theorem utf_take_on (p o B : Nat) (v : Value) (xs : List Int) (s : St) (b : Nat) (w : World) (h : RdU w p o s) (hv : w.ownsRow B 21 1 v xs.length (xs.map (Value.int .i32))) (hp : ∀ k, v.ownBlock = some k → k ≠ p) (hB : B ≤ w.heap.size) (hl : xs.length ≤ 1099511627776) (hb : b < 256) (h0 : 0 < s.half) (h1 : s.lo ≤ b ∧ b ≤ s.hi) :
    Calls Try.prog 25 #[.pointer (some ⟨p, o, none⟩), v, .int .u8 (b : Int)] w (LRes p o B v xs w (byteU s b)) := by
  have H := Lib.hid h
  have HB : Hid (byteU s b = onward s b) := byteU_on h0 h1.1 h1.2
  have HG : Hid (∀ W, RdU W p o s → Keep (fun _ => False) w W → Calls Try.prog 63 #[.pointer (some ⟨p, o, none⟩), v, .int .u8 (b : Int)] W (LRes p o B v xs W (onward s b))) := fun W hW kW => by
    have hv' := own_keep hv kW (fun _ _ x => x)
    by_cases e : s.left = 1
    · exact utf_goOn_end p o B v xs s b W hW hv' hp (Nat.le_trans hB kW.size) hl hb e
    · exact utf_goOn_more p o B v xs s b W hW hv' hp hb h0 e
  have HH := Lib.hid (fun W => utf_has s.lo s.hi b W true (decide_eq_true h1))
  have c1 := h.c1.1
  have c3 := h.c3.1
  have c4 := h.c4.1
  have hn : (0 : Int) < (s.half : Int) := by omega
  clear h hv hp h0 h1 hB
  go_enter Try.func25, Try.ntmps25
  go_wp2_with fail
  refine (HH.out _).mono ?_
  rintro e w1 ⟨rfl, hb1⟩
  have K1 := Lib.hid (Keep.of_below (fun _ => False) hb1)
  clear hb1
  go_wp2_with fail
  refine (HG.out _ (H.out.keep K1.out (fun x => x)) K1.out).mono ?_
  rintro e w2 ⟨v2, rfl, g1, g2, g3, g4⟩
  have G1 := Lib.hid g1
  have G2 := Lib.hid g2
  have G3 := Lib.hid g3
  have G4 := Lib.hid g4
  clear g1 g2 g3 g4
  go_wp2_with fail
  go_ret
  rw [HB.out]
  exact ⟨v2, rfl, G1.out, G2.out, (K1.out.mono (fun _ _ x => x.elim)).trans G3.out (fun _ _ x => x), fun k hk => (G4.out k hk).imp id (fun x => Nat.le_trans K1.out.size x)⟩

set_option maxRecDepth 100000 in
set_option maxHeartbeats 1600000 in
theorem utf_take_anew (p o B : Nat) (v : Value) (xs : List Int) (s : St) (b : Nat) (w : World) (h : RdU w p o s) (hv : w.ownsRow B 21 1 v xs.length (xs.map (Value.int .i32))) (hp : ∀ k, v.ownBlock = some k → k ≠ p) (hB : B ≤ w.heap.size) (hl : xs.length ≤ 1099511627776 - 1) (hb : b < 256) (h1 : ¬ (0 < s.half ∧ s.lo ≤ b ∧ b ≤ s.hi)) :
    Calls Try.prog 25 #[.pointer (some ⟨p, o, none⟩), v, .int .u8 (b : Int)] w (LRes p o B v xs w (byteU s b)) := by
  obtain ⟨i0, hi0, hz0, hz1, hz2⟩ := info_parts rune_info
  have H := Lib.hid h
  have HV := Lib.hid hv
  have HP := Lib.hid hp
  have HB : Hid (byteU s b = ((fresh b).1, badsU s ++ (fresh b).2)) := by
    show _ = _
    unfold byteU
    rw [if_neg h1]
  have HH := Lib.hid (fun (W : World) (e : 0 < s.half) => utf_has s.lo s.hi b W false (decide_eq_false (fun x => h1 ⟨e, x⟩)))
  have c1 := h.c1.1
  have c3 := h.c3.1
  have c4 := h.c4.1
  have hbl : (badsU s).length ≤ 1 := by unfold badsU; split <;> simp
  have HBL := Lib.hid hbl
  -- what follows the test
  have HT : Hid (∀ W, RdU W p o s → Keep (fun _ => False) w W → W.ownsRow B 21 1 v xs.length (xs.map (Value.int .i32)) ∧ B ≤ W.heap.size) := fun W hW kW => ⟨own_keep hv kW (fun _ _ x => x), Nat.le_trans hB kW.size⟩
  clear h hv hp h1 hbl
  by_cases h0 : 0 < s.half
  · have hn : (0 : Int) < (s.half : Int) := by omega
    have HN := Lib.hid h0
    clear h0
    go_enter Try.func25, Try.ntmps25
    go_wp2_with fail
    refine (HH.out _ HN.out).mono ?_
    rintro e w1 ⟨rfl, hb1⟩
    have K1 := Lib.hid (Keep.of_below (fun _ => False) hb1)
    have R1 := Lib.hid (H.out.keep K1.out (fun x => x))
    obtain ⟨hv1, hB1⟩ := HT.out _ R1.out K1.out
    have HV1 := Lib.hid hv1
    clear hb1 hv1
    go_wp2_with fail
    refine (utf_flush p o s _ R1.out).mono ?_
    rintro e w2 ⟨f, rfl, f1, f2, f3⟩
    have F1 := Lib.hid f1
    have F2 := Lib.hid f2
    have F3 := Lib.hid f3
    have V2 := Lib.hid (own_keep HV1.out f3 (fun k hk e => HP.out k hk e))
    have hs2 : B ≤ w2.heap.size := Nat.le_trans hB1 f3.size
    clear f1 f2 f3
    go_wp2_with (at_builtin; refine wpList_own_more _ rfl (.tmp 25) (.tmp 27) 46 rfl B w1.heap.size 21 i0 (.int .i32 0) 1 4 Try.underlying46 hi0 hz0 hz1 hz2 rfl (by decide) _ _ _ _ _ _ rfl rfl V2.out F1.out ?c2 ?c3 ?c4 ?c5 ?_)
    case c2 => exact one_Runes _
    case c3 => have := HBL.out; unfold maxLen; omega
    case c4 => have := HBL.out; omega
    case c5 => exact hs2
    intro v3 w3 hown hkeep hat
    have F3' := Lib.hid (F2.out.keep hkeep (fun e => HP.out p e rfl))
    have V3 : Hid (w3.ownsRow B 21 1 v3 (xs ++ rs (badsU s)).length ((xs ++ rs (badsU s)).map (Value.int .i32))) := by
      show World.ownsRow _ _ _ _ _ _ _
      rw [List.length_append, List.map_append, rs_len]
      exact hown
    have HK := Lib.hid hkeep
    have HA := Lib.hid hat
    have hs3 : B ≤ w3.heap.size := Nat.le_trans hs2 hkeep.size
    have HP3 : Hid (∀ k, v3.ownBlock = some k → k ≠ p) := fun k hk => by
      rcases hat k hk with x | x
      · exact HP.out k x
      · have := F2.out.lt; omega
    clear hown hkeep hat
    go_wp2_with fail
    refine (utf_begin p o B v3 _ b _ F3'.out V3.out HP3.out hs3 (by have := HBL.out; rw [List.length_append, rs_len]; omega) hb).mono ?_
    intro e w4 hx
    have HX := Lib.hid (LRes.begun (xs := xs) (l := badsU s) (v := v) (s := s) (b := b) HP.out ((K1.out.mono (fun _ _ x => x.elim)).trans F3.out (fun _ _ x => x)) HK.out HA.out hx)
    obtain ⟨v4, rfl, -⟩ := hx
    go_wp2_with fail
    go_ret
    rw [HB.out]
    exact HX.out
  · have hn : ¬ (0 : Int) < (s.half : Int) := by omega
    have R1 := Lib.hid H.out
    obtain ⟨hv1, hB1⟩ := HT.out _ R1.out (Keep.refl _ _)
    have HV1 := Lib.hid hv1
    clear h0 hv1
    go_enter Try.func25, Try.ntmps25
    go_wp2_with fail
    refine (utf_flush p o s _ R1.out).mono ?_
    rintro e w2 ⟨f, rfl, f1, f2, f3⟩
    have F1 := Lib.hid f1
    have F2 := Lib.hid f2
    have F3 := Lib.hid f3
    have V2 := Lib.hid (own_keep HV1.out f3 (fun k hk e => HP.out k hk e))
    have hs2 : B ≤ w2.heap.size := Nat.le_trans hB1 f3.size
    clear f1 f2 f3
    go_wp2_with (at_builtin; refine wpList_own_more _ rfl (.tmp 25) (.tmp 27) 46 rfl B w.heap.size 21 i0 (.int .i32 0) 1 4 Try.underlying46 hi0 hz0 hz1 hz2 rfl (by decide) _ _ _ _ _ _ rfl rfl V2.out F1.out ?d2 ?d3 ?d4 ?d5 ?_)
    case d2 => exact one_Runes _
    case d3 => have := HBL.out; unfold maxLen; omega
    case d4 => have := HBL.out; omega
    case d5 => exact hs2
    intro v3 w3 hown hkeep hat
    have F3' := Lib.hid (F2.out.keep hkeep (fun e => HP.out p e rfl))
    have V3 : Hid (w3.ownsRow B 21 1 v3 (xs ++ rs (badsU s)).length ((xs ++ rs (badsU s)).map (Value.int .i32))) := by
      show World.ownsRow _ _ _ _ _ _ _
      rw [List.length_append, List.map_append, rs_len]
      exact hown
    have HK := Lib.hid hkeep
    have HA := Lib.hid hat
    have hs3 : B ≤ w3.heap.size := Nat.le_trans hs2 hkeep.size
    have HP3 : Hid (∀ k, v3.ownBlock = some k → k ≠ p) := fun k hk => by
      rcases hat k hk with x | x
      · exact HP.out k x
      · have := F2.out.lt; omega
    clear hown hkeep hat
    go_wp2_with fail
    refine (utf_begin p o B v3 _ b _ F3'.out V3.out HP3.out hs3 (by have := HBL.out; rw [List.length_append, rs_len]; omega) hb).mono ?_
    intro e w4 hx
    have HX := Lib.hid (LRes.begun (xs := xs) (l := badsU s) (v := v) (s := s) (b := b) HP.out F3.out HK.out HA.out hx)
    obtain ⟨v4, rfl, -⟩ := hx
    go_wp2_with fail
    go_ret
    rw [HB.out]
    exact HX.out

theorem utf_take (p o B : Nat) (v : Value) (xs : List Int) (s : St) (b : Nat) (w : World) (h : RdU w p o s) (hv : w.ownsRow B 21 1 v xs.length (xs.map (Value.int .i32))) (hp : ∀ k, v.ownBlock = some k → k ≠ p) (hB : B ≤ w.heap.size) (hl : xs.length ≤ 1000000000000) (hb : b < 256) :
    Calls Try.prog 25 #[.pointer (some ⟨p, o, none⟩), v, .int .u8 (b : Int)] w (LRes p o B v xs w (byteU s b)) := by
  by_cases h1 : 0 < s.half ∧ s.lo ≤ b ∧ b ≤ s.hi
  · exact utf_take_on p o B v xs s b w h hv hp hB (by omega) hb h1.1 h1.2
  · exact utf_take_anew p o B v xs s b w h hv hp hB (by omega) hb h1

end Go.Proofs.Ytoihadjboeeglaa
