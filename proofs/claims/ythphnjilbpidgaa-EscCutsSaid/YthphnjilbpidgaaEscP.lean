/- esc.Parser in memory; numbers. Own work. -/
import Derived.Test.YthphnjilbpidgaaEscO
import Derived.Test.YthphnjilbpidgaaUtfs
import Derived.Deep.Cut
import Derived.Deep.RegionLaw
namespace Go.Proofs.Ythphnjilbpidgaa
set_option linter.unusedVariables false
set_option linter.unusedSimpArgs false
open Go.RowKit

/-- Blocks but one stay; of that one the cells outside lo .. hi. -/
structure SpanP (p lo hi : Nat) (w w' : World) : Prop where
  keep : Keep (· = p) w w'
  out : ∀ i, i < lo ∨ hi ≤ i → w'.cell? ⟨p, i, none⟩ = w.cell? ⟨p, i, none⟩ ∧ w'.frozen? ⟨p, i, none⟩ = w.frozen? ⟨p, i, none⟩
namespace SpanP
variable {p lo hi lo' hi' : Nat} {w w1 w2 : World}
theorem refl (p lo hi : Nat) (w : World) : SpanP p lo hi w w := ⟨Keep.refl _ _, fun _ _ => ⟨rfl, rfl⟩⟩
theorem trans (h : SpanP p lo hi w w1) (k : SpanP p lo hi w1 w2) : SpanP p lo hi w w2 :=
  ⟨h.keep.trans k.keep (fun _ _ x => x), fun i hi => ⟨(k.out i hi).1.trans (h.out i hi).1, (k.out i hi).2.trans (h.out i hi).2⟩⟩
theorem mono (h : SpanP p lo hi w w1) (h1 : lo' ≤ lo) (h2 : hi ≤ hi') : SpanP p lo' hi' w w1 := ⟨h.keep, fun i x => h.out i (by omega)⟩
theorem set (h : SpanP p lo hi w w1) (i : Nat) (h1 : lo ≤ i) (h2 : i < hi) (u : Value) : SpanP p lo hi w (w1.setCell ⟨p, i, none⟩ u) :=
  ⟨h.keep.own i u, fun j hj => ⟨(World.cell?_setCell_other _ ⟨p, i, none⟩ ⟨p, j, none⟩ _ (by simp <;> omega)).trans (h.out j hj).1, by rw [World.frozen?_setCell]; exact (h.out j hj).2⟩⟩
theorem below (h : SpanP p lo hi w w1) (hp : p < w1.heap.size) (k : Below w1.heap.size w1 w2) : SpanP p lo hi w w2 :=
  ⟨h.keep.trans (Keep.of_below (fun _ => False) k) (fun _ _ x => x.elim), fun i hi => ⟨(k.cell (p := ⟨p, i, none⟩) hp).trans (h.out i hi).1, (k.frozen (p := ⟨p, i, none⟩) hp).trans (h.out i hi).2⟩⟩
theorem drew (h : SpanP p lo hi w w1) : SpanP p lo hi w w1.drew := ⟨h.keep.drew, h.out⟩
theorem cell {i : Nat} {v : Value} (h : SpanP p lo hi w w1) (c : Cell w p i v) (hi' : i < lo ∨ hi ≤ i) : Cell w1 p i v := ⟨(h.out i hi').1.trans c.1, (h.out i hi').2.trans c.2⟩
theorem other {S : Prop} {q i : Nat} {v : Value} (h : SpanP p lo hi w w1) (c : Cell w q i v) (hq : q ≠ p) : Cell w1 q i v := c.keep h.keep hq
end SpanP

/-- Bytes, out of numbers. -/
def bytesN (l : List Nat) : ByteArray := ⟨(l.map UInt8.ofNat).toArray⟩
theorem bytesN_add (a b : List Nat) : bytesN (a ++ b) = bytesN a ++ bytesN b := by
  apply ByteArray.ext
  simp [bytesN]
theorem bytesN_size (a : List Nat) : (bytesN a).size = a.length := by
  show (bytesN a).data.size = _
  simp [bytesN]

/-- Numbers at p, q. -/
structure NumAt (w : World) (p q : Nat) (n : List Int) (c : Nat) : Prop where
  nn : ∀ k, k < 8 → Cell w p (q + k) (.int .i64 (n.getD k 0))
  cm : Cell w p (q + 8) (.int .i64 (c : Int))
  len : n.length = min c 8
  bd : ∀ x ∈ n, -1 ≤ x ∧ x ≤ 9999
theorem NumAt.drew {w : World} {p q : Nat} {n : List Int} {c : Nat} (h : NumAt w p q n c) : NumAt w.drew p q n c := ⟨h.nn, h.cm, h.len, h.bd⟩
theorem NumAt.span {w w1 : World} {p q lo hi : Nat} {n : List Int} {c : Nat} (h : NumAt w p q n c) (k : SpanP p lo hi w w1) (hq : q + 9 ≤ lo ∨ hi ≤ q) : NumAt w1 p q n c :=
  ⟨fun j hj => k.cell (h.nn j hj) (by omega), k.cell h.cm (by omega), h.len, h.bd⟩
theorem NumAt.keep {S : Nat → Prop} {w w1 : World} {p q : Nat} {n : List Int} {c : Nat} (h : NumAt w p q n c) (k : Keep S w w1) (hn : ¬ S p) : NumAt w1 p q n c :=
  ⟨fun j hj => (h.nn j hj).keep k hn, h.cm.keep k hn, h.len, h.bd⟩
theorem getD_snoc (n : List Int) (x : Int) (k : Nat) : (n ++ [x]).getD k 0 = if k = n.length then x else n.getD k 0 := by
  simp only [List.getD_eq_getElem?_getD]
  by_cases h : k = n.length
  · subst h; simp
  · rw [if_neg h]
    by_cases h2 : k < n.length
    · rw [List.getElem?_append_left h2]
    · rw [List.getElem?_eq_none (by simp; omega), List.getElem?_eq_none (by omega)]

set_option maxHeartbeats 800000 in
theorem num_add (p q : Nat) (n : List Int) (c : Nat) (w : World) (h : NumAt w p q n c) (hc : c ≤ 1000000000) :
    Calls Try.prog 62 #[.pointer (some ⟨p, q, none⟩)] w fun e w' => e = .returned (.tuple #[]) ∧ NumAt w' p q (addN n c).1 (addN n c).2 ∧ SpanP p q (q + 9) w w' := by
  have cc := h.cm.1
  have fc := h.cm.2
  by_cases h8 : c < 8
  · have hl : n.length = c := by rw [h.len]; omega
    have ck := (h.nn c h8).1
    have fk := (h.nn c h8).2
    have h8' : (c : Int) < 8 := by omega
    have hc0 : (0 : Int) ≤ (c : Int) := by omega
    have fin : Hid (NumAt ((w.setCell ⟨p, q + c, none⟩ (.int .i64 (-1))).setCell ⟨p, q + 8, none⟩ (.int .i64 ((c : Int) + 1))) p q (addN n c).1 (addN n c).2 ∧ SpanP p q (q + 9) w ((w.setCell ⟨p, q + c, none⟩ (.int .i64 (-1))).setCell ⟨p, q + 8, none⟩ (.int .i64 ((c : Int) + 1)))) := Lib.hid (by
      refine ⟨⟨fun k hk => ?_, ?_, ?_, ?_⟩, ((SpanP.refl p q (q + 9) w).set (q + c) (by omega) (by omega) _).set (q + 8) (by omega) (by omega) _⟩
      · refine Cell.far ?_ (by omega) _
        simp only [addN, if_pos h8, getD_snoc, hl]
        by_cases e : k = c
        · subst e; rw [if_pos rfl]; exact (h.nn k hk).set _
        · rw [if_neg e]; exact (h.nn k hk).far (by omega) _
      · simp only [addN, Int.natCast_add, Int.natCast_one]
        exact (h.cm.far (by omega) _).set _
      · simp only [addN, if_pos h8]; simp; omega
      · simp only [addN, if_pos h8]; intro x hx; rcases List.mem_append.1 hx with hx | hx; exact h.bd x hx; simp at hx; omega)
    clear h
    go_enter Try.func62, Try.ntmps62
    go_wp2_with fail
    go_region_law (first | fail)
    all_goals
      go_wp2_with fail
      go_end0
      exact ⟨rfl, fin.out.1.drew, fin.out.2.drew⟩
  · have h8' : ¬ (c : Int) < 8 := by omega
    have fin : Hid (NumAt (w.setCell ⟨p, q + 8, none⟩ (.int .i64 ((c : Int) + 1))) p q (addN n c).1 (addN n c).2 ∧ SpanP p q (q + 9) w (w.setCell ⟨p, q + 8, none⟩ (.int .i64 ((c : Int) + 1)))) := Lib.hid (by
      refine ⟨⟨fun k hk => ?_, ?_, ?_, ?_⟩, (SpanP.refl p q (q + 9) w).set (q + 8) (by omega) (by omega) _⟩
      · simp only [addN, if_neg h8]; exact (h.nn k hk).far (by omega) _
      · simp only [addN, Int.natCast_add, Int.natCast_one]
        exact h.cm.set _
      · simp only [addN, if_neg h8]; rw [h.len]; omega
      · simp only [addN, if_neg h8]; exact h.bd)
    clear h
    go_enter Try.func62, Try.ntmps62
    go_wp2_with fail
    go_end0
    exact ⟨rfl, fin.out⟩

set_option maxHeartbeats 800000 in
theorem num_begin (p q : Nat) (n : List Int) (c : Nat) (w : World) (h : NumAt w p q n c) (hc : c ≤ 1000000000) :
    Calls Try.prog 61 #[.pointer (some ⟨p, q, none⟩)] w fun e w' => e = .returned (.tuple #[]) ∧ NumAt w' p q (beginN n c).1 (beginN n c).2 ∧ SpanP p q (q + 9) w w' := by
  have cc := h.cm.1
  by_cases h0 : c = 0
  · subst h0
    have H := Lib.hid (num_add p q n 0 w h hc)
    have e : beginN n 0 = addN n 0 := by unfold beginN; rw [if_pos rfl]
    rw [e]
    clear h e
    have cc : w.cell? ⟨p, q + 8, none⟩ = some (.int .i64 0) := cc
    go_enter Try.func61, Try.ntmps61
    go_wp2_with fail
    refine H.out.mono ?_
    rintro e w1 ⟨rfl, h1, h2⟩
    have H1 := Lib.hid h1
    have H2 := Lib.hid h2
    clear h1 h2
    go_wp2_with fail
    go_end0
    exact ⟨rfl, H1.out, H2.out⟩
  · have e : beginN n c = (n, c) := by unfold beginN; rw [if_neg h0]
    rw [e]
    have h0' : ((c : Int) == 0) = false := by simp; omega
    have H := Lib.hid h
    clear h e
    go_enter Try.func61, Try.ntmps61
    go_wp2_with fail
    go_end0
    exact ⟨rfl, H.out, SpanP.refl _ _ _ _⟩

theorem beginN_le (n : List Int) (c : Nat) : (beginN n c).2 ≤ c + 1 := by
  unfold beginN addN; split <;> simp
theorem beginN_pos (n : List Int) (c : Nat) : 0 < (beginN n c).2 := by
  unfold beginN addN; split <;> simp <;> omega

set_option maxHeartbeats 800000 in
theorem num_next (p q : Nat) (n : List Int) (c : Nat) (w : World) (h : NumAt w p q n c) (hc : c < 1000000000) :
    Calls Try.prog 53 #[.pointer (some ⟨p, q, none⟩)] w fun e w' => e = .returned (.tuple #[]) ∧ NumAt w' p q (nextN n c).1 (nextN n c).2 ∧ SpanP p q (q + 9) w w' := by
  have H := Lib.hid (num_begin p q n c w h (by omega))
  have hb := beginN_le n c
  clear h
  go_enter Try.func53, Try.ntmps53
  go_wp2_with fail
  refine H.out.mono ?_
  rintro e w1 ⟨rfl, h1, h2⟩
  have H1 := Lib.hid (num_add p q _ _ w1 h1 (by omega))
  have H2 := Lib.hid h2
  clear h1 h2
  go_wp2_with fail
  refine H1.out.mono ?_
  rintro e w2 ⟨rfl, h1, h3⟩
  have H3 := Lib.hid h1
  have H4 := Lib.hid h3
  clear h1 h3
  go_wp2_with fail
  go_end0
  exact ⟨rfl, H3.out, H2.out.trans H4.out⟩

set_option maxHeartbeats 800000 in
theorem num_kept (p q : Nat) (n : List Int) (c : Nat) (w : World) (h : NumAt w p q n c) :
    Calls Try.prog 26 #[.pointer (some ⟨p, q, none⟩)] w fun e w' => e = .returned (.int .i64 (n.length : Nat)) ∧ w' = w := by
  have cc := h.cm.1
  have hl : min (c : Int) 8 = (n.length : Int) := by rw [h.len]; omega
  clear h
  go_enter Try.func26, Try.ntmps26
  go_wp2_with fail
  go_ret
  exact ⟨rfl, rfl⟩

set_option maxHeartbeats 1600000 in
theorem num_digit (p q : Nat) (n : List Int) (c d : Nat) (w : World) (h : NumAt w p q n c) (hc : c ≤ 1000000000) (hd : d ≤ 9) :
    Calls Try.prog 52 #[.pointer (some ⟨p, q, none⟩), .int .i64 (d : Int)] w fun e w' => e = .returned (.tuple #[]) ∧ NumAt w' p q (digitN n c d).1 (digitN n c d).2 ∧ SpanP p q (q + 9) w w' := by
  have H := Lib.hid (num_begin p q n c w h hc)
  have hpos := beginN_pos n c
  have hbl := beginN_le n c
  have HD : Hid (digitN n c d = (if (beginN n c).2 ≤ 8 then digitL (beginN n c).1 d else (beginN n c).1, (beginN n c).2)) := rfl
  generalize beginN n c = x at *
  obtain ⟨n1, c1⟩ := x
  simp only at hpos hbl HD H
  rw [HD.out]
  simp only
  clear h HD
  by_cases h8 : c1 ≤ 8
  · rw [if_pos h8]
    go_enter Try.func52, Try.ntmps52
    go_wp2_with fail
    refine H.out.mono ?_
    rintro e w1 ⟨rfl, h1, h2⟩
    have H2 := Lib.hid h2
    clear h2
    have cc := h1.cm.1
    have hl : n1.length = c1 := by rw [h1.len]; omega
    obtain ⟨k, rfl⟩ : ∃ k, c1 = k + 1 := ⟨c1 - 1, by omega⟩
    obtain ⟨L, hL⟩ : ∃ L, n1.getD k 0 = L := ⟨_, rfl⟩
    have ck := (h1.nn k (by omega)).1
    have fk := (h1.nn k (by omega)).2
    rw [hL] at ck
    have hLb : -1 ≤ L ∧ L ≤ 9999 := by
      rw [← hL, List.getD_eq_getElem?_getD, List.getElem?_eq_getElem (by omega)]
      exact h1.bd _ (List.getElem_mem _)
    have hlast : n1.getLastD (-1) = L := by
      rw [← hL, List.getD_eq_getElem?_getD, List.getLastD_eq_getLast?, List.getLast?_eq_getElem?, hl, show k + 1 - 1 = k by omega, List.getElem?_eq_getElem (by omega)]
      rfl
    have fin : Hid (NumAt (w1.setCell ⟨p, q + k, none⟩ (.int .i64 (min (max L 0 * 10 + (d : Int)) 9999))) p q (digitL n1 d) (k + 1) ∧ SpanP p q (q + 9) w1 (w1.setCell ⟨p, q + k, none⟩ (.int .i64 (min (max L 0 * 10 + (d : Int)) 9999)))) := Lib.hid (by
      have hdl : n1.dropLast.length = k := by rw [List.length_dropLast, hl]; rfl
      refine ⟨⟨fun j hj => ?_, h1.cm.far (by omega) _, by rw [digitL_len _ _ (by omega), h1.len], ?_⟩, (SpanP.refl p q (q + 9) w1).set (q + k) (by omega) (by omega) _⟩
      · unfold digitL
        rw [getD_snoc, hdl, hlast]
        by_cases e : j = k
        · subst e; rw [if_pos rfl]; exact (h1.nn j hj).set _
        · rw [if_neg e]
          have e2 : n1.dropLast.getD j 0 = if j < k then n1.getD j 0 else 0 := by
            rw [List.getD_eq_getElem?_getD, List.dropLast_eq_take, List.getElem?_take, hl]
            simp only [Nat.add_sub_cancel]
            split
            · rw [List.getD_eq_getElem?_getD]
            · rfl
          rw [e2]
          have e3 : (if j < k then n1.getD j 0 else 0) = n1.getD j 0 := by
            split
            · rfl
            · rw [List.getD_eq_getElem?_getD, List.getElem?_eq_none (by omega)]; rfl
          rw [e3]
          exact (h1.nn j hj).far (by omega) _
      · unfold digitL
        rw [hlast]
        intro x hx
        rcases List.mem_append.1 hx with hx | hx
        · rw [List.dropLast_eq_take] at hx; exact h1.bd x (List.mem_of_mem_take hx)
        · simp at hx; omega)
    have h8' : ((k + 1 : Nat) : Int) ≤ 8 := by omega
    have h8'' : (k : Int) + 1 ≤ 8 := by omega
    have hk0 : (0 : Int) ≤ (k : Int) := by omega
    have hk8 : (k : Int) < 8 := by omega
    have hx1 : IntKind.i64.wrap ((k : Int) + 1 - 1) = (k : Int) := by rw [IntWalk.i64_in _ (by omega)]; omega
    have hx2 : IntKind.i64.wrap (k : Int) = (k : Int) := IntWalk.i64_in _ (by omega)
    have cc2 : w1.cell? ⟨p, q + 8, none⟩ = some (.int .i64 ((k : Int) + 1)) := cc
    clear h1 cc hL hlast hl h8
    go_wp2_with fail
    go_region_law (first | fail)
    all_goals
      go_wp2_with fail
      go_end0
      first | exact ⟨rfl, fin.out.1, H2.out.trans fin.out.2⟩ | exact ⟨rfl, fin.out.1.drew, (H2.out.trans fin.out.2).drew⟩
  · rw [if_neg h8]
    go_enter Try.func52, Try.ntmps52
    go_wp2_with fail
    refine H.out.mono ?_
    rintro e w1 ⟨rfl, h1, h2⟩
    have H2 := Lib.hid h2
    clear h2
    have cc := h1.cm.1
    have h8' : ¬ (c1 : Int) ≤ 8 := by omega
    have H1 := Lib.hid h1
    clear h1
    go_wp2_with fail
    go_end0
    exact ⟨rfl, H1.out, H2.out⟩

end Go.Proofs.Ythphnjilbpidgaa
