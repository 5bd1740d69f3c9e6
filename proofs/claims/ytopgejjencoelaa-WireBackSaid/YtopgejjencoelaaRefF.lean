/- The document's Reader in memory: Feed. Own work. -/
import Derived.Test.YtopgejjencoelaaRefS
namespace Go.Proofs.Ytopgejjencoelaa
set_option linter.unusedVariables false
set_option linter.unusedSimpArgs false
open Go.RowKit

section
variable (p : Nat) (bin : Bool) (f : Rf) (C : Option Addr) (k : Nat) (A : Option Addr) (c : Nat) (b : UInt8) (w : World)

/-- A call of Feed, told. -/
def RefTold : Prop := Calls Try.prog 42 #[.pointer (some ⟨p, 0, none⟩), .int .u8 (b.toNat : Int)] w (FRes p bin C A w (feedR bin f b))

set_option maxRecDepth 100000 in
set_option maxHeartbeats 800000 in
theorem ref_sub (h : RfIn w p bin f C k A c) (hi : f.inn = true) : RefTold p bin f C A b w := by
  have c3 := (h.cs 3 _ rfl).1
  rw [hi] at c3
  have HR := Lib.hid (show feedR bin f b = subR f b from if_pos hi)
  have H := Lib.hid h
  unfold RefTold
  rw [HR.out]
  clear h hi
  go_enter Try.func42, Try.ntmps42
  go_wp2_with fail
  refine (sub_ref p bin f C k A c b w H.out).mono ?_
  intro e w2 hr
  have HH := Lib.hid hr
  obtain ⟨v, rfl, _⟩ := hr
  go_wp2_with fail
  go_ret
  exact HH.out

set_option maxRecDepth 100000 in
set_option maxHeartbeats 800000 in
theorem ref_iac (h : RfIn w p bin f C k A c) (hi : f.inn = false) (hc : f.cmd = []) (hb : b = 255) : RefTold p bin f C A b w := by
  have c1 := (h.cs 1 _ rfl).1
  have f1 := (h.cs 1 _ rfl).2
  have c2 := (h.cs 2 _ rfl).1
  have f2 := (h.cs 2 _ rfl).2
  have c3 := (h.cs 3 _ rfl).1
  have hp := h.lt
  rw [hi] at c3
  rw [hc, List.length_nil] at c2
  have e1 : ((b.toNat : Int) == 255) = true := (u8_int b 255).trans (by simp [hb])
  have HR := Lib.hid (show feedR bin f b = (⟨false, [b], f.inn, f.opt, f.body, f.long, f.iac⟩, []) by unfold feedR; rw [if_neg (by simp [hi]), if_pos hc, if_pos hb])
  have H := Lib.hid h
  unfold RefTold
  rw [HR.out]
  clear h hi hc hb
  go_enter Try.func42, Try.ntmps42
  go_wp2_with fail
  go_ret
  refine FRes.nil (RfTo.of (H.out.turn (C' := some ⟨w.heap.size, 0, none⟩) (k' := 1) (A' := A) (c' := c) (((keep_set w p 1 _).own 2 _).alloc _) (((H.out.cs.set 1 (by simp [rfCells]) _).set 2 (by simp [rfCells]) _).alloc _) (.inr (.inr ⟨_, rfl, Nat.le_refl _, by simp, fun e => by simp at e⟩)) (.inl ⟨rfl, rfl, rfl⟩)))

set_option maxRecDepth 100000 in
set_option maxHeartbeats 800000 in
theorem ref_gone (h : RfIn w p bin f C k A c) (hi : f.inn = false) (hc : f.cmd = []) (hb : b ≠ 255) (hz : f.cr = true ∧ b = 0 ∧ bin = false) : RefTold p bin f C A b w := by
  have c0 := (h.cs 0 _ rfl).1
  have c1 := (h.cs 1 _ rfl).1
  have f1 := (h.cs 1 _ rfl).2
  have c2 := (h.cs 2 _ rfl).1
  have c3 := (h.cs 3 _ rfl).1
  have hp := h.lt
  rw [hi] at c3
  rw [hc, List.length_nil] at c2
  rw [hz.1] at c1
  rw [hz.2.2] at c0
  have e1 : ((b.toNat : Int) == 255) = false := (u8_int b 255).trans (by simp [hb])
  have e2 : ((b.toNat : Int) == 0) = true := (u8_int b 0).trans (by simp [hz.2.1])
  have HR := Lib.hid (show feedR bin f b = (⟨false, f.cmd, f.inn, f.opt, f.body, f.long, f.iac⟩, []) by unfold feedR; rw [if_neg (by simp [hi]), if_pos hc, if_neg hb, if_pos hz])
  have HF := Lib.hid (RfTo.of (h.turn (f' := ⟨false, f.cmd, f.inn, f.opt, f.body, f.long, f.iac⟩) (C' := C) (k' := k) (A' := A) (c' := c) (keep_set w p 1 _) (h.cs.set 1 (by simp [rfCells]) (.bool false)) (.inl ⟨rfl, rfl⟩) (.inl ⟨rfl, rfl, rfl⟩)))
  unfold RefTold
  rw [HR.out]
  clear h hi hc hb hz HR
  go_enter Try.func42, Try.ntmps42
  go_wp2_with fail
  go_ret
  exact FRes.nil HF.out

set_option maxRecDepth 100000 in
set_option maxHeartbeats 800000 in
theorem ref_data (h : RfIn w p bin f C k A c) (hi : f.inn = false) (hc : f.cmd = []) (hb : b ≠ 255) (hz : ¬ (f.cr = true ∧ b = 0 ∧ bin = false)) : RefTold p bin f C A b w := by
  have c0 := (h.cs 0 _ rfl).1
  have c1 := (h.cs 1 _ rfl).1
  have f1 := (h.cs 1 _ rfl).2
  have c2 := (h.cs 2 _ rfl).1
  have c3 := (h.cs 3 _ rfl).1
  have hp := h.lt
  rw [hi] at c3
  rw [hc, List.length_nil] at c2
  have e1 : ((b.toNat : Int) == 255) = false := (u8_int b 255).trans (by simp [hb])
  have e3 : ((b.toNat : Int) == 13) = decide (b = 13) := u8_int b 13
  have HR := Lib.hid (show feedR bin f b = (⟨decide (b = 13), f.cmd, f.inn, f.opt, f.body, f.long, f.iac⟩, dataR b) by unfold feedR; rw [if_neg (by simp [hi]), if_pos hc, if_neg hb, if_neg hz])
  have HF := Lib.hid (RfTo.of (h.turn (f' := ⟨decide (b = 13), f.cmd, f.inn, f.opt, f.body, f.long, f.iac⟩) (C' := C) (k' := k) (A' := A) (c' := c) ((keep_set w p 1 (.bool false)).own 1 _) ((h.cs.set 1 (by simp [rfCells]) (.bool false)).set 1 (by simp [rfCells]) (.bool (decide (b = 13)))) (.inl ⟨rfl, rfl⟩) (.inl ⟨rfl, rfl, rfl⟩)))
  obtain ⟨x, hx⟩ : ∃ x, x = decide (b = 13) := ⟨_, rfl⟩
  obtain ⟨y, hy⟩ : ∃ y, y = f.cr := ⟨_, rfl⟩
  obtain ⟨z, hz2⟩ : ∃ z, z = decide (b = 0) := ⟨_, rfl⟩
  have e2 : ((b.toNat : Int) == 0) = z := (u8_int b 0).trans hz2.symm
  have hyz : ¬ (y = true ∧ z = true ∧ bin = false) := fun q => hz ⟨hy ▸ q.1, by simpa [hz2] using q.2.1, q.2.2⟩
  unfold RefTold
  rw [HR.out]
  rw [← hx] at HF e3 ⊢
  rw [← hy] at c1
  clear h hi hc hb hz HR hx hy hz2
  cases y
  · go_enter Try.func42, Try.ntmps42
    go_wp2_with fail
    refine (data_ref b _).mono ?_
    rintro e w2 ⟨v, rfl, hr, hb⟩
    have HH := Lib.hid (FRes.row HF.out hb hr)
    clear hr hb
    go_wp2_with fail
    go_ret
    exact HH.out
  · cases z
    · clear hyz
      go_enter Try.func42, Try.ntmps42
      go_wp2_with fail
      refine (data_ref b _).mono ?_
      rintro e w2 ⟨v, rfl, hr, hb⟩
      have HH := Lib.hid (FRes.row HF.out hb hr)
      clear hr hb
      go_wp2_with fail
      go_ret
      exact HH.out
    · have hbt : bin = true := by simpa using hyz
      subst hbt
      clear hyz
      go_enter Try.func42, Try.ntmps42
      go_wp2_with fail
      refine (data_ref b _).mono ?_
      rintro e w2 ⟨v, rfl, hr, hb⟩
      have HH := Lib.hid (FRes.row HF.out hb hr)
      clear hr hb
      go_wp2_with fail
      go_ret
      exact HH.out

set_option maxRecDepth 100000 in
set_option maxHeartbeats 800000 in
theorem ref_cmd (h : RfIn w p bin f C k A c) (hi : f.inn = false) (hc : f.cmd ≠ []) (hc2 : f.cmd.length ≠ 2) : RefTold p bin f C A b w := by
  have c2 := (h.cs 2 _ rfl).1
  have c3 := (h.cs 3 _ rfl).1
  rw [hi] at c3
  have hl := List.length_pos_iff.2 hc
  have t1 : ((f.cmd.length : Int) == 0) = false := by simp; omega
  have t2 : ((f.cmd.length : Int) == 2) = false := by simp; omega
  have HR := Lib.hid (show feedR bin f b = commandR f b by unfold feedR; rw [if_neg (by simp [hi]), if_neg hc, if_neg hc2])
  have H := Lib.hid h
  unfold RefTold
  rw [HR.out]
  clear h hi hc hc2 hl
  go_enter Try.func42, Try.ntmps42
  go_wp2_with fail
  refine (command_ref p bin f C k A c b w H.out).mono ?_
  intro e w2 hr
  have HH := Lib.hid hr
  obtain ⟨v, rfl, _⟩ := hr
  go_wp2_with fail
  go_ret
  exact HH.out

set_option maxRecDepth 100000 in
set_option maxHeartbeats 800000 in
theorem ref_two (h : RfIn w p bin f C k A c) (hi : f.inn = false) (hc2 : f.cmd.length = 2) : RefTold p bin f C A b w := by
  have c2 := (h.cs 2 _ rfl).1
  have f2 := (h.cs 2 _ rfl).2
  have c3 := (h.cs 3 _ rfl).1
  have f3 := (h.cs 3 _ rfl).2
  have c4 := (h.cs 4 _ rfl).1
  have f4 := (h.cs 4 _ rfl).2
  have c5 := (h.cs 5 _ rfl).1
  have f5 := (h.cs 5 _ rfl).2
  have c6 := (h.cs 6 _ rfl).1
  have f6 := (h.cs 6 _ rfl).2
  have c7 := (h.cs 7 _ rfl).1
  have f7 := (h.cs 7 _ rfl).2
  have hp := h.lt
  rw [hi] at c3
  rw [hc2] at c2
  have b0 : (0 : Int) ≤ (b.toNat : Int) := by omega
  have b1 : (b.toNat : Int) ≤ 255 := by have := b.toNat_lt; omega
  obtain ⟨g, hg, gc⟩ := h.two hc2
  obtain ⟨d, hd⟩ : ∃ d, d = f.cmd.getD 1 0 := ⟨_, rfl⟩
  rw [← hd] at gc
  have d0 : (0 : Int) ≤ (d.toNat : Int) := by omega
  have d1 : (d.toNat : Int) ≤ 255 := by have := d.toNat_lt; omega
  have hcn : f.cmd ≠ [] := fun e => by rw [e] at hc2; cases hc2
  by_cases hs : d = 250
  · have e1 : ((d.toNat : Int) == 250) = true := (u8_int d 250).trans (by simp [hs])
    have HR := Lib.hid (show feedR bin f b = (⟨f.cr, [], true, b.toNat, [], false, false⟩, []) by unfold feedR; rw [if_neg (by simp [hi]), if_neg hcn, if_pos hc2, if_pos (hd ▸ hs)])
    have HF := Lib.hid (RfTo.of (h.turn (f' := ⟨f.cr, [], true, b.toNat, [], false, false⟩) (C' := none) (k' := 0) (A' := none) (c' := 0) ((((((keep_set w p 2 _).own 3 _).own 4 _).own 5 _).own 6 _).own 7 _)
      ((((((h.cs.set 2 (by simp [rfCells]) (.slice none 0 0)).set 3 (by simp [rfCells]) (.bool true)).set 4 (by simp [rfCells]) (.int .i64 (b.toNat : Int))).set 5 (by simp [rfCells]) (.slice none 0 0)).set 6 (by simp [rfCells]) (.bool false)).set 7 (by simp [rfCells]) (.bool false)) (.inr (.inl ⟨rfl, by simp⟩)) (.inr ⟨rfl, rfl, rfl⟩)))
    unfold RefTold
    rw [HR.out]
    subst hg
    clear h hi hc2 hs hcn hd
    go_enter Try.func42, Try.ntmps42
    go_wp2_with fail
    go_ret
    exact FRes.nil HF.out
  · have e1 : ((d.toNat : Int) == 250) = false := (u8_int d 250).trans (by simp [hs])
    have HR := Lib.hid (show feedR bin f b = (⟨f.cr, [], f.inn, f.opt, f.body, f.long, f.iac⟩, [⟨2, d.toNat, b.toNat, []⟩]) by unfold feedR; rw [if_neg (by simp [hi]), if_neg hcn, if_pos hc2, if_neg (hd ▸ hs), ← hd])
    have HF := Lib.hid (RfTo.of (h.turn (f' := ⟨f.cr, [], f.inn, f.opt, f.body, f.long, f.iac⟩) (C' := none) (k' := 0) (A' := A) (c' := c) (keep_set w p 2 _) (h.cs.set 2 (by simp [rfCells]) (.slice none 0 0)) (.inr (.inl ⟨rfl, by simp⟩)) (.inl ⟨rfl, rfl, rfl⟩)))
    unfold RefTold
    rw [HR.out]
    subst hg
    clear h hi hc2 hs hcn hd
    go_enter Try.func42, Try.ntmps42
    go_wp2_with fail
    go_ret
    exact FRes.one HF.out ⟨2, d.toNat, b.toNat, []⟩ rfl (by simp)

theorem feed_ref (h : RfIn w p bin f C k A c) : RefTold p bin f C A b w := by
  cases hi : f.inn
  · by_cases hc : f.cmd = []
    · by_cases hb : b = 255
      · exact ref_iac p bin f C k A c b w h hi hc hb
      · by_cases hz : f.cr = true ∧ b = 0 ∧ bin = false
        · exact ref_gone p bin f C k A c b w h hi hc hb hz
        · exact ref_data p bin f C k A c b w h hi hc hb hz
    · by_cases hc2 : f.cmd.length = 2
      · exact ref_two p bin f C k A c b w h hi hc2
      · exact ref_cmd p bin f C k A c b w h hi hc hc2
  · exact ref_sub p bin f C k A c b w h hi
end

end Go.Proofs.Ytopgejjencoelaa
