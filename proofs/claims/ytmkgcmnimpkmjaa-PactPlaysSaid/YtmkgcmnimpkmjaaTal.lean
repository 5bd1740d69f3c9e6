/- tally.Tally: Add, Now (tally's text, those two alone). Own work. -/
import Derived.Test.YtmkgcmnimpkmjaaOnces
import Derived.RegionCalls
import Derived.Deep.RegionWith
set_option linter.unusedVariables false
set_option linter.unusedSimpArgs false
namespace Go.Proofs.Ytmkgcmnimpkmjaa
set_option linter.unusedVariables false
open Go.RowKit

/-- A tally somewhere: its cell. -/
def TalAt (w : World) (b off : Nat) (n : Int) : Prop := w.cell? ⟨b, off, none⟩ = some (.int .i64 n) ∧ w.frozen? ⟨b, off, none⟩ = false

/-- One cell has been set; it may have been drawn. -/
def SetTo (b off : Nat) (v : Value) (w w' : World) : Prop := ∃ k, w' = (w.setCell ⟨b, off, none⟩ v).drewN k

theorem SetTo.keep {b off : Nat} {v : Value} {w w' : World} (h : SetTo b off v w w') : Keep (· = b) w w' := by
  obtain ⟨k, rfl⟩ := h
  exact (keep_set w b off v).drewN k

theorem TalAt.set {w w' : World} {b off : Nat} {n m : Int} (h : TalAt w b off n) (hs : SetTo b off (.int .i64 m) w w') : TalAt w' b off m := by
  obtain ⟨k, rfl⟩ := hs
  exact ⟨World.cell?_setCell_same w _ _ h.1, by simpa using h.2⟩

theorem TalAt.lt {w : World} {b off : Nat} {n : Int} (h : TalAt w b off n) : b < w.heap.size := World.block_lt_of_cell? w _ h.1

theorem TalAt.keep {S : Nat → Prop} {w w' : World} {b off : Nat} {n : Int} (h : TalAt w b off n) (k : Keep S w w') (hn : ¬ S b) : TalAt w' b off n :=
  ⟨(k.cell (p := ⟨b, off, none⟩) h.lt hn).trans h.1, (k.frozen (p := ⟨b, off, none⟩) h.lt hn).trans h.2⟩

theorem TalAt.drewN {w : World} {b off : Nat} {n : Int} (h : TalAt w b off n) (k : Nat) : TalAt (w.drewN k) b off n := h

/-- The sum of the first numbers goes round alike. -/
theorem wrap64_add (a b : Int) : wrap64 (wrap64 a + b) = wrap64 (a + b) := by unfold wrap64; omega
theorem wrap64_add' (a b : Int) : wrap64 (a + wrap64 b) = wrap64 (a + b) := by unfold wrap64; omega
theorem wrap64_bd (a : Int) : -9223372036854775808 ≤ wrap64 a ∧ wrap64 a ≤ 9223372036854775807 := by unfold wrap64; omega
theorem wrap64_id {a : Int} (h1 : -9223372036854775808 ≤ a) (h2 : a ≤ 9223372036854775807) : wrap64 a = a := by unfold wrap64; omega

theorem sum_int_snoc (l : List Int) (x : Int) : (l ++ [x]).sum = l.sum + x := by simp

/-- All of them together. -/
def tot (l : List Int) : Int := wrap64 l.sum
theorem tot_nil : tot [] = 0 := by unfold tot wrap64; simp
theorem tot_next {l : List Int} {k : Nat} {x : Int} (h : l[k]? = some x) : tot (l.take (k + 1)) = wrap64 (tot (l.take k) + x) := by
  unfold tot
  rw [take_next h, sum_int_snoc, wrap64_add]
theorem tot_bd (l : List Int) : -9223372036854775808 ≤ tot l ∧ tot l ≤ 9223372036854775807 := wrap64_bd _

set_option maxHeartbeats 400000 in
theorem sum_any (A : Option Addr) (n c : Nat) (zs : List Int) (w : World) (h : Ints w A n zs) :
    Calls Try.prog 77 #[.slice A n c] w fun e w' => e = .returned (.int .i64 (tot zs)) ∧ w = w' := by
  have hm := h.2.2.2
  unfold maxLen at hm
  have H := Lib.hid h
  clear h
  go_enter Try.func77, Try.ntmps77
  go_wp2
  go_loop [3, 8] (fun s i => ∃ k : Nat, k ≤ n ∧ i = .int .i64 k ∧ s = .int .i64 (tot (zs.take k))) (fun _ i => n - (intOf i).toNat)
  case atStart => exact ⟨0, Nat.zero_le _, rfl, by rw [List.take_zero, tot_nil]⟩
  case round =>
    obtain ⟨k, hk, rfl, rfl⟩ := hrel
    by_cases hlt : k < n
    · obtain ⟨x, hx⟩ : ∃ x, zs[k]? = some x := ⟨zs[k]'(by rw [H.out.1]; exact hlt), List.getElem?_eq_getElem _⟩
      obtain ⟨b, off, rfl, hb, hc⟩ := H.out.2.1 (by omega)
      have hcx := hc k x hx
      have HX := Lib.hid (tot_next hx)
      clear hx hc
      go_wp2
      go_round
      case rel => exact ⟨k + 1, by omega, by go_num, by rw [HX.out]⟩
      case measure => simp [intOf]; omega
    · have e : k = n := by omega
      have ht : zs.take k = zs := List.take_of_length_le (by rw [H.out.1]; omega)
      rw [ht]
      clear e ht
      go_wp2
      go_ret
      exact ⟨rfl, rfl⟩

set_option maxHeartbeats 400000 in
theorem tnow_any (b off : Nat) (x : Int) (w : World) (h : TalAt w b off x) :
    Calls Try.prog 40 #[.pointer (some ⟨b, off, none⟩)] w fun e w' => e = .returned (.int .i64 x) ∧ w = w' := by
  have H := Lib.hid h
  clear h
  go_enter Try.func40, Try.ntmps40
  go_wp2_with fail
  refine (int64_load b off x _ H.out.1).mono ?_
  rintro e w' ⟨rfl, rfl⟩
  go_wp2
  go_ret
  exact ⟨rfl, rfl⟩

set_option maxHeartbeats 400000 in
theorem tnow_nil (w : World) : Calls Try.prog 40 #[.pointer none] w fun e w' => e = .returned (.int .i64 0) ∧ w = w' := by
  go_enter Try.func40, Try.ntmps40
  go_wp2
  go_ret
  exact ⟨rfl, rfl⟩

set_option maxHeartbeats 800000 in
theorem tadd_any (b off : Nat) (x : Int) (A : Option Addr) (n c : Nat) (zs : List Int) (w : World) (h : TalAt w b off x) (hz : Ints w A n zs) :
    Calls Try.prog 63 #[.pointer (some ⟨b, off, none⟩), .slice A n c] w fun e w' => e = .returned (.int .i64 (wrap64 (x + tot zs))) ∧ SetTo b off (.int .i64 (wrap64 (x + tot zs))) w w' := by
  have H := Lib.hid h
  have HZ := Lib.hid hz
  clear h hz
  go_enter Try.func63, Try.ntmps63
  go_wp2_with fail
  go_region_with (first
    | (go_at_call 77; refine (sum_any A n c zs _ (by exact HZ.out)).mono ?_; rintro e w' ⟨rfl, rfl⟩)
    | (go_at_call 76; refine (int64_add b off x (tot zs) _ (by exact H.out.1) (by exact H.out.2)).mono ?_; rintro e w' ⟨rfl, rfl⟩))
  all_goals
    go_wp2
    go_ret
    exact ⟨rfl, _, rfl⟩

end Go.Proofs.Ytmkgcmnimpkmjaa
