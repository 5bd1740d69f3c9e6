/- The contracts of tally.Tally. Own work. -/
import Derived.Test.YtkhhmnmemdadmaaGreatAtom
import Derived.RegionCalls
import Derived.Deep.RegionWith
namespace Go.Proofs.YtkhhmnmemdadmaaGreat
set_option linter.unusedVariables false
open Go.RowKit

/-- A tally somewhere: its cell. -/
def TalAt (w : World) (b off : Nat) (n : Int) : Prop := w.cell? ⟨b, off, none⟩ = some (.int .i64 n) ∧ w.frozen? ⟨b, off, none⟩ = false

/-- One cell has been set; it may have been drawn. -/
def SetTo (b off : Nat) (v : Value) (w w' : World) : Prop := ∃ k, w' = (w.setCell ⟨b, off, none⟩ v).drewN k

theorem SetTo.keep {b off : Nat} {v : Value} {w w' : World} (h : SetTo b off v w w') : Keep (· = b) w w' := by
  obtain ⟨k, rfl⟩ := h
  exact (keep_set w b off v).drewN k

theorem TalAt.set {w w' : World} {b off : Nat} {n m : Int} (h : TalAt w b off n) (hs : SetTo b off (.int .i64 m) w w') : TalAt w' b off m := by
  obtain ⟨k, rfl⟩ := hs
  exact ⟨World.cell?_setCell_same w _ _ h.1, by simpa using h.2⟩

theorem TalAt.lt {w : World} {b off : Nat} {n : Int} (h : TalAt w b off n) : b < w.heap.size := World.block_lt_of_cell? w _ h.1

theorem TalAt.keep {S : Nat → Prop} {w w' : World} {b off : Nat} {n : Int} (h : TalAt w b off n) (k : Keep S w w') (hn : ¬ S b) : TalAt w' b off n :=
  ⟨(k.cell (p := ⟨b, off, none⟩) h.lt hn).trans h.1, (k.frozen (p := ⟨b, off, none⟩) h.lt hn).trans h.2⟩

theorem TalAt.drewN {w : World} {b off : Nat} {n : Int} (h : TalAt w b off n) (k : Nat) : TalAt (w.drewN k) b off n := h

/-- The sum of the first numbers goes round alike. -/
theorem wrap64_add (a b : Int) : wrap64 (wrap64 a + b) = wrap64 (a + b) := by unfold wrap64; omega
theorem wrap64_add' (a b : Int) : wrap64 (a + wrap64 b) = wrap64 (a + b) := by unfold wrap64; omega
theorem wrap64_bd (a : Int) : -9223372036854775808 ≤ wrap64 a ∧ wrap64 a ≤ 9223372036854775807 := by unfold wrap64; omega
theorem wrap64_id {a : Int} (h1 : -9223372036854775808 ≤ a) (h2 : a ≤ 9223372036854775807) : wrap64 a = a := by unfold wrap64; omega

theorem sum_int_snoc (l : List Int) (x : Int) : (l ++ [x]).sum = l.sum + x := by simp

/-- All of them together. -/
def tot (l : List Int) : Int := wrap64 l.sum
theorem tot_nil : tot [] = 0 := by unfold tot wrap64; simp
theorem tot_next {l : List Int} {k : Nat} {x : Int} (h : l[k]? = some x) : tot (l.take (k + 1)) = wrap64 (tot (l.take k) + x) := by
  unfold tot
  rw [take_next h, sum_int_snoc, wrap64_add]
theorem tot_bd (l : List Int) : -9223372036854775808 ≤ tot l ∧ tot l ≤ 9223372036854775807 := wrap64_bd _

set_option maxHeartbeats 400000 in
theorem sum_any (A : Option Addr) (n c : Nat) (zs : List Int) (w : World) (h : Ints w A n zs) :
    Calls Tryz.prog 55 #[.slice A n c] w fun e w' => e = .returned (.int .i64 (tot zs)) ∧ w = w' := by
  have hm := h.2.2.2
  unfold maxLen at hm
  have H := Lib.hid h
  clear h
  go_enter Tryz.func55, Tryz.ntmps55
  go_wp2
  go_loop [3, 8] (fun s i => ∃ k : Nat, k ≤ n ∧ i = .int .i64 k ∧ s = .int .i64 (tot (zs.take k))) (fun _ i => n - (intOf i).toNat)
  case atStart => exact ⟨0, Nat.zero_le _, rfl, by rw [List.take_zero, tot_nil]⟩
  case round =>
    obtain ⟨k, hk, rfl, rfl⟩ := hrel
    by_cases hlt : k < n
    · obtain ⟨x, hx⟩ : ∃ x, zs[k]? = some x := ⟨zs[k]'(by rw [H.out.1]; exact hlt), List.getElem?_eq_getElem _⟩
      obtain ⟨b, off, rfl, hb, hc⟩ := H.out.2.1 (by omega)
      have hcx := hc k x hx
      have HX := Lib.hid (tot_next hx)
      clear hx hc
      go_wp2
      go_round
      case rel => exact ⟨k + 1, by omega, by go_num, by rw [HX.out]⟩
      case measure => simp [intOf]; omega
    · have e : k = n := by omega
      have ht : zs.take k = zs := List.take_of_length_le (by rw [H.out.1]; omega)
      rw [ht]
      clear e ht
      go_wp2
      go_ret
      exact ⟨rfl, rfl⟩

/-- The greatest one of them and top. -/
def most (top : Int) (l : List Int) : Int := l.foldl max top
theorem most_next {l : List Int} {k : Nat} {x : Int} (top : Int) (h : l[k]? = some x) : most top (l.take (k + 1)) = max (most top (l.take k)) x := by
  unfold most
  rw [take_next h, List.foldl_append]
  rfl

set_option maxHeartbeats 400000 in
theorem greatest_any (top : Int) (A : Option Addr) (n c : Nat) (zs : List Int) (w : World) (h : Ints w A n zs) :
    Calls Tryz.prog 56 #[.int .i64 top, .slice A n c] w fun e w' => e = .returned (.int .i64 (most top zs)) ∧ w = w' := by
  have hm := h.2.2.2
  unfold maxLen at hm
  have H := Lib.hid h
  clear h
  go_enter Tryz.func56, Tryz.ntmps56
  go_wp2
  go_loop [0, 9] (fun s i => ∃ k : Nat, k ≤ n ∧ i = .int .i64 k ∧ s = .int .i64 (most top (zs.take k))) (fun _ i => n - (intOf i).toNat)
  case atStart => exact ⟨0, Nat.zero_le _, rfl, rfl⟩
  case round =>
    obtain ⟨k, hk, rfl, rfl⟩ := hrel
    by_cases hlt : k < n
    · obtain ⟨x, hx⟩ : ∃ x, zs[k]? = some x := ⟨zs[k]'(by rw [H.out.1]; exact hlt), List.getElem?_eq_getElem _⟩
      obtain ⟨b, off, rfl, hb, hc⟩ := H.out.2.1 (by omega)
      have hcx := hc k x hx
      have HX := Lib.hid (most_next top hx)
      clear hx hc
      go_wp2
      go_round
      case rel => exact ⟨k + 1, by omega, by go_num, by rw [HX.out]⟩
      case measure => simp [intOf]; omega
    · have e : k = n := by omega
      have ht : zs.take k = zs := List.take_of_length_le (by rw [H.out.1]; omega)
      rw [ht]
      clear e ht
      go_wp2
      go_ret
      exact ⟨rfl, rfl⟩

set_option maxHeartbeats 400000 in
theorem tnow_any (b off : Nat) (x : Int) (w : World) (h : TalAt w b off x) :
    Calls Tryz.prog 14 #[.pointer (some ⟨b, off, none⟩)] w fun e w' => e = .returned (.int .i64 x) ∧ w = w' := by
  have H := Lib.hid h
  clear h
  go_enter Tryz.func14, Tryz.ntmps14
  go_wp2_with fail
  refine (int64_load b off x _ H.out.1).mono ?_
  rintro e w' ⟨rfl, rfl⟩
  go_wp2
  go_ret
  exact ⟨rfl, rfl⟩

set_option maxHeartbeats 400000 in
theorem tnow_nil (w : World) : Calls Tryz.prog 14 #[.pointer none] w fun e w' => e = .returned (.int .i64 0) ∧ w = w' := by
  go_enter Tryz.func14, Tryz.ntmps14
  go_wp2
  go_ret
  exact ⟨rfl, rfl⟩

set_option maxHeartbeats 400000 in
theorem tswap_any (b off : Nat) (x y : Int) (w : World) (h : TalAt w b off x) :
    Calls Tryz.prog 13 #[.pointer (some ⟨b, off, none⟩), .int .i64 y] w fun e w' => e = .returned (.int .i64 x) ∧ SetTo b off (.int .i64 y) w w' := by
  have H := Lib.hid h
  clear h
  go_enter Tryz.func13, Tryz.ntmps13
  go_wp2_with fail
  refine (int64_swap b off x y _ H.out.1 H.out.2).mono ?_
  rintro e w' ⟨rfl, rfl⟩
  go_wp2
  go_ret
  exact ⟨rfl, 0, rfl⟩

set_option maxHeartbeats 400000 in
theorem tswap_nil (y : Int) (w : World) : Calls Tryz.prog 13 #[.pointer none, .int .i64 y] w fun e w' => e = .returned (.int .i64 0) ∧ w = w' := by
  go_enter Tryz.func13, Tryz.ntmps13
  go_wp2
  go_ret
  exact ⟨rfl, rfl⟩

set_option maxHeartbeats 400000 in
theorem tif_nil (x y : Int) (w : World) : Calls Tryz.prog 57 #[.pointer none, .int .i64 x, .int .i64 y] w fun e w' => e = .returned (.bool false) ∧ w = w' := by
  go_enter Tryz.func57, Tryz.ntmps57
  go_wp2
  go_ret
  exact ⟨rfl, rfl⟩

set_option maxHeartbeats 400000 in
theorem tif_hit (b off : Nat) (x y : Int) (w : World) (h : TalAt w b off x) :
    Calls Tryz.prog 57 #[.pointer (some ⟨b, off, none⟩), .int .i64 x, .int .i64 y] w fun e w' => e = .returned (.bool true) ∧ SetTo b off (.int .i64 y) w w' := by
  have H := Lib.hid h
  clear h
  go_enter Tryz.func57, Tryz.ntmps57
  go_wp2_with fail
  refine (int64_cas_hit b off x y _ H.out.1 H.out.2).mono ?_
  rintro e w' ⟨rfl, rfl⟩
  go_wp2
  go_ret
  exact ⟨rfl, 0, rfl⟩

set_option maxHeartbeats 400000 in
theorem tif_miss (b off : Nat) (x y z : Int) (w : World) (h : TalAt w b off x) (hne : x < z ∨ z < x) :
    Calls Tryz.prog 57 #[.pointer (some ⟨b, off, none⟩), .int .i64 z, .int .i64 y] w fun e w' => e = .returned (.bool false) ∧ w = w' := by
  have H := Lib.hid h
  have HN := Lib.hid hne
  clear h hne
  go_enter Tryz.func57, Tryz.ntmps57
  go_wp2_with fail
  refine (int64_cas_miss b off x y _ z H.out.1 H.out.2 (by have := HN.out; omega)).mono ?_
  rintro e w' ⟨rfl, rfl⟩
  go_wp2
  go_ret
  exact ⟨rfl, rfl⟩

set_option maxHeartbeats 400000 in
theorem tadd_nil (v : Value) (w : World) : Calls Tryz.prog 11 #[.pointer none, v] w fun e w' => e = .returned (.int .i64 0) ∧ w = w' := by
  go_enter Tryz.func11, Tryz.ntmps11
  go_wp2
  go_ret
  exact ⟨rfl, rfl⟩

set_option maxHeartbeats 400000 in
theorem ttop_nil (v : Value) (w : World) : Calls Tryz.prog 12 #[.pointer none, v] w fun e w' => e = .returned (.int .i64 0) ∧ w = w' := by
  go_enter Tryz.func12, Tryz.ntmps12
  go_wp2
  go_ret
  exact ⟨rfl, rfl⟩

set_option maxHeartbeats 800000 in
theorem tadd_any (b off : Nat) (x : Int) (A : Option Addr) (n c : Nat) (zs : List Int) (w : World) (h : TalAt w b off x) (hz : Ints w A n zs) :
    Calls Tryz.prog 11 #[.pointer (some ⟨b, off, none⟩), .slice A n c] w fun e w' => e = .returned (.int .i64 (wrap64 (x + tot zs))) ∧ SetTo b off (.int .i64 (wrap64 (x + tot zs))) w w' := by
  have H := Lib.hid h
  have HZ := Lib.hid hz
  clear h hz
  go_enter Tryz.func11, Tryz.ntmps11
  go_wp2_with fail
  go_region_with (first
    | (go_at_call 55; refine (sum_any A n c zs _ (by exact HZ.out)).mono ?_; rintro e w' ⟨rfl, rfl⟩)
    | (go_at_call 54; refine (int64_add b off x (tot zs) _ (by exact H.out.1) (by exact H.out.2)).mono ?_; rintro e w' ⟨rfl, rfl⟩))
  all_goals
    go_wp2
    go_ret
    exact ⟨rfl, _, rfl⟩

end Go.Proofs.YtkhhmnmemdadmaaGreat
