/- Tally.Top, and tallies that were made on the way. Own work. -/
import Derived.Test.YtkhhmnmemdadmaaGreatTally
namespace Go.Proofs.YtkhhmnmemdadmaaGreat
set_option linter.unusedVariables false
open Go.RowKit

set_option maxHeartbeats 800000 in
theorem ttop_any (b off : Nat) (x : Int) (A : Option Addr) (n c : Nat) (zs : List Int) (w : World) (h : TalAt w b off x) (hz : Ints w A n zs) :
    Calls Tryz.prog 12 #[.pointer (some ⟨b, off, none⟩), .slice A n c] w fun e w' => e = .returned (.int .i64 (most x zs)) ∧ SetTo b off (.int .i64 (most x zs)) w w' := by
  have H := Lib.hid h
  have HZ := Lib.hid hz
  clear h hz
  go_enter Tryz.func12, Tryz.ntmps12
  go_wp2_with fail
  refine wp_loop_rounds 1 ?_
  rw [rounds_succ]
  go_wp2_with fail
  refine (tnow_any b off x _ H.out).mono ?_
  rintro e w' ⟨rfl, rfl⟩
  go_wp2_with fail
  refine (greatest_any x A n c zs _ HZ.out).mono ?_
  rintro e w' ⟨rfl, rfl⟩
  go_wp2_with fail
  refine (tif_hit b off x (most x zs) _ H.out).mono ?_
  rintro e w' ⟨rfl, hs⟩
  have HS := Lib.hid hs
  clear hs
  go_wp2_with fail
  go_ret
  exact ⟨rfl, HS.out⟩

/-- A tally that was made since w0; of what there was ahead nothing turned. -/
def TalIs (w0 : World) (p : Nat) (n : Int) (w : World) : Prop := TalAt w p 0 n ∧ w0.heap.size ≤ p ∧ Below w0.heap.size w0 w

theorem TalIs.below {w0 w : World} {p : Nat} {n : Int} (h : TalIs w0 p n w) : Below w0.heap.size w0 w := h.2.2

theorem TalIs.made {w0 w : World} (hb : Below w0.heap.size w0 w) (o : Obj) (ho : o = .cells #[.int .i64 0] 64) (g : Nat) (hg : g = w.heap.size) : TalIs w0 g 0 (w.alloc o) := by
  subst ho hg
  exact ⟨⟨by simp, free_at (heap_alloc_new w _) 0⟩, hb.size, hb.alloc hb.size _⟩

theorem TalIs.keep {S : Nat → Prop} {w0 w w' : World} {p : Nat} {n : Int} (h : TalIs w0 p n w) (k : Keep S w w') (hp : ¬ S p) (hs : ∀ i, i < w0.heap.size → ¬ S i) : TalIs w0 p n w' :=
  ⟨h.1.keep k hp, h.2.1, h.2.2.trans (k.below h.2.2.size hs)⟩

theorem TalIs.alloc {w0 w : World} {p : Nat} {n : Int} (h : TalIs w0 p n w) (o : Obj) : TalIs w0 p n (w.alloc o) := h.keep (S := fun _ => False) ((Keep.refl _ w).alloc o) (fun x => x) (fun _ _ x => x)

theorem TalIs.drewN {w0 w : World} {p : Nat} {n : Int} (h : TalIs w0 p n w) (k : Nat) : TalIs w0 p n (w.drewN k) := h.keep (S := fun _ => False) ((Keep.refl _ w).drewN k) (fun x => x) (fun _ _ x => x)

theorem TalIs.set {w0 w w' : World} {p : Nat} {n m : Int} (h : TalIs w0 p n w) (s : SetTo p 0 (.int .i64 m) w w') : TalIs w0 p m w' :=
  ⟨h.1.set s, h.2.1, h.2.2.trans (s.keep.below h.2.2.size (fun k hk e => by have := h.2.1; omega))⟩

theorem tot_one {x : Int} (h : -9223372036854775808 ≤ x ∧ x ≤ 9223372036854775807) : tot [x] = x := by
  unfold tot
  rw [show [x].sum = x from by simp]
  exact wrap64_id h.1 h.2
theorem most_one (t x : Int) : most t [x] = max t x := rfl
theorem most_bd (l : List Int) : ∀ t : Int, (-9223372036854775808 ≤ t ∧ t ≤ 9223372036854775807) → (∀ x ∈ l, -9223372036854775808 ≤ x ∧ x ≤ 9223372036854775807) → -9223372036854775808 ≤ most t l ∧ most t l ≤ 9223372036854775807 := by
  induction l with
  | nil => intro t ht _; exact ht
  | cons y r ih =>
    intro t ht hl
    have hy := hl y (by simp)
    exact ih (max t y) (by omega) (fun x hx => hl x (by simp [hx]))

theorem tal_ne {w0 w : World} {p q : Nat} {n : Int} (h : TalIs w0 p n w) (hq : w.heap.size ≤ q) : p ≠ q := by
  have := h.1.lt
  omega

/-- Numbers that were just laid. -/
theorem fresh_ints {w : World} (xs : List Int) (hx : ∀ x ∈ xs, -9223372036854775808 ≤ x ∧ x ≤ 9223372036854775807) (hm : xs.length ≤ maxLen) (o : Obj) (ho : o = .cells ((xs.map (Value.int .i64)).toArray) 3) (g : Nat) (hg : g = w.heap.size) : Ints (w.alloc o) (some ⟨g, 0, none⟩) xs.length xs := by
  subst ho hg
  refine ⟨rfl, fun _ => ⟨_, 0, rfl, by simp, fun i x hx => ?_⟩, hx, hm⟩
  rw [Nat.zero_add, cell_of_row _ _ i _ 3 (0, 0) (heap_alloc_new w _)]
  simp [hx]

section
variable {w0 w : World} {p : Nat} {n : Int}
theorem tisAdd (h : TalIs w0 p n w) {A : Option Addr} {m c : Nat} (zs : List Int) (hz : Ints w A m zs) :
    Calls Tryz.prog 11 #[.pointer (some ⟨p, 0, none⟩), .slice A m c] w fun e w' => e = .returned (.int .i64 (wrap64 (n + tot zs))) ∧ TalIs w0 p (wrap64 (n + tot zs)) w' ∧ Keep (· = p) w w' :=
  (tadd_any p 0 n A m c zs w h.1 hz).mono fun e w' ⟨h1, h2⟩ => ⟨h1, h.set h2, h2.keep⟩
theorem tisTop (h : TalIs w0 p n w) {A : Option Addr} {m c : Nat} (zs : List Int) (hz : Ints w A m zs) :
    Calls Tryz.prog 12 #[.pointer (some ⟨p, 0, none⟩), .slice A m c] w fun e w' => e = .returned (.int .i64 (most n zs)) ∧ TalIs w0 p (most n zs) w' ∧ Keep (· = p) w w' :=
  (ttop_any p 0 n A m c zs w h.1 hz).mono fun e w' ⟨h1, h2⟩ => ⟨h1, h.set h2, h2.keep⟩
theorem tisSwap (h : TalIs w0 p n w) (y : Int) :
    Calls Tryz.prog 13 #[.pointer (some ⟨p, 0, none⟩), .int .i64 y] w fun e w' => e = .returned (.int .i64 n) ∧ TalIs w0 p y w' ∧ Keep (· = p) w w' :=
  (tswap_any p 0 n y w h.1).mono fun e w' ⟨h1, h2⟩ => ⟨h1, h.set h2, h2.keep⟩
theorem tisNow (h : TalIs w0 p n w) :
    Calls Tryz.prog 14 #[.pointer (some ⟨p, 0, none⟩)] w fun e w' => e = .returned (.int .i64 n) ∧ w = w' := tnow_any p 0 n w h.1
end

theorem alive_sum : wrap64 (0 + tot [2, 3]) = 5 := by simp [tot, wrap64]

set_option maxRecDepth 100000 in
set_option maxHeartbeats 800000 in
theorem talive_any (w : World) : Calls Tryz.prog 4 #[] w fun e w' => e = .returned (.bool true) ∧ Below w.heap.size w w' := by
  go_enter Tryz.func4, Tryz.ntmps4
  go_wp2_with fail
  have k1 := TalIs.made (Below.refl w.heap.size w) (.cells #[.int .i64 0] 64) rfl _ rfl
  refine (tisAdd (k1.alloc _) [2, 3] (by exact fresh_ints [2, 3] (by simp) (by simp [maxLen]) _ rfl _ (by simp))).mono ?_
  clear k1
  rintro e w1 ⟨rfl, h1, _⟩
  have H1 := Lib.hid (alive_sum ▸ h1)
  rw [alive_sum]
  clear h1
  go_wp2_with fail
  refine (tisTop (H1.out.alloc _) [4] (by exact fresh_ints [4] (by simp) (by simp [maxLen]) _ rfl _ (by simp))).mono ?_
  rintro e w2 ⟨rfl, h2, _⟩
  have H2 := Lib.hid (show TalIs w w.heap.size 5 w2 from h2)
  rw [show most 5 [4] = 5 from rfl]
  clear h2 H1
  go_wp2_with fail
  refine (tisSwap H2.out 1).mono ?_
  rintro e w3 ⟨rfl, h3, _⟩
  have H3 := Lib.hid h3
  clear h3 H2
  go_wp2_with fail
  refine (tisNow H3.out).mono ?_
  rintro e w4 ⟨rfl, rfl⟩
  go_wp2_with fail
  go_ret
  exact ⟨rfl, H3.out.below⟩

end Go.Proofs.YtkhhmnmemdadmaaGreat
