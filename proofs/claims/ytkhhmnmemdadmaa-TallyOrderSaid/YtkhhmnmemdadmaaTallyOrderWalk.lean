/- Law TallyOrder: the walk. Own work. -/
import Derived.Test.YtkhhmnmemdadmaaTallyTop
import Derived.Deep.QuietTactic
import Derived.BigQuiet
namespace Go.Proofs.Ytkhhmnmemdadmaa
set_option linter.unusedVariables false
open Go.RowKit

theorem tot_rev (l : List Int) : tot l.reverse = tot l := by unfold tot; rw [List.sum_reverse]

theorem rev_at {l : List Int} {n k : Nat} {x : Int} (hl : l.length = n) (hk : k < n) (h : l[n - 1 - k]? = some x) : l.reverse[k]? = some x := by
  rw [List.getElem?_reverse (by omega), hl]
  exact h

set_option maxRecDepth 100000 in
set_option maxHeartbeats 3200000 in
theorem order_good (A : Option Addr) (n c : Nat) (zs : List Int) (w : World) (hz : Ints w A n zs) (h2 : n ≤ 40) :
    Calls Try.prog 4 #[.slice A n c] w fun e w' => e = .returned (.bool true) ∧ Below w.heap.size w w' := by
  have HZ := Lib.hid hz
  clear hz
  have hd3 : decide (40 < (n : Int)) = false := by simp; omega
  go_enter Try.func4, Try.ntmps4
  go_wp2_with fail
  refine (talive_any _).mono ?_
  rintro r w1 ⟨rfl, hb⟩
  have k1 := TalIs.made hb (.cells #[.int .i64 0] 31) rfl _ rfl
  have k2 := TalIs.made k1.below (.cells #[.int .i64 0] 31) rfl (w1.heap.size + 1) (by simp)
  have k3 := TalIs.made k2.below (.cells #[.int .i64 0] 31) rfl (w1.heap.size + 1 + 1) (by simp)
  have K1 := Lib.hid ((k1.alloc (.cells #[.int .i64 0] 31)).alloc (.cells #[.int .i64 0] 31))
  have K2 := Lib.hid (k2.alloc (.cells #[.int .i64 0] 31))
  have K3 := Lib.hid k3
  clear k1 k2 k3 hb
  go_wp2_with fail
  obtain ⟨pa, hpa⟩ : ∃ p, p = w1.heap.size := ⟨_, rfl⟩
  rw [← hpa] at K1 K2 K3 ⊢
  clear hpa
  go_loopw [6, 7] (fun m i wr => ∃ k : Nat, i = .int .i64 k ∧ k ≤ n ∧ m = .int .i64 (most 0 (zs.take k)) ∧ Hid (TalIs w pa (tot (zs.take k)) wr) ∧ Hid (TalIs w (pa + 1) (tot (zs.reverse.take k)) wr) ∧ Hid (TalIs w (pa + 1 + 1) (most 0 (zs.take k)) wr)) (fun _ i _ => n - (intOf i).toNat)
  case atStart => exact ⟨0, rfl, by omega, rfl, by simpa [tot_nil] using K1, by simpa [tot_nil] using K2, K3⟩
  case round =>
    obtain ⟨k, rfl, hk, rfl, H1, H2, H3⟩ := hrel
    clear K1 K2 K3
    by_cases hlt : k < n
    · obtain ⟨x, hx⟩ : ∃ x, zs[k]? = some x := ⟨zs[k]'(by rw [HZ.out.1]; exact hlt), List.getElem?_eq_getElem _⟩
      obtain ⟨y, hy⟩ : ∃ y, zs[n - 1 - k]? = some y := ⟨zs[n - 1 - k]'(by rw [HZ.out.1]; omega), List.getElem?_eq_getElem _⟩
      obtain ⟨b, off, rfl, hbl, hc⟩ := HZ.out.2.1 (by omega)
      have bx := HZ.out.2.2.1 x (List.mem_of_getElem? hx)
      have byy := HZ.out.2.2.1 y (List.mem_of_getElem? hy)
      have hcx := hc k x hx
      have hcy := hc (n - 1 - k) y hy
      have rd : ∀ W, Below w.heap.size w W → W.cell? ⟨b, off + k, none⟩ = some (.int .i64 x) ∧ W.cell? ⟨b, off + (n - 1 - k), none⟩ = some (.int .i64 y) := fun W hW => ⟨(hW.cell (p := ⟨b, off + k, none⟩) hbl).trans hcx, (hW.cell (p := ⟨b, off + (n - 1 - k), none⟩) hbl).trans hcy⟩
      have RD := Lib.hid rd
      have T1 := Lib.hid (tot_next hx)
      have T2 := Lib.hid (tot_next (rev_at HZ.out.1 hlt hy))
      have T3 := Lib.hid (most_next 0 hx)
      have X1 := Lib.hid (tot_one bx)
      have Y1 := Lib.hid (tot_one byy)
      have r1 := (rd wr H1.out.below).1
      clear rd hc hcx hcy hx hy
      go_wp2_with fail
      refine (tisAdd (H1.out.alloc _) [x] (by exact fresh_ints [x] (by simpa using bx) (by simp [maxLen]) _ rfl _ rfl)).mono ?_
      rintro e w2 ⟨rfl, q1, q2⟩
      have J1 := Lib.hid q1
      have J2 := Lib.hid ((H2.out.alloc _).keep q2 (by omega) (fun i hi e => by have := H1.out.2.1; omega))
      have J3 := Lib.hid ((H3.out.alloc _).keep q2 (by omega) (fun i hi e => by have := H1.out.2.1; omega))
      have r2 := (RD.out w2 q1.below).2
      clear q1 q2 H1 H2 H3 r1
      go_wp2_with fail
      refine (tisAdd (J2.out.alloc _) [y] (by exact fresh_ints [y] (by simpa using byy) (by simp [maxLen]) _ rfl _ rfl)).mono ?_
      rintro e w3 ⟨rfl, q1, q2⟩
      have L2 := Lib.hid q1
      have L1 := Lib.hid ((J1.out.alloc _).keep q2 (by omega) (fun i hi e => by have := J2.out.2.1; omega))
      have L3 := Lib.hid ((J3.out.alloc _).keep q2 (by omega) (fun i hi e => by have := J2.out.2.1; omega))
      have r3 := (RD.out w3 q1.below).1
      clear q1 q2 J1 J2 J3 r2
      go_wp2_with fail
      refine (tisTop (L3.out.alloc _) [x] (by exact fresh_ints [x] (by simpa using bx) (by simp [maxLen]) _ rfl _ rfl)).mono ?_
      rintro e w4 ⟨rfl, q1, q2⟩
      have M3 := Lib.hid q1
      have M1 := Lib.hid ((L1.out.alloc _).keep q2 (by omega) (fun i hi e => by have := L3.out.2.1; omega))
      have M2 := Lib.hid ((L2.out.alloc _).keep q2 (by omega) (fun i hi e => by have := L3.out.2.1; omega))
      have r4 := (RD.out w4 q1.below).1
      clear q1 q2 L1 L2 L3 r3
      rw [X1.out, ← T1.out] at M1
      rw [Y1.out, ← T2.out] at M2
      rw [most_one, ← T3.out] at M3
      go_wp2_with fail
      go_roundw
      case rel => exact ⟨k + 1, by go_num, by omega, by rw [T3.out], M1, M2, M3⟩
      case measure => simp [intOf]; omega
    · have e : k = n := by omega
      have ht : zs.take k = zs := List.take_of_length_le (by rw [HZ.out.1]; omega)
      have ht2 : zs.reverse.take k = zs.reverse := List.take_of_length_le (by rw [List.length_reverse, HZ.out.1]; omega)
      rw [ht] at H1 H3 ⊢
      rw [ht2, tot_rev] at H2
      clear e ht ht2
      have hz' : Ints (wr.alloc (.cells #[.int .i64 0] 31)) A n zs := by
        obtain ⟨z1, z2, z3, z4⟩ := HZ.out
        refine ⟨z1, fun h0 => ?_, z3, z4⟩
        obtain ⟨b, off, e, hb, hc⟩ := z2 h0
        have hB := H1.out.below
        exact ⟨b, off, e, by have := hB.size; simp; omega, fun i x hx => ((hB.alloc hB.size _).cell (p := ⟨b, off + i, none⟩) hb).trans (hc i x hx)⟩
      have HZ2 := Lib.hid hz'
      have kd := TalIs.made H1.out.below (.cells #[.int .i64 0] 31) rfl _ rfl
      have HD := Lib.hid kd
      have N1 := Lib.hid (H1.out.alloc (.cells #[.int .i64 0] 31))
      have N2 := Lib.hid (H2.out.alloc (.cells #[.int .i64 0] 31))
      have N3 := Lib.hid (H3.out.alloc (.cells #[.int .i64 0] 31))
      have ne1 := tal_ne H1.out (Nat.le_refl _)
      have ne3 := tal_ne H3.out (Nat.le_refl _)
      clear hz' kd H1 H2 H3
      go_wp2_with fail
      refine (tisNow N1.out).mono ?_
      rintro e w5 ⟨rfl, rfl⟩
      go_wp2_with fail
      refine (tisNow N2.out).mono ?_
      rintro e w5 ⟨rfl, rfl⟩
      go_wp2_with fail
      refine (tisAdd HD.out zs HZ2.out).mono ?_
      rintro e w5 ⟨rfl, q1, q2⟩
      have N4 := Lib.hid (N1.out.keep q2 ne1 (fun i hi e => by have := HD.out.2.1; omega))
      have N6 := Lib.hid (N3.out.keep q2 ne3 (fun i hi e => by have := HD.out.2.1; omega))
      clear q1 q2 N1 N2 N3 HD
      rw [show wrap64 (0 + tot zs) = tot zs from by have := tot_bd zs; rw [Int.zero_add]; exact wrap64_id this.1 this.2]
      go_wp2_with fail
      refine (tisNow N4.out).mono ?_
      rintro e w6 ⟨rfl, rfl⟩
      go_wp2_with fail
      refine (tisNow N6.out).mono ?_
      rintro e w6 ⟨rfl, rfl⟩
      go_wp2_with fail
      go_ret
      exact ⟨rfl, N4.out.below⟩

set_option maxRecDepth 100000 in
set_option maxHeartbeats 1600000 in
theorem walk_TallyOrder (A : Option Addr) (n c : Nat) (zs : List Int) (w : World) (hz : Ints w A n zs) :
    Calls Try.prog 4 #[.slice A n c] w fun e w' => e = .returned (.bool true) ∧ Below w.heap.size w w' := by
  have hm := hz.2.2.2
  unfold maxLen at hm
  by_cases h3 : 40 < (n : Int)
  · clear hz
    go_enter Try.func4, Try.ntmps4
    go_wp2_with fail
    refine (talive_any _).mono ?_
    rintro r w1 ⟨rfl, hb⟩
    go_wp2_with fail
    go_ret
    exact ⟨rfl, hb⟩
  exact order_good A n c zs w hz (by omega)

end Go.Proofs.Ytkhhmnmemdadmaa
