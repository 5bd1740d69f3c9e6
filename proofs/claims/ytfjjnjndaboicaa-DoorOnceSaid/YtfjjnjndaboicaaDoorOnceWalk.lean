/- Law DoorOnce: the walk. Own work. -/
import Derived.Test.YtfjjnjndaboicaaLazyAlive
import Derived.Deep.QuietTactic
import Derived.BigQuiet
import Derived.Deep.RegionHeld3
namespace Go.Proofs.Ytfjjnjndaboicaa
set_option linter.unusedVariables false
open Go.RowKit

/-- A door that was made since w0. -/
def DoorIs (w0 : World) (p : Nat) (s : Option Int) (w : World) : Prop := DoorAt w p 0 s ∧ w0.heap.size ≤ p ∧ Below w0.heap.size w0 w

theorem DoorIs.alloc {w0 w : World} {p : Nat} {s : Option Int} (h : DoorIs w0 p s w) (o : Obj) : DoorIs w0 p s (w.alloc o) :=
  ⟨h.1.keep (S := fun _ => False) ((Keep.refl _ _).alloc o) (fun _ x => x.elim), h.2.1, h.2.2.alloc h.2.2.size _⟩

theorem DoorIs.drew {w0 w : World} {p : Nat} {s : Option Int} (h : DoorIs w0 p s w) : DoorIs w0 p s w.drew := by
  obtain ⟨h1, h2, h3⟩ := h
  exact ⟨h1.keep (S := fun _ => False) ((Keep.refl _ _).drew) (fun _ x => x.elim), h2, ⟨h3.os, h3.tape, h3.output, h3.size, h3.block⟩⟩

theorem isOpen {w0 w : World} {p : Nat} (h : DoorIs w0 p none w) (n : Int) :
    Calls Try.prog 13 #[.pointer (some ⟨p, 0, none⟩), .int .i64 n] w fun e w' => e = .returned (.bool true) ∧ DoorIs w0 p (some n) w' :=
  (door_open_first p 0 n w h.1).mono fun e w' ⟨h1, h2, h3⟩ => ⟨h1, h2.door, h.2.1, h.2.2.trans (h3.below (B := w0.heap.size) h.2.2.size h.2.1 (fun _ x => x.elim))⟩

theorem isAgain {w0 w : World} {p : Nat} {m : Int} (h : DoorIs w0 p (some m) w) (n : Int) :
    Calls Try.prog 13 #[.pointer (some ⟨p, 0, none⟩), .int .i64 n] w fun e w' => e = .returned (.bool false) ∧ DoorIs w0 p (some m) w' :=
  (door_open_again p 0 m n w h.1).mono fun e w' ⟨h1, h2⟩ => ⟨h1, h.1.keep h2 (fun _ x => x.elim), h.2.1, h.2.2.trans (h2.below (B := w0.heap.size) h.2.2.size (fun _ _ x => x))⟩

/-- Open at the k-th call: the first one says yes. -/
theorem isNth {w0 w : World} {p k : Nat} {z n : Int} (h : DoorIs w0 p (if k = 0 then none else some z) w) (hn : k = 0 → n = z) :
    Calls Try.prog 13 #[.pointer (some ⟨p, 0, none⟩), .int .i64 n] w fun e w' => e = .returned (.bool ((k : Int) == 0)) ∧ DoorIs w0 p (some z) w' := by
  by_cases hk : k = 0
  · subst hk
    rw [← hn rfl]
    exact (isOpen h n).mono fun e w' ⟨h1, h2⟩ => ⟨by simpa using h1, h2⟩
  · rw [if_neg hk] at h
    exact (isAgain h n).mono fun e w' ⟨h1, h2⟩ => ⟨by rw [h1]; simp [hk], h2⟩

set_option maxRecDepth 100000 in
set_option maxHeartbeats 3200000 in
theorem dooronce_good (A : Option Addr) (n c : Nat) (zs : List Int) (w : World) (hz : Ints w A n zs) (h2 : n ≤ 40) :
    Calls Try.prog 4 #[.slice A n c] w fun e w' => e = .returned (.bool true) ∧ Below w.heap.size w w' := by
  have HZ := Lib.hid hz
  clear hz
  have hd3 : decide (40 < (n : Int)) = false := by simp; omega
  go_enter Try.func4, Try.ntmps4
  go_wp2_with fail
  refine (alive_any _).mono ?_
  rintro r w1 ⟨rfl, hb⟩
  have K1 : Hid (DoorIs w w1.heap.size none (w1.alloc (.cells #[.int .u32 0, .int .i32 0, .int .u32 0, .pointer none] 50))) := Lib.hid ⟨door_fresh w1 _ rfl, hb.size, hb.alloc hb.size _⟩
  clear hb
  go_wp2_with fail
  obtain ⟨p, hp⟩ : ∃ p, p = w1.heap.size := ⟨_, rfl⟩
  rw [← hp] at K1 ⊢
  clear hp
  refine (door_is p 0 none _ K1.out.1).mono ?_
  rintro e w2 ⟨rfl, rfl⟩
  go_wp2_with fail
  refine (door_who_shut p 0 _ K1.out.1).mono ?_
  rintro e w2 ⟨rfl, rfl⟩
  go_wp2_with fail
  go_loopw [4] (fun i wr => ∃ k : Nat, i = .int .i64 k ∧ k ≤ n ∧ Hid (DoorIs w p (if k = 0 then none else some (zs.headD 0)) wr)) (fun i _ => n - (intOf i).toNat)
  case atStart => exact ⟨0, rfl, by omega, K1⟩
  case round =>
    obtain ⟨k, rfl, hk, H1⟩ := hrel
    clear K1
    by_cases hlt : k < n
    · obtain ⟨x, hx⟩ : ∃ x, zs[k]? = some x := ⟨zs[k]'(by rw [HZ.out.1]; exact hlt), List.getElem?_eq_getElem _⟩
      obtain ⟨z, hz0⟩ : ∃ z, zs[0]? = some z := ⟨zs[0]'(by rw [HZ.out.1]; omega), List.getElem?_eq_getElem _⟩
      have hhd : zs.headD 0 = z := by cases zs <;> simp_all
      rw [hhd] at H1
      obtain ⟨b, off, rfl, hbl, hc⟩ := HZ.out.2.1 (by omega)
      have hcx := hc k x hx
      have hcz := hc 0 z hz0
      have rd : ∀ W, Below w.heap.size w W → W.cell? ⟨b, off + k, none⟩ = some (.int .i64 x) ∧ W.cell? ⟨b, off, none⟩ = some (.int .i64 z) := fun W hW => ⟨(hW.cell (p := ⟨b, off + k, none⟩) hbl).trans hcx, (hW.cell (p := ⟨b, off, none⟩) hbl).trans hcz⟩
      have RD := Lib.hid rd
      have hxz : k = 0 → x = z := fun e => by subst e; rw [hx] at hz0; injection hz0
      have d1 := rd wr H1.out.2.2
      have h0n : 0 < n := by omega
      have HX := Lib.hid hxz
      clear rd hc hcx hcz hx hz0 hxz
      go_wp2_with fail
      go_region_held3 (fun w' => w'.cell? ⟨b, off + k, none⟩ = some (.int .i64 x) ∧ w'.cell? ⟨b, off, none⟩ = some (.int .i64 z)) (first | exact d1 | exact d2 | go_keep) (first
        | (go_at_call 13; refine (isNth (w0 := w) (k := k) (z := z) (n := x) ?_ HX.out).mono ?_; (first | exact H1.out | exact H1.out.drew); rintro e w5 ⟨rfl, h1⟩; have H2 := Lib.hid h1; have d2 := RD.out w5 h1.2.2; clear h1)
        | (go_at_call 12; refine (door_who_open p 0 z _ H2.out.1).mono ?_; rintro e w6 ⟨rfl, rfl⟩)
        | (go_at_call 11; refine (door_is p 0 (some z) _ H2.out.1).mono ?_; rintro e w6 ⟨rfl, rfl⟩)
        | fail)
      have H3 : Hid (DoorIs w p (some z) w5) := by assumption
      clear d1 d2 H1 H2
      go_wp2_with fail
      go_roundw
      case rel => exact ⟨k + 1, by go_num, by omega, by rw [if_neg (by omega), hhd]; exact H3⟩
      case measure => simp [intOf]; omega
    · have e : k = n := by omega
      have HB := Lib.hid H1.out.2.2
      clear H1 e
      go_wp2_with fail
      refine (door_open_nil 1 _).mono ?_
      rintro e w5 ⟨rfl, k5⟩
      have HB5 := Lib.hid (HB.out.trans (k5.below (B := w.heap.size) HB.out.size (fun _ _ x => x)))
      clear k5
      go_wp2_with fail
      refine (door_who_nil _).mono ?_
      rintro e w6 ⟨rfl, rfl⟩
      go_wp2_with fail
      refine (door_is_nil _).mono ?_
      rintro e w6 ⟨rfl, rfl⟩
      go_wp2_with fail
      go_ret
      exact ⟨rfl, HB5.out⟩

set_option maxRecDepth 100000 in
set_option maxHeartbeats 1600000 in
theorem walk_DoorOnce (A : Option Addr) (n c : Nat) (zs : List Int) (w : World) (hz : Ints w A n zs) :
    Calls Try.prog 4 #[.slice A n c] w fun e w' => e = .returned (.bool true) ∧ Below w.heap.size w w' := by
  have hm := hz.2.2.2
  unfold maxLen at hm
  by_cases h3 : 40 < (n : Int)
  · clear hz
    go_enter Try.func4, Try.ntmps4
    go_wp2_with fail
    refine (alive_any _).mono ?_
    rintro r w1 ⟨rfl, hb⟩
    go_wp2_with fail
    go_ret
    exact ⟨rfl, hb⟩
  exact dooronce_good A n c zs w hz (by omega)

end Go.Proofs.Ytfjjnjndaboicaa
