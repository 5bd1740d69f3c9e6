/- alive of chapter 4's statements. Own work. -/
import Derived.Test.YtfjjnjndaboicaaGet
import Derived.Below
namespace Go.Proofs.Ytfjjnjndaboicaa
set_option linter.unusedVariables false
open Go.RowKit Go.MuLone

/-- A maker's closure that answers t. -/
theorem makes_of {S : Nat → Prop} {Q : World → Prop} {b off F : Nat} {caps : Array Value} {t : ByteArray} {w : World} (hen : ∀ w, (callFunc F caps).run Try.prog w = .ok (.enter F caps) w)
    (h : ∀ w1, Span (fun _ => False) b off (off + 5) w w1 → Calls Try.prog F caps w1 fun e w2 => e = .returned (.string t) ∧ Keep S w1 w2 ∧ Q w2) : Makes S Q b off (.func (.func F) #[] caps) t w :=
  fun w1 s => answer_some F caps t _ w1 hen (h w1 s)

set_option maxHeartbeats 400000 in
theorem x_alive (w : World) : Calls Try.prog 15 #[] w fun e w' => e = .returned (.string ⟨#[120]⟩) ∧ w = w' := by
  go_enter Try.func15, Try.ntmps15
  go_wp2
  go_ret
  exact ⟨rfl, rfl⟩

/-- A fresh door, a fresh Lazy. -/
theorem door_fresh (w : World) (p : Nat) (hp : p = w.heap.size) : DoorAt (w.alloc (.cells #[.int .u32 0, .int .i32 0, .int .u32 0, .pointer none] 50)) p 0 none := by
  subst hp; exact ⟨Cell.box 0 rfl, Cell.box 1 rfl, Cell.box 3 rfl⟩
theorem lazy_fresh (w : World) (p : Nat) (hp : p = w.heap.size) : LazyAt (w.alloc (.cells #[.int .u32 0, .int .i32 0, .int .u32 0, .int .u32 0, .string ⟨#[]⟩] 38)) p 0 none := by
  subst hp; exact ⟨Cell.box 0 rfl, Cell.box 1 rfl, Cell.box 3 rfl, Cell.box 4 rfl⟩

theorem DoorAt.keep {S : Nat → Prop} {w w' : World} {b off : Nat} {s : Option Int} (h : DoorAt w b off s) (k : Keep S w w') (hn : ∀ i, S i → i = w.heap.size) : DoorAt w' b off s := by
  have nb : ∀ i, i < w.heap.size → ¬ S i := fun i hi x => by have := hn i x; omega
  cases s with
  | none => exact ⟨h.1.keep k (nb b h.1.lt), h.2.1.keep k (nb b h.1.lt), h.2.2.keep k (nb b h.1.lt)⟩
  | some n =>
    obtain ⟨h1, h2, q, hq, h3, h4⟩ := h
    exact ⟨h1.keep k (nb b h1.lt), h2.keep k (nb b h1.lt), q, hq, h3.keep k (nb b h1.lt), k.heap h4 (nb q (lt_heap h4))⟩

theorem Span.below {S : Nat → Prop} {B b lo hi : Nat} {w w' : World} (s : Span S b lo hi w w') (hb : B ≤ w.heap.size) (h : B ≤ b) (hS : ∀ k, S k → B ≤ k) : Below B w w' :=
  s.keep.below hb (fun k hk x => x.elim (fun e => by omega) (fun e => by have := hS k e; omega))

theorem Span.far_door {S : Nat → Prop} {b lo hi : Nat} {w w' : World} {p off : Nat} {s : Option Int} (k : Span S b lo hi w w') (h : DoorAt w p off s) (hn : p ≠ b) (hq : ∀ n q, s = some n → Cell w p (off + 3) (.pointer (some ⟨q, 0, none⟩)) → q ≠ b ∧ ¬ S q) (hS : ¬ S p) : DoorAt w' p off s := by
  have nb : ¬ (p = b ∨ S p) := fun x => x.elim hn hS
  cases s with
  | none => exact ⟨h.1.keep k.keep nb, h.2.1.keep k.keep nb, h.2.2.keep k.keep nb⟩
  | some n =>
    obtain ⟨h1, h2, q, hqp, h3, h4⟩ := h
    have := hq n q rfl h3
    exact ⟨h1.keep k.keep nb, h2.keep k.keep nb, q, hqp, h3.keep k.keep nb, k.keep.heap h4 (fun x => x.elim this.1 this.2)⟩

set_option maxRecDepth 100000 in
set_option maxHeartbeats 1600000 in
theorem alive_any (w : World) : Calls Try.prog 6 #[] w fun e w' => e = .returned (.bool true) ∧ Below w.heap.size w w' := by
  have hmf := run_makeFunc Try.prog
  go_enter Try.func6, Try.ntmps6
  go_wp2_with fail
  have D0 := door_fresh w _ rfl
  have D1 := D0.keep (S := fun _ => False) ((Keep.refl _ _).alloc (.cells #[.int .u32 0, .int .i32 0, .int .u32 0, .int .u32 0, .string ⟨#[]⟩] 38)) (fun _ x => x.elim)
  have L1 := lazy_fresh (w.alloc (.cells #[.int .u32 0, .int .i32 0, .int .u32 0, .pointer none] 50)) (w.heap.size + 1) (by simp)
  have B1 : Below w.heap.size w ((w.alloc (.cells #[.int .u32 0, .int .i32 0, .int .u32 0, .pointer none] 50)).alloc (.cells #[.int .u32 0, .int .i32 0, .int .u32 0, .int .u32 0, .string ⟨#[]⟩] 38)) := ((Below.refl _ _).alloc (Nat.le_refl _) _).alloc (by simp) _
  have HD := Lib.hid D1
  have HL := Lib.hid L1
  have HB := Lib.hid B1
  clear D0 D1 L1 B1
  refine (door_open_first _ 0 3 _ HD.out).mono ?_
  rintro e w1 ⟨rfl, d1, s1⟩
  have HD1 := Lib.hid d1.door
  have HL1 := Lib.hid (HL.out.keep s1.keep (by simp))
  have HB1 := Lib.hid (HB.out.trans (s1.below (B := w.heap.size) (by simp; omega) (Nat.le_refl _) (fun _ x => x.elim)))
  clear d1 s1 HD HL HB
  go_wp2_with fail
  refine (door_open_again _ 0 3 4 _ HD1.out).mono ?_
  rintro e w2 ⟨rfl, k2⟩
  have HD2 := Lib.hid (HD1.out.keep k2 (fun _ x => x.elim))
  have HL2 := Lib.hid (HL1.out.keep k2 (fun x => x))
  have HB2 := Lib.hid (HB1.out.trans (k2.below (B := w.heap.size) HB1.out.size (fun _ _ x => x)))
  clear k2 HD1 HL1 HB1
  go_wp2_with fail
  refine (door_who_open _ 0 3 _ HD2.out).mono ?_
  rintro e w3 ⟨rfl, rfl⟩
  go_wp2_with fail
  refine (lazy_get_first (fun _ => False) (fun _ => True) _ 0 15 #[] ⟨#[120]⟩ _ HL2.out (fun _ x => x.elim) (makes_of (fun W => MuLone.run_callFunc_enter Try.func15 (by kernel_rfl) rfl _ W) (fun w1 _ => (x_alive w1).mono fun e w2 ⟨h1, h2⟩ => ⟨h1, h2 ▸ Keep.refl _ w1, trivial⟩)) (fun _ _ _ _ => trivial)).mono ?_
  rintro e w4 ⟨rfl, l4, s4, _⟩
  have HL4 := Lib.hid l4
  have HB4 := Lib.hid (HB2.out.trans (s4.below (B := w.heap.size) HB2.out.size (by omega) (fun _ x => x.elim)))
  clear l4 s4 HL2 HB2 HD2
  go_wp2_with fail
  refine (lazy_made _ 0 _ _ HL4.out).mono ?_
  rintro e w5 ⟨rfl, rfl⟩
  go_wp2_with fail
  go_ret
  exact ⟨rfl, HB4.out⟩

end Go.Proofs.Ytfjjnjndaboicaa
