/- Law LazyOnce: the walk. Own work. -/
import Derived.Test.YtfjjnjndaboicaaLazyAlive
import Derived.Deep.QuietTactic
import Derived.BigQuiet
import Derived.Deep.RegionHeld3
namespace Go.Proofs.Ytfjjnjndaboicaa
set_option linter.unusedVariables false
open Go.RowKit Go.MuLone

set_option maxHeartbeats 400000 in
theorem once_maker (cb sb : Nat) (t : ByteArray) (w : World) (hc : Cell w cb 0 (.int .i64 0)) (hs : Cell w sb 0 (.string t)) (hne : sb ≠ cb) :
    Calls Try.prog 9 #[.pointer (some ⟨cb, 0, none⟩), .pointer (some ⟨sb, 0, none⟩)] w fun e w' => e = .returned (.string t) ∧ w' = w.setCell ⟨cb, 0, none⟩ (.int .i64 1) := by
  have c0 := hc.1
  have c1 := hc.2
  have s0 := (hs.far (k := cb) (i := 0) (by omega) (.int .i64 1)).1
  clear hc hs hne
  go_enter Try.func9, Try.ntmps9
  go_wp2
  go_ret
  exact ⟨rfl, rfl⟩

/-- A Lazy, and how often a maker was called, both made since w0. -/
structure OnceIs (w0 : World) (p cb : Nat) (s : Option ByteArray) (c : Int) (w : World) : Prop where
  lz : LazyAt w p 0 s
  cl : Cell w cb 0 (.int .i64 c)
  hp : w0.heap.size ≤ p
  hc : w0.heap.size ≤ cb
  ne : cb ≠ p
  below : Below w0.heap.size w0 w

namespace OnceIs
variable {w0 w w' : World} {p cb : Nat} {s : Option ByteArray} {c : Int}
theorem keep {S : Nat → Prop} (h : OnceIs w0 p cb s c w) (k : Keep S w w') (hS : ∀ i, S i → w.heap.size ≤ i) : OnceIs w0 p cb s c w' :=
  ⟨h.lz.keep k (fun x => by have := hS p x; have := h.lz.lt; omega), h.cl.keep k (fun x => by have := hS cb x; have := h.cl.lt; omega), h.hp, h.hc, h.ne,
    h.below.trans (k.below (B := w0.heap.size) h.below.size (fun i hi x => by have := hS i x; have := h.below.size; omega))⟩
theorem alloc (h : OnceIs w0 p cb s c w) (o : Obj) : OnceIs w0 p cb s c (w.alloc o) := h.keep (S := fun _ => False) ((Keep.refl _ _).alloc o) (fun _ x => x.elim)
theorem drew (h : OnceIs w0 p cb s c w) : OnceIs w0 p cb s c w.drew := h.keep (S := fun _ => False) ((Keep.refl _ _).drew) (fun _ x => x.elim)

/-- The first one makes it. -/
theorem first {t : ByteArray} {sb : Nat} (h : OnceIs w0 p cb none 0 w) (hs : Cell w sb 0 (.string t)) (h1 : sb ≠ cb) (h2 : sb ≠ p) :
    Calls Try.prog 8 #[.pointer (some ⟨p, 0, none⟩), .func (.func 9) #[] #[.pointer (some ⟨cb, 0, none⟩), .pointer (some ⟨sb, 0, none⟩)]] w fun e w' => e = .returned (.string t) ∧ OnceIs w0 p cb (some t) 1 w' := by
  refine (lazy_get_first (fun k => k = cb) (fun w => Cell w cb 0 (.int .i64 1)) p 0 _ _ t w h.lz (fun k e => e ▸ ⟨h.cl.lt, h.ne⟩) (makes_of (fun W => MuLone.run_callFunc_enter Try.func9 (by kernel_rfl) rfl _ W) (fun w1 sp => ?_)) (fun w1 w2 q sp => q.keep sp.keep (fun x => x.elim h.ne (fun y => y)))).mono ?_
  · have cc : Cell w1 cb 0 (.int .i64 0) := h.cl.keep sp.keep (fun x => x.elim h.ne (fun y => y))
    refine (once_maker cb sb t w1 cc (hs.keep sp.keep (fun x => x.elim h2 (fun y => y))) h1).mono ?_
    rintro e w2 ⟨rfl, rfl⟩
    exact ⟨rfl, keep_set w1 cb 0 _, cc.set _⟩
  · rintro e w2 ⟨rfl, l2, s2, q2⟩
    exact ⟨rfl, l2, q2, h.hp, h.hc, h.ne, h.below.trans (s2.below h.below.size h.hp (fun k e => e ▸ h.hc))⟩

theorem again {t : ByteArray} {F : Nat} {caps : Array Value} (h : OnceIs w0 p cb (some t) c w) :
    Calls Try.prog 8 #[.pointer (some ⟨p, 0, none⟩), .func (.func F) #[] caps] w fun e w' => e = .returned (.string t) ∧ OnceIs w0 p cb (some t) c w' :=
  (lazy_get_again p 0 F caps t w h.lz).mono fun e w' ⟨h1, h2⟩ => ⟨h1, h.keep h2 (fun _ x => x.elim)⟩

theorem getNil (h : OnceIs w0 p cb none c w) :
    Calls Try.prog 8 #[.pointer (some ⟨p, 0, none⟩), .nilFunc] w fun e w' => e = .returned (.string ⟨#[]⟩) ∧ OnceIs w0 p cb (some ⟨#[]⟩) c w' :=
  (lazy_get_first_none (fun _ => False) (fun _ => True) p 0 ⟨#[]⟩ w h.lz (fun _ x => x.elim) (makes_nil p 0 w) (fun _ _ _ _ => trivial)).mono fun e w' ⟨h1, h2, h3, _⟩ =>
    ⟨h1, h2, h.cl.keep h3.keep (fun x => x.elim h.ne (fun y => y)), h.hp, h.hc, h.ne, h.below.trans (h3.below h.below.size h.hp (fun _ x => x.elim))⟩

/-- The k-th call of Get, where the first one has what it makes. -/
theorem nth {k : Nat} {t x : ByteArray} {sb : Nat} (h : OnceIs w0 p cb (if k = 0 then none else some t) (if k = 0 then 0 else 1) w) (hx : k = 0 → x = t) (hs : Cell w sb 0 (.string x)) (h1 : sb ≠ cb) (h2 : sb ≠ p) :
    Calls Try.prog 8 #[.pointer (some ⟨p, 0, none⟩), .func (.func 9) #[] #[.pointer (some ⟨cb, 0, none⟩), .pointer (some ⟨sb, 0, none⟩)]] w fun e w' => e = .returned (.string t) ∧ OnceIs w0 p cb (some t) 1 w' := by
  by_cases hk : k = 0
  · rw [if_pos hk, if_pos hk] at h
    rw [← hx hk]
    exact h.first hs h1 h2
  · rw [if_neg hk, if_neg hk] at h
    exact h.again
end OnceIs

set_option maxRecDepth 100000 in
set_option maxHeartbeats 3200000 in
theorem once_nil (A : Option Addr) (n c : Nat) (zs : List ByteArray) (w : World) (hz : Strs w A n zs) (h2 : n ≤ 40) :
    Calls Try.prog 3 #[.slice A n c, .bool true] w fun e w' => e = .returned (.bool true) ∧ Below w.heap.size w w' := by
  have HZ := Lib.hid hz
  clear hz
  have hmf := run_makeFunc Try.prog
  have hd3 : decide (40 < (n : Int)) = false := by simp; omega
  go_enter Try.func3, Try.ntmps3
  go_wp2_with fail
  refine (alive_any _).mono ?_
  rintro r w1 ⟨rfl, hb⟩
  go_wp2_with fail
  have K0 : Hid (LazyAt (w1.alloc (.cells #[.int .u32 0, .int .i32 0, .int .u32 0, .int .u32 0, .string ⟨#[]⟩] 38)) w1.heap.size 0 none) := Lib.hid (lazy_fresh w1 _ rfl)
  have K1 : Hid (OnceIs w w1.heap.size (w1.heap.size + 1) none 0 ((w1.alloc (.cells #[.int .u32 0, .int .i32 0, .int .u32 0, .int .u32 0, .string ⟨#[]⟩] 38)).alloc (.cells #[.int .i64 0] 3))) := Lib.hid (by
    have x := Cell.box (w := w1.alloc (.cells #[.int .u32 0, .int .i32 0, .int .u32 0, .int .u32 0, .string ⟨#[]⟩] 38)) (cs := #[.int .i64 0]) (t := 3) 0 rfl
    exact ⟨K0.out.keep (S := fun _ => False) ((Keep.refl _ _).alloc _) (fun x => x), by simpa using x, hb.size, by have := hb.size; omega, by omega, (hb.alloc hb.size _).alloc (by have := hb.size; simp; omega) _⟩)
  clear hb
  obtain ⟨p, hp⟩ : ∃ p, p = w1.heap.size := ⟨_, rfl⟩
  rw [← hp] at K0 K1 ⊢
  refine (lazy_made p 0 none _ K0.out).mono ?_
  rintro e w2 ⟨rfl, rfl⟩
  clear K0
  go_wp2_with fail
  rw [← hp]
  refine K1.out.getNil.mono ?_
  rintro e w2 ⟨rfl, h1⟩
  have K2 := Lib.hid h1
  clear h1 K1 hp
  go_wp2_with fail
  refine (lazy_made p 0 _ _ K2.out.lz).mono ?_
  rintro e w3 ⟨rfl, rfl⟩
  go_wp2_with fail
  go_loopw [8] (fun i wr => ∃ k : Nat, i = .int .i64 k ∧ k ≤ n ∧ Hid (OnceIs w p (p + 1) (some ⟨#[]⟩) 0 wr)) (fun i _ => n - (intOf i).toNat)
  case atStart => exact ⟨0, rfl, by omega, K2⟩
  case round =>
    obtain ⟨k, rfl, hk, H1⟩ := hrel
    clear K2
    by_cases hlt : k < n
    · obtain ⟨x, hx⟩ : ∃ x, zs[k]? = some x := ⟨zs[k]'(by rw [HZ.out.1]; exact hlt), List.getElem?_eq_getElem _⟩
      obtain ⟨b, off, rfl, hbl, hc⟩ := HZ.out.2.1 (by omega)
      have hcx := (H1.out.below.cell (p := ⟨b, off + k, none⟩) hbl).trans (hc k x hx)
      clear hc hx
      go_wp2_with fail
      refine ((H1.out.alloc _).again).mono ?_
      rintro e w3 ⟨rfl, h1⟩
      have H3 := Lib.hid h1
      clear h1 H1
      go_wp2_with fail
      refine (lazy_made p 0 _ _ H3.out.lz).mono ?_
      rintro e w4 ⟨rfl, rfl⟩
      go_wp2_with fail
      go_roundw
      case rel => exact ⟨k + 1, by go_num, by omega, by first | exact H3 | (rw [if_neg (by omega), if_neg (by omega)]; exact H3)⟩
      case measure => simp [intOf]; omega
    · have e : k = n := by omega
      have H9 := H1
      have c9 := H9.out.cl.1
      clear H1
      go_wp2_with fail
      refine (lazy_get_nil _ _ _).mono ?_
      rintro e w5 ⟨rfl, k5⟩
      have HB5 := Lib.hid (H9.out.below.trans (k5.below (B := w.heap.size) H9.out.below.size (fun _ _ x => x)))
      clear k5 H9
      go_wp2_with fail
      refine (lazy_made_nil _).mono ?_
      rintro e w6 ⟨rfl, rfl⟩
      go_wp2_with fail
      go_ret
      exact ⟨rfl, HB5.out⟩

set_option maxRecDepth 100000 in
set_option maxHeartbeats 3200000 in
theorem once_zero (A : Option Addr) (n c : Nat) (zs : List ByteArray) (w : World) (hz : Strs w A n zs) (h0 : n = 0) :
    Calls Try.prog 3 #[.slice A n c, .bool false] w fun e w' => e = .returned (.bool true) ∧ Below w.heap.size w w' := by
  clear hz
  subst h0
  have hmf := run_makeFunc Try.prog
  have hd3 : decide ((40 : Int) < ((0 : Nat) : Int)) = false := by simp
  go_enter Try.func3, Try.ntmps3
  go_wp2_with fail
  refine (alive_any _).mono ?_
  rintro r w1 ⟨rfl, hb⟩
  go_wp2_with fail
  have K0 : Hid (LazyAt (w1.alloc (.cells #[.int .u32 0, .int .i32 0, .int .u32 0, .int .u32 0, .string ⟨#[]⟩] 38)) w1.heap.size 0 none) := Lib.hid (lazy_fresh w1 _ rfl)
  have K1 : Hid (OnceIs w w1.heap.size (w1.heap.size + 1) none 0 ((w1.alloc (.cells #[.int .u32 0, .int .i32 0, .int .u32 0, .int .u32 0, .string ⟨#[]⟩] 38)).alloc (.cells #[.int .i64 0] 3))) := Lib.hid (by
    have x := Cell.box (w := w1.alloc (.cells #[.int .u32 0, .int .i32 0, .int .u32 0, .int .u32 0, .string ⟨#[]⟩] 38)) (cs := #[.int .i64 0]) (t := 3) 0 rfl
    exact ⟨K0.out.keep (S := fun _ => False) ((Keep.refl _ _).alloc _) (fun x => x), by simpa using x, hb.size, by have := hb.size; omega, by omega, (hb.alloc hb.size _).alloc (by have := hb.size; simp; omega) _⟩)
  clear hb
  obtain ⟨p, hp⟩ : ∃ p, p = w1.heap.size := ⟨_, rfl⟩
  rw [← hp] at K0 K1 ⊢
  refine (lazy_made p 0 none _ K0.out).mono ?_
  rintro e w2 ⟨rfl, rfl⟩
  clear K0
  go_wp2_with fail
  rw [← hp]
  clear hp
  go_loopw [8] (fun i wr => ∃ k : Nat, i = .int .i64 k ∧ k ≤ 0 ∧ Hid (OnceIs w p (p + 1) none 0 wr)) (fun i _ => 0 - (intOf i).toNat)
  case atStart => exact ⟨0, rfl, by omega, K1⟩
  case round =>
    obtain ⟨k, rfl, hk, H1⟩ := hrel
    clear K1
    obtain rfl : k = 0 := by omega
    have H9 := H1
    have c9 := H9.out.cl.1
    clear H1
    go_wp2_with fail
    refine (lazy_get_nil _ _ _).mono ?_
    rintro e w5 ⟨rfl, k5⟩
    have HB5 := Lib.hid (H9.out.below.trans (k5.below (B := w.heap.size) H9.out.below.size (fun _ _ x => x)))
    clear k5 H9
    go_wp2_with fail
    refine (lazy_made_nil _).mono ?_
    rintro e w6 ⟨rfl, rfl⟩
    go_wp2_with fail
    go_ret
    exact ⟨rfl, HB5.out⟩

set_option maxRecDepth 100000 in
set_option maxHeartbeats 3200000 in
theorem once_some (A : Option Addr) (n c : Nat) (zs : List ByteArray) (w : World) (hz : Strs w A n zs) (h2 : n ≤ 40) (h0 : 0 < n) :
    Calls Try.prog 3 #[.slice A n c, .bool false] w fun e w' => e = .returned (.bool true) ∧ Below w.heap.size w w' := by
  have HZ := Lib.hid hz
  clear hz
  have hmf := run_makeFunc Try.prog
  have hd3 : decide (40 < (n : Int)) = false := by simp; omega
  obtain ⟨z, hz0⟩ : ∃ z, zs[0]? = some z := ⟨zs[0]'(by rw [HZ.out.1]; omega), List.getElem?_eq_getElem _⟩
  obtain ⟨b, off, rfl, hbl, hc⟩ := HZ.out.2.1 (by omega)
  have hcz := hc 0 z hz0
  have hd4 : decide ((0 : Int) < (n : Int)) = true := by simp; omega
  go_enter Try.func3, Try.ntmps3
  go_wp2_with fail
  refine (alive_any _).mono ?_
  rintro r w1 ⟨rfl, hb⟩
  go_wp2_with fail
  have K0 : Hid (LazyAt (w1.alloc (.cells #[.int .u32 0, .int .i32 0, .int .u32 0, .int .u32 0, .string ⟨#[]⟩] 38)) w1.heap.size 0 none) := Lib.hid (lazy_fresh w1 _ rfl)
  have K1 : Hid (OnceIs w w1.heap.size (w1.heap.size + 1) none 0 ((w1.alloc (.cells #[.int .u32 0, .int .i32 0, .int .u32 0, .int .u32 0, .string ⟨#[]⟩] 38)).alloc (.cells #[.int .i64 0] 3))) := Lib.hid (by
    have x := Cell.box (w := w1.alloc (.cells #[.int .u32 0, .int .i32 0, .int .u32 0, .int .u32 0, .string ⟨#[]⟩] 38)) (cs := #[.int .i64 0]) (t := 3) 0 rfl
    exact ⟨K0.out.keep (S := fun _ => False) ((Keep.refl _ _).alloc _) (fun x => x), by simpa using x, hb.size, by have := hb.size; omega, by omega, (hb.alloc hb.size _).alloc (by have := hb.size; simp; omega) _⟩)
  have hcz1 := (((hb.alloc hb.size (.cells #[.int .u32 0, .int .i32 0, .int .u32 0, .int .u32 0, .string ⟨#[]⟩] 38)).alloc (by have := hb.size; simp; omega) (.cells #[.int .i64 0] 3)).cell (p := ⟨b, off, none⟩) hbl).trans hcz
  clear hb
  obtain ⟨p, hp⟩ : ∃ p, p = w1.heap.size := ⟨_, rfl⟩
  rw [← hp] at K0 K1 ⊢
  refine (lazy_made p 0 none _ K0.out).mono ?_
  rintro e w2 ⟨rfl, rfl⟩
  clear K0
  go_wp2_with fail
  rw [← hp]
  clear hp
  go_loopw [8] (fun i wr => ∃ k : Nat, i = .int .i64 k ∧ k ≤ n ∧ Hid (OnceIs w p (p + 1) (if k = 0 then none else some z) (if k = 0 then 0 else 1) wr)) (fun i _ => n - (intOf i).toNat)
  case atStart => exact ⟨0, rfl, by omega, K1⟩
  case round =>
    obtain ⟨k, rfl, hk, H1⟩ := hrel
    clear K1
    by_cases hlt : k < n
    · obtain ⟨x, hx⟩ : ∃ x, zs[k]? = some x := ⟨zs[k]'(by rw [HZ.out.1]; exact hlt), List.getElem?_eq_getElem _⟩
      have hcx := (H1.out.below.cell (p := ⟨b, off + k, none⟩) hbl).trans (hc k x hx)
      go_wp2_with fail
      refine ((H1.out.alloc _).nth (x := x) (fun e => by subst e; rw [hx] at hz0; injection hz0) (Cell.box 0 rfl) (by have := H1.out.cl.lt; omega) (by have := H1.out.lz.lt; omega)).mono ?_
      rintro e w3 ⟨rfl, h1⟩
      have H3 := Lib.hid h1
      clear h1 H1
      go_wp2_with fail
      refine (lazy_made p 0 _ _ H3.out.lz).mono ?_
      rintro e w4 ⟨rfl, rfl⟩
      go_wp2_with fail
      go_roundw
      case rel => exact ⟨k + 1, by go_num, by omega, by first | exact H3 | (rw [if_neg (by omega), if_neg (by omega)]; exact H3)⟩
      case measure => simp [intOf]; omega
    · have e : k = n := by omega
      rw [if_neg (by omega), if_neg (by omega)] at H1
      have H9 := H1
      have c9 := H9.out.cl.1
      clear H1
      go_wp2_with fail
      refine (lazy_get_nil _ _ _).mono ?_
      rintro e w5 ⟨rfl, k5⟩
      have HB5 := Lib.hid (H9.out.below.trans (k5.below (B := w.heap.size) H9.out.below.size (fun _ _ x => x)))
      clear k5 H9
      go_wp2_with fail
      refine (lazy_made_nil _).mono ?_
      rintro e w6 ⟨rfl, rfl⟩
      go_wp2_with fail
      go_ret
      exact ⟨rfl, HB5.out⟩

set_option maxRecDepth 100000 in
set_option maxHeartbeats 1600000 in
theorem walk_LazyOnce (A : Option Addr) (n c : Nat) (zs : List ByteArray) (a1 : Bool) (w : World) (hz : Strs w A n zs) :
    Calls Try.prog 3 #[.slice A n c, .bool a1] w fun e w' => e = .returned (.bool true) ∧ Below w.heap.size w w' := by
  have hm := hz.2.2.2
  unfold maxLen at hm
  by_cases h3 : 40 < (n : Int)
  · clear hz
    go_enter Try.func3, Try.ntmps3
    go_wp2_with fail
    refine (alive_any _).mono ?_
    rintro r w1 ⟨rfl, hb⟩
    go_wp2_with fail
    go_ret
    exact ⟨rfl, hb⟩
  cases a1 with
  | true => exact once_nil A n c zs w hz (by omega)
  | false =>
    by_cases h0 : n = 0
    · exact once_zero A n c zs w hz h0
    · exact once_some A n c zs w hz (by omega) (by omega)

end Go.Proofs.Ytfjjnjndaboicaa
