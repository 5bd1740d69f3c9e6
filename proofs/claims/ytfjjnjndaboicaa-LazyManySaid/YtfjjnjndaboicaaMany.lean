/- Law LazyMany: rows of Lazies and of doors. Own work. -/
import Derived.Test.YtfjjnjndaboicaaLazyAlive
import Derived.Deep.QuietTactic
import Derived.BigQuiet
import Derived.Deep.RegionHeld3
import Derived.Deep.RegionWith
import Derived.Laws.MakeOwn
namespace Go.Proofs.Ytfjjnjndaboicaa
set_option linter.unusedVariables false
open Go.RowKit Go.MuLone

theorem made_cell (w : World) (z : Array Value) (N j : Nat) (t : TypeId) (hj : j < N) (v : Value) (hv : z[j % z.size]! = v) (p : Nat) (hp : p = w.heap.size) : Cell (w.alloc (.cells (madeCells z N) t)) p j v := by
  subst hp
  exact Cell.box j (by simp [madeCells, hj, hv])

/-- Lazies and doors, in two rows that were made since w0: those below i1 are made, those below i2 are open. -/
structure ManyIs (w0 : World) (pa pb : Nat) (f : Nat → Int) (zs : List ByteArray) (i1 i2 : Nat) (w : World) : Prop where
  la : ∀ j x, zs[j]? = some x → LazyAt w pa (j * 5) (if j < i1 then some x else none)
  da : ∀ j, j < zs.length → (j < i2 → ∃ q, q ≠ pa ∧ DoorIn w pb (j * 4) q (f j)) ∧ (¬ j < i2 → DoorAt w pb (j * 4) none)
  hpa : w0.heap.size ≤ pa
  hpb : w0.heap.size ≤ pb
  ne : pa ≠ pb
  la0 : pa < w.heap.size
  lb0 : pb < w.heap.size
  below : Below w0.heap.size w0 w

theorem LazyAt.out {S : Nat → Prop} {b lo hi off : Nat} {w w' : World} {s : Option ByteArray} (h : LazyAt w b off s) (k : Span S b lo hi w w') (ho : off + 5 ≤ lo ∨ hi ≤ off) : LazyAt w' b off s := by
  cases s <;> exact ⟨k.out h.1 (by omega), k.out h.2.1 (by omega), k.out h.2.2.1 (by omega), k.out h.2.2.2 (by omega)⟩

theorem DoorIn.keep {S : Nat → Prop} {b off q : Nat} {n : Int} {w w' : World} (h : DoorIn w b off q n) (k : Keep S w w') (h1 : ¬ S b) (h2 : ¬ S q) : DoorIn w' b off q n :=
  ⟨h.1.keep k h1, h.2.1.keep k h1, h.2.2.1, h.2.2.2.1.keep k h1, k.heap h.2.2.2.2 h2⟩

theorem DoorIn.out {S : Nat → Prop} {b lo hi off q : Nat} {n : Int} {w w' : World} (h : DoorIn w b off q n) (k : Span S b lo hi w w') (ho : off + 4 ≤ lo ∨ hi ≤ off) (hS : ¬ S q) : DoorIn w' b off q n :=
  ⟨k.out h.1 (by omega), k.out h.2.1 (by omega), h.2.2.1, k.out h.2.2.2.1 (by omega), k.keep.heap h.2.2.2.2 (fun x => x.elim h.2.2.1 hS)⟩

namespace ManyIs
variable {w0 w w' : World} {pa pb i1 i2 : Nat} {f : Nat → Int} {zs : List ByteArray}

theorem keep (h : ManyIs w0 pa pb f zs i1 i2 w) (k : Keep (fun _ => False) w w') : ManyIs w0 pa pb f zs i1 i2 w' where
  la := fun j x hx => (h.la j x hx).keep k (fun x => x)
  da := fun j hj => ⟨fun hi => by obtain ⟨q, hq, hd⟩ := (h.da j hj).1 hi; exact ⟨q, hq, hd.keep k (fun x => x) (fun x => x)⟩, fun hi => ((h.da j hj).2 hi).keep k (fun _ x => x.elim)⟩
  hpa := h.hpa
  hpb := h.hpb
  ne := h.ne
  la0 := Nat.lt_of_lt_of_le h.la0 k.size
  lb0 := Nat.lt_of_lt_of_le h.lb0 k.size
  below := h.below.trans (k.below (B := w0.heap.size) h.below.size (fun _ _ x => x))

theorem alloc (h : ManyIs w0 pa pb f zs i1 i2 w) (o : Obj) : ManyIs w0 pa pb f zs i1 i2 (w.alloc o) := h.keep ((Keep.refl _ _).alloc o)
theorem drew (h : ManyIs w0 pa pb f zs i1 i2 w) : ManyIs w0 pa pb f zs i1 i2 w.drew := h.keep ((Keep.refl _ _).drew)
theorem drewN (h : ManyIs w0 pa pb f zs i1 i2 w) (n : Nat) : ManyIs w0 pa pb f zs i1 i2 (w.drewN n) := h.keep ((Keep.refl _ _).drewN n)

/-- The next Lazy is made. -/
theorem madeNext (h : ManyIs w0 pa pb f zs i1 i2 w) {x : ByteArray} (hx : zs[i1]? = some x) (l : LazyAt w' pa (i1 * 5) (some x)) (s : Span (fun _ => False) pa (i1 * 5) (i1 * 5 + 5) w w') : ManyIs w0 pa pb f zs (i1 + 1) i2 w' where
  la := fun j y hy => by
    by_cases e : j = i1
    · subst e
      rw [hx] at hy
      injection hy with hy
      subst hy
      rw [if_pos (by omega)]
      exact l
    · have q := (h.la j y hy).out s (by omega)
      by_cases hj : j < i1
      · rw [if_pos hj] at q; rw [if_pos (by omega)]; exact q
      · rw [if_neg hj] at q; rw [if_neg (by omega)]; exact q
  da := fun j hj => ⟨fun hi => by
      obtain ⟨q, hq, hd⟩ := (h.da j hj).1 hi
      exact ⟨q, hq, hd.keep s.keep (fun x => x.elim (fun e => h.ne e.symm) (fun y => y)) (fun x => x.elim hq (fun y => y))⟩,
    fun hi => s.far_door ((h.da j hj).2 hi) (fun e => h.ne e.symm) (fun _ _ e _ => by cases e) (fun y => y)⟩
  hpa := h.hpa
  hpb := h.hpb
  ne := h.ne
  la0 := Nat.lt_of_lt_of_le h.la0 s.keep.size
  lb0 := Nat.lt_of_lt_of_le h.lb0 s.keep.size
  below := h.below.trans (s.below h.below.size h.hpa (fun _ x => x.elim))

/-- The next door is opened. -/
theorem openNext (h : ManyIs w0 pa pb f zs i1 i2 w) {g : Nat} (hg : g = w.heap.size + 1) (d : DoorIn w' pb (i2 * 4) g (f i2)) (s : Span (fun _ => False) pb (i2 * 4) (i2 * 4 + 4) w w') : ManyIs w0 pa pb f zs i1 (i2 + 1) w' where
  la := fun j y hy => (h.la j y hy).keep s.keep (fun x => x.elim h.ne (fun y => y))
  da := fun j hj => ⟨fun hi => by
      by_cases e : j = i2
      · subst e
        exact ⟨g, by have := h.la0; omega, d⟩
      · obtain ⟨q, hq, hd⟩ := (h.da j hj).1 (by omega)
        exact ⟨q, hq, hd.out s (by omega) (fun y => y)⟩,
    fun hi => by
      obtain ⟨h1, h2, h3⟩ := (h.da j hj).2 (by omega)
      exact ⟨s.out h1 (by omega), s.out h2 (by omega), s.out h3 (by omega)⟩⟩
  hpa := h.hpa
  hpb := h.hpb
  ne := h.ne
  la0 := Nat.lt_of_lt_of_le h.la0 s.keep.size
  lb0 := Nat.lt_of_lt_of_le h.lb0 s.keep.size
  below := h.below.trans (s.below h.below.size h.hpb (fun _ x => x.elim))

theorem made (h : ManyIs w0 pa pb f zs i1 i2 w) {j : Nat} (hj : j < zs.length) :
    Calls Try.prog 7 #[.pointer (some ⟨pa, j * 5, none⟩)] w fun e w' => e = .returned (.bool (decide (j < i1))) ∧ w = w' := by
  refine (lazy_made pa (j * 5) _ w (h.la j zs[j] (List.getElem?_eq_getElem hj))).mono fun e w' ⟨h1, h2⟩ => ⟨?_, h2⟩
  rw [h1]
  by_cases hi : j < i1 <;> simp [hi]

theorem is (h : ManyIs w0 pa pb f zs i1 i2 w) {j : Nat} (hj : j < zs.length) :
    Calls Try.prog 11 #[.pointer (some ⟨pb, j * 4, none⟩)] w fun e w' => e = .returned (.bool (decide (j < i2))) ∧ w = w' := by
  by_cases hi : j < i2
  · obtain ⟨q, hq, hd⟩ := (h.da j hj).1 hi
    exact (door_is pb (j * 4) _ w hd.door).mono fun e w' ⟨h1, h2⟩ => ⟨by rw [h1]; simp [hi], h2⟩
  · exact (door_is pb (j * 4) _ w ((h.da j hj).2 hi)).mono fun e w' ⟨h1, h2⟩ => ⟨by rw [h1]; simp [hi], h2⟩

theorem made_no (h : ManyIs w0 pa pb f zs i1 i2 w) {j : Nat} (hj : j < zs.length) (hi : ¬ j < i1) :
    Calls Try.prog 7 #[.pointer (some ⟨pa, j * 5, none⟩)] w fun e w' => e = .returned (.bool false) ∧ w = w' :=
  (h.made hj).mono fun e w' ⟨h1, h2⟩ => ⟨by rw [h1, decide_eq_false hi], h2⟩
theorem made_yes (h : ManyIs w0 pa pb f zs i1 i2 w) {j : Nat} (hj : j < zs.length) (hi : j < i1) :
    Calls Try.prog 7 #[.pointer (some ⟨pa, j * 5, none⟩)] w fun e w' => e = .returned (.bool true) ∧ w = w' :=
  (h.made hj).mono fun e w' ⟨h1, h2⟩ => ⟨by rw [h1, decide_eq_true hi], h2⟩
theorem is_no (h : ManyIs w0 pa pb f zs i1 i2 w) {j : Nat} (hj : j < zs.length) (hi : ¬ j < i2) :
    Calls Try.prog 11 #[.pointer (some ⟨pb, j * 4, none⟩)] w fun e w' => e = .returned (.bool false) ∧ w = w' :=
  (h.is hj).mono fun e w' ⟨h1, h2⟩ => ⟨by rw [h1, decide_eq_false hi], h2⟩
theorem is_yes (h : ManyIs w0 pa pb f zs i1 i2 w) {j : Nat} (hj : j < zs.length) (hi : j < i2) :
    Calls Try.prog 11 #[.pointer (some ⟨pb, j * 4, none⟩)] w fun e w' => e = .returned (.bool true) ∧ w = w' :=
  (h.is hj).mono fun e w' ⟨h1, h2⟩ => ⟨by rw [h1, decide_eq_true hi], h2⟩

theorem who (h : ManyIs w0 pa pb f zs i1 i2 w) {j : Nat} (hj : j < zs.length) (hi : j < i2) :
    Calls Try.prog 12 #[.pointer (some ⟨pb, j * 4, none⟩)] w fun e w' => e = .returned (.int .i64 (f j)) ∧ w = w' := by
  obtain ⟨q, hq, hd⟩ := (h.da j hj).1 hi
  exact door_who_open pb (j * 4) _ w hd.door

theorem open_ (h : ManyIs w0 pa pb f zs i1 i2 w) (hj : i2 < zs.length) {v : Int} (hv : v = f i2) :
    Calls Try.prog 13 #[.pointer (some ⟨pb, i2 * 4, none⟩), .int .i64 v] w fun e w' => e = .returned (.bool true) ∧ ManyIs w0 pa pb f zs i1 (i2 + 1) w' ∧ Keep (fun k => k = pb) w w' := by
  subst hv
  exact (door_open_first pb (i2 * 4) (f i2) w ((h.da i2 hj).2 (by omega))).mono fun e w' ⟨h1, h2, h3⟩ => ⟨h1, h.openNext rfl h2 h3, h3.keep.mono (fun _ _ x => x.elim id (fun y => y.elim))⟩

theorem getNil (h : ManyIs w0 pa pb f zs i1 i2 w) {j : Nat} {x : ByteArray} (hx : zs[j]? = some x) (hi : j < i1) :
    Calls Try.prog 8 #[.pointer (some ⟨pa, j * 5, none⟩), .nilFunc] w fun e w' => e = .returned (.string x) ∧ ManyIs w0 pa pb f zs i1 i2 w' := by
  have q := h.la j x hx
  rw [if_pos hi] at q
  exact (lazy_get_again_none pa (j * 5) x w q).mono fun e w' ⟨h1, h2⟩ => ⟨h1, h.keep h2⟩
end ManyIs

set_option maxHeartbeats 400000 in
theorem many_maker (sb : Nat) (t : ByteArray) (w : World) (hs : Cell w sb 0 (.string t)) :
    Calls Try.prog 14 #[.pointer (some ⟨sb, 0, none⟩)] w fun e w' => e = .returned (.string t) ∧ w = w' := by
  have c0 := hs.1
  clear hs
  go_enter Try.func14, Try.ntmps14
  go_wp2
  go_ret
  exact ⟨rfl, rfl⟩

theorem ManyIs.get {w0 w : World} {pa pb i1 i2 : Nat} {f : Nat → Int} {zs : List ByteArray} (h : ManyIs w0 pa pb f zs i1 i2 w) {x : ByteArray} {sb : Nat} (hx : zs[i1]? = some x) (hs : Cell w sb 0 (.string x)) (hne : sb ≠ pa) :
    Calls Try.prog 8 #[.pointer (some ⟨pa, i1 * 5, none⟩), .func (.func 14) #[] #[.pointer (some ⟨sb, 0, none⟩)]] w fun e w' => e = .returned (.string x) ∧ ManyIs w0 pa pb f zs (i1 + 1) i2 w' ∧ Cell w' sb 0 (.string x) := by
  have q := h.la i1 x hx
  rw [if_neg (by omega)] at q
  refine (lazy_get_first (fun _ => False) (fun w => Cell w sb 0 (.string x)) pa (i1 * 5) _ _ x w q (fun _ x => x.elim) (makes_of (fun W => MuLone.run_callFunc_enter Try.func14 (by kernel_rfl) rfl _ W) (fun w1 sp => ?_)) (fun w1 w2 q sp => q.keep sp.keep (fun x => x.elim hne (fun y => y)))).mono ?_
  · have cs := hs.keep sp.keep (fun x => x.elim hne (fun y => y))
    exact (many_maker sb x w1 cs).mono fun e w2 ⟨h1, h2⟩ => ⟨h1, h2 ▸ Keep.refl _ w1, h2 ▸ cs⟩
  · rintro e w2 ⟨rfl, l2, s2, q2⟩
    exact ⟨rfl, h.madeNext hx l2 s2, q2⟩

theorem lazy_row : (Try.prog.info? 38).map (fun i => (i.zero, i.size, i.bytes)) = some (some (.agg #[.int .u32 0, .int .i32 0, .int .u32 0, .int .u32 0, .string ⟨#[]⟩]), 5, 32) := by kernel_rfl
theorem door_row : (Try.prog.info? 50).map (fun i => (i.zero, i.size, i.bytes)) = some (some (.agg #[.int .u32 0, .int .i32 0, .int .u32 0, .pointer none]), 4, 24) := by kernel_rfl

abbrev zLazy : Array Value := #[.int .u32 0, .int .i32 0, .int .u32 0, .int .u32 0, .string ⟨#[]⟩]
abbrev zDoor : Array Value := #[.int .u32 0, .int .i32 0, .int .u32 0, .pointer none]

theorem make_lazies (n : Nat) (h : n ≤ 30) (W : World) : (Instr.makeSlice 54 (.int .i64 (n : Int)) (.int .i64 (n : Int))).run Try.prog W = .ok (.slice (some ⟨W.heap.size, 0, none⟩) n n) (W.alloc (.cells (madeCells zLazy (n * 5)) 38)) := by
  obtain ⟨i, hi, he⟩ := Option.map_eq_some_iff.1 lazy_row
  injection he with h1 he
  injection he with h2 h3
  have r := run_make (P := Try.prog) W 54 38 i _ Try.underlying54 hi h1 .i64 .i64 n n (by omega) (by omega) (by rw [h3]; omega) (by omega)
  rw [h2] at r
  simp only [Int.toNat_natCast] at r
  exact r

theorem make_doors (n : Nat) (h : n ≤ 30) (W : World) : (Instr.makeSlice 55 (.int .i64 (n : Int)) (.int .i64 (n : Int))).run Try.prog W = .ok (.slice (some ⟨W.heap.size, 0, none⟩) n n) (W.alloc (.cells (madeCells zDoor (n * 4)) 50)) := by
  obtain ⟨i, hi, he⟩ := Option.map_eq_some_iff.1 door_row
  injection he with h1 he
  injection he with h2 h3
  have r := run_make (P := Try.prog) W 55 50 i _ Try.underlying55 hi h1 .i64 .i64 n n (by omega) (by omega) (by rw [h3]; omega) (by omega)
  rw [h2] at r
  simp only [Int.toNat_natCast] at r
  exact r

theorem fresh_lazy (w : World) (n j p : Nat) (hj : j < n) (hp : p = w.heap.size) : LazyAt (w.alloc (.cells (madeCells zLazy (n * 5)) 38)) p (j * 5) none :=
  ⟨made_cell w zLazy _ _ _ (by omega) _ (by rw [show (j * 5) % zLazy.size = 0 from by simp]; rfl) p hp, made_cell w zLazy _ _ _ (by omega) _ (by rw [show (j * 5 + 1) % zLazy.size = 1 from by simp]; rfl) p hp,
    made_cell w zLazy _ _ _ (by omega) _ (by rw [show (j * 5 + 3) % zLazy.size = 3 from by simp]; rfl) p hp, made_cell w zLazy _ _ _ (by omega) _ (by rw [show (j * 5 + 4) % zLazy.size = 4 from by simp]; rfl) p hp⟩

theorem fresh_door (w : World) (n j p : Nat) (hj : j < n) (hp : p = w.heap.size) : DoorAt (w.alloc (.cells (madeCells zDoor (n * 4)) 50)) p (j * 4) none :=
  ⟨made_cell w zDoor _ _ _ (by omega) _ (by rw [show (j * 4) % zDoor.size = 0 from by simp]; rfl) p hp, made_cell w zDoor _ _ _ (by omega) _ (by rw [show (j * 4 + 1) % zDoor.size = 1 from by simp]; rfl) p hp,
    made_cell w zDoor _ _ _ (by omega) _ (by rw [show (j * 4 + 3) % zDoor.size = 3 from by simp]; rfl) p hp⟩

theorem many_fresh {w0 w w1 w2 : World} (f : Nat → Int) (zs : List ByteArray) (n pa pb : Nat) (hl : zs.length = n) (hb : Below w0.heap.size w0 w)
    (h : (pa = w.heap.size ∧ pb = w.heap.size + 1 ∧ w2 = (w.alloc (.cells (madeCells zLazy (n * 5)) 38)).alloc (.cells (madeCells zDoor (n * 4)) 50)) ∨ (pb = w.heap.size ∧ pa = w.heap.size + 1 ∧ w2 = (w.alloc (.cells (madeCells zDoor (n * 4)) 50)).alloc (.cells (madeCells zLazy (n * 5)) 38))) : ManyIs w0 pa pb f zs 0 0 w2 := by
  have hs := hb.size
  have hlt : ∀ {j : Nat} {x : ByteArray}, zs[j]? = some x → j < n := fun hx => by rw [← hl]; exact (List.getElem?_eq_some_iff.1 hx).1
  rcases h with ⟨h1, h2, rfl⟩ | ⟨h1, h2, rfl⟩
  · exact ⟨fun j x hx => by rw [if_neg (by omega)]; exact (fresh_lazy w n j pa (hlt hx) h1).keep (S := fun _ => False) ((Keep.refl _ _).alloc _) (fun x => x),
      fun j hj => ⟨fun hi => by omega, fun _ => fresh_door _ n j pb (by omega) (by simpa using h2)⟩, by omega, by omega, by omega, by simp; omega, by simp; omega, (hb.alloc hs _).alloc (by simp; omega) _⟩
  · exact ⟨fun j x hx => by rw [if_neg (by omega)]; exact fresh_lazy _ n j pa (hlt hx) (by simpa using h2),
      fun j hj => ⟨fun hi => by omega, fun _ => (fresh_door w n j pb (by omega) h1).keep (S := fun _ => False) ((Keep.refl _ _).alloc _) (fun _ x => x.elim)⟩, by omega, by omega, by omega, by simp; omega, by simp; omega, (hb.alloc hs _).alloc (by simp; omega) _⟩

end Go.Proofs.Ytfjjnjndaboicaa
