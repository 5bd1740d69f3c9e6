/- The contracts of lazy.Door and lazy.Lazy, anywhere in a block. Own work. -/
import Derived.Test.YtfjjnjndaboicaaPtr
import Derived.Recover
namespace Go.Proofs.Ytfjjnjndaboicaa
set_option linter.unusedVariables false
open Go.RowKit Go.MuLone

/-- A cell that may be set. -/
def Cell (w : World) (b o : Nat) (v : Value) : Prop := w.cell? ⟨b, o, none⟩ = some v ∧ w.frozen? ⟨b, o, none⟩ = false

theorem Cell.lt {w : World} {b o : Nat} {v : Value} (h : Cell w b o v) : b < w.heap.size := World.block_lt_of_cell? w _ h.1
theorem Cell.keep {S : Nat → Prop} {w w' : World} {b o : Nat} {v : Value} (h : Cell w b o v) (k : Keep S w w') (hn : ¬ S b) : Cell w' b o v :=
  ⟨(k.cell (p := ⟨b, o, none⟩) h.lt hn).trans h.1, (k.frozen (p := ⟨b, o, none⟩) h.lt hn).trans h.2⟩
theorem Cell.alloc {w : World} {b o : Nat} {v : Value} (h : Cell w b o v) (x : Obj) : Cell (w.alloc x) b o v := h.keep (S := fun _ => False) ((Keep.refl _ w).alloc x) (fun y => y)
theorem Cell.drew {w : World} {b o : Nat} {v : Value} (h : Cell w b o v) : Cell w.drew b o v := h
theorem Cell.set {w : World} {b o : Nat} {v : Value} (h : Cell w b o v) (u : Value) : Cell (w.setCell ⟨b, o, none⟩ u) b o u := ⟨World.cell?_setCell_same _ _ _ h.1, by simp [h.2]⟩
theorem Cell.far {w : World} {b o : Nat} {v : Value} (h : Cell w b o v) {k i : Nat} (hn : ¬ (k = b ∧ i = o)) (u : Value) : Cell (w.setCell ⟨k, i, none⟩ u) b o v :=
  ⟨(World.cell?_setCell_other _ ⟨k, i, none⟩ ⟨b, o, none⟩ _ (by simp; omega)).trans h.1, by simp [h.2]⟩
theorem cell_in {w : World} {p : Nat} {cs : Array Value} {t : TypeId} (h : w.heap[p]? = some (.cells cs t (0, 0))) (i : Nat) {v : Value} (hv : cs[i]? = some v) : Cell w p i v := ⟨(cell_at h i).trans hv, free_at h i⟩
theorem Cell.box {w : World} {cs : Array Value} {t : TypeId} (i : Nat) {v : Value} (hv : cs[i]? = some v) : Cell (w.alloc (.cells cs t)) w.heap.size i v := cell_in (heap_alloc_new w _) i hv

/-- What a call that works on the cells lo to hi of block b leaves: all else, but for the blocks of S. -/
structure Span (S : Nat → Prop) (b lo hi : Nat) (w w' : World) : Prop where
  keep : Keep (fun k => k = b ∨ S k) w w'
  cell : ∀ o, (o < lo ∨ hi ≤ o) → w'.cell? ⟨b, o, none⟩ = w.cell? ⟨b, o, none⟩
  fr : ∀ o, w'.frozen? ⟨b, o, none⟩ = w.frozen? ⟨b, o, none⟩

namespace Span
variable {S : Nat → Prop} {b lo hi : Nat} {w w1 w2 : World}
theorem refl (S : Nat → Prop) (b lo hi : Nat) (w : World) : Span S b lo hi w w := ⟨Keep.refl _ w, fun _ _ => rfl, fun _ => rfl⟩
theorem trans (h : Span S b lo hi w w1) (k : Span S b lo hi w1 w2) : Span S b lo hi w w2 :=
  ⟨h.keep.trans k.keep (fun _ _ x => x), fun o ho => (k.cell o ho).trans (h.cell o ho), fun o => (k.fr o).trans (h.fr o)⟩
theorem mono {S' : Nat → Prop} (h : Span S b lo hi w w1) (hs : ∀ i, S i → S' i) : Span S' b lo hi w w1 := ⟨h.keep.mono (fun i _ x => x.imp id (hs i)), h.cell, h.fr⟩
theorem alloc (h : Span S b lo hi w w1) (hb : b < w1.heap.size) (o : Obj) : Span S b lo hi w (w1.alloc o) :=
  ⟨h.keep.alloc o, fun i hi => (World.cell?_alloc_past _ _ _ hb).trans (h.cell i hi), fun i => (World.frozen?_alloc_past _ _ _ hb).trans (h.fr i)⟩
theorem drew (h : Span S b lo hi w w1) : Span S b lo hi w w1.drew := ⟨h.keep.drew, h.cell, h.fr⟩
theorem set (h : Span S b lo hi w w1) {o : Nat} (ho : lo ≤ o ∧ o < hi) (u : Value) : Span S b lo hi w (w1.setCell ⟨b, o, none⟩ u) :=
  ⟨h.keep.setCell (fun _ => .inl rfl) u, fun i hi => (World.cell?_setCell_other _ ⟨b, o, none⟩ ⟨b, i, none⟩ _ (fun e => by injection e; omega)).trans (h.cell i hi), fun i => by simp [h.fr i]⟩
theorem far (h : Span S b lo hi w w1) {k o : Nat} (hk : k < w.heap.size → S k) (hn : k ≠ b) (u : Value) : Span S b lo hi w (w1.setCell ⟨k, o, none⟩ u) :=
  ⟨h.keep.setCell (fun x => .inr (hk x)) u, fun i hi => (World.cell?_setCell_other _ ⟨k, o, none⟩ ⟨b, i, none⟩ _ (fun e => by injection e; omega)).trans (h.cell i hi), fun i => by simp [h.fr i]⟩
theorem of_keep (k : Keep S w w1) (hb : b < w.heap.size) (hn : ¬ S b) : Span S b lo hi w w1 :=
  ⟨k.mono (fun _ _ x => .inr x), fun i _ => k.cell (p := ⟨b, i, none⟩) hb hn, fun i => k.frozen (p := ⟨b, i, none⟩) hb hn⟩
theorem out (h : Span S b lo hi w w1) {o : Nat} {v : Value} (c : Cell w b o v) (ho : o < lo ∨ hi ≤ o) : Cell w1 b o v := ⟨(h.cell o ho).trans c.1, (h.fr o).trans c.2⟩
end Span

/-- A Once at an offset. -/
theorem once_of {w : World} {b off : Nat} {d : Int} (h0 : Cell w b off (.int .u32 d)) (h1 : Cell w b (off + 1) (.int .i32 0)) : OnceAt b off d w := ⟨h0.1, h0.2, h1.1, h1.2⟩
theorem held_of {w : World} {b off : Nat} (h0 : Cell w b off (.int .u32 0)) (h1 : Cell w b (off + 1) (.int .i32 1)) : OnceHeld b off w := ⟨h0.1, h0.2, h1.1, h1.2⟩

/-! ### Door -/

/-- A door: shut, or opened by n. -/
def DoorAt (w : World) (b off : Nat) : Option Int → Prop
  | none => Cell w b off (.int .u32 0) ∧ Cell w b (off + 1) (.int .i32 0) ∧ Cell w b (off + 3) (.pointer none)
  | some n => Cell w b off (.int .u32 1) ∧ Cell w b (off + 1) (.int .i32 0) ∧ ∃ q, q ≠ b ∧ Cell w b (off + 3) (.pointer (some ⟨q, 0, none⟩)) ∧ IntBox w q n

/-- Where it keeps who opened it. -/
def DoorIn (w : World) (b off q : Nat) (n : Int) : Prop :=
  Cell w b off (.int .u32 1) ∧ Cell w b (off + 1) (.int .i32 0) ∧ q ≠ b ∧ Cell w b (off + 3) (.pointer (some ⟨q, 0, none⟩)) ∧ IntBox w q n

theorem DoorIn.door {w : World} {b off q : Nat} {n : Int} (h : DoorIn w b off q n) : DoorAt w b off (some n) := ⟨h.1, h.2.1, q, h.2.2.1, h.2.2.2.1, h.2.2.2.2⟩

set_option maxHeartbeats 400000 in
theorem door_is (b off : Nat) (s : Option Int) (w : World) (h : DoorAt w b off s) :
    Calls Try.prog 11 #[.pointer (some ⟨b, off, none⟩)] w fun e w' => e = .returned (.bool s.isSome) ∧ w = w' := by
  cases s with
  | none =>
    have H := Lib.hid (ptr_load_none b (off + 3) w h.2.2.1)
    clear h
    go_enter Try.func11, Try.ntmps11
    go_wp2_with fail
    refine H.out.mono ?_
    rintro e w1 ⟨rfl, rfl⟩
    go_wp2_with fail
    go_ret
    exact ⟨rfl, rfl⟩
  | some n =>
    obtain ⟨_, _, q, _, hc, hq⟩ := h
    have H := Lib.hid (ptr_load_some b (off + 3) q n w hc.1 hq)
    clear hc hq
    go_enter Try.func11, Try.ntmps11
    go_wp2_with fail
    refine H.out.mono ?_
    rintro e w1 ⟨rfl, rfl⟩
    go_wp2_with fail
    go_ret
    exact ⟨rfl, rfl⟩

set_option maxHeartbeats 400000 in
theorem door_is_nil (w : World) : Calls Try.prog 11 #[.pointer none] w fun e w' => e = .returned (.bool false) ∧ w = w' := by
  go_enter Try.func11, Try.ntmps11
  go_wp2
  go_ret
  exact ⟨rfl, rfl⟩

set_option maxHeartbeats 400000 in
theorem door_who_shut (b off : Nat) (w : World) (h : DoorAt w b off none) :
    Calls Try.prog 12 #[.pointer (some ⟨b, off, none⟩)] w fun e w' => e = .returned (.int .i64 0) ∧ w = w' := by
  have H := Lib.hid (door_is b off none w h)
  clear h
  go_enter Try.func12, Try.ntmps12
  go_wp2_with fail
  refine H.out.mono ?_
  rintro e w1 ⟨rfl, rfl⟩
  go_wp2_with fail
  go_ret
  exact ⟨rfl, rfl⟩

set_option maxHeartbeats 400000 in
theorem door_who_open (b off : Nat) (n : Int) (w : World) (h : DoorAt w b off (some n)) :
    Calls Try.prog 12 #[.pointer (some ⟨b, off, none⟩)] w fun e w' => e = .returned (.int .i64 n) ∧ w = w' := by
  have H := Lib.hid (door_is b off (some n) w h)
  obtain ⟨_, _, q, _, hc, hq⟩ := h
  have H2 := Lib.hid (ptr_load_some b (off + 3) q n w hc.1 hq)
  have hcq : w.cell? ⟨q, 0, none⟩ = some (.int .i64 n) := cell_at hq 0
  clear hc hq
  go_enter Try.func12, Try.ntmps12
  go_wp2_with fail
  refine H.out.mono ?_
  rintro e w1 ⟨rfl, rfl⟩
  go_wp2_with fail
  refine H2.out.mono ?_
  rintro e w1 ⟨rfl, rfl⟩
  go_wp2_with fail
  go_ret
  exact ⟨rfl, rfl⟩

set_option maxHeartbeats 400000 in
theorem door_who_nil (w : World) : Calls Try.prog 12 #[.pointer none] w fun e w' => e = .returned (.int .i64 0) ∧ w = w' := by
  go_enter Try.func12, Try.ntmps12
  go_wp2_with fail
  refine (door_is_nil w).mono ?_
  rintro e w1 ⟨rfl, rfl⟩
  go_wp2_with fail
  go_ret
  exact ⟨rfl, rfl⟩

set_option maxHeartbeats 400000 in
/-- What the Once calls. -/
theorem door_opener (g b off : Nat) (n : Int) (u : Value) (w : World) (h0 : Cell w g 0 (.pointer (some ⟨b, off, none⟩))) (h1 : IntBox w (g + 1) n) (h2 : Cell w (g + 2) 0 (.bool false)) (hc : Cell w b (off + 3) u) (hne : g ≠ b ∧ g + 2 ≠ b) :
    Calls Try.prog 22 #[.pointer (some ⟨g, 0, none⟩), .pointer (some ⟨g + 1, 0, none⟩), .pointer (some ⟨g + 2, 0, none⟩)] w fun e w' =>
      e = .returned (.tuple #[]) ∧ w' = (w.setCell ⟨b, off + 3, none⟩ (.pointer (some ⟨g + 1, 0, none⟩))).setCell ⟨g + 2, 0, none⟩ (.bool true) := by
  have H := Lib.hid (ptr_store b (off + 3) (g + 1) n u w hc.1 hc.2 h1)
  have c0 := h0.1
  have c2 := (h2.far (k := b) (i := off + 3) (by omega) (.pointer (some ⟨g + 1, 0, none⟩)))
  have c2a := c2.1
  have c2b := c2.2
  clear h0 h1 h2 hc c2
  go_enter Try.func22, Try.ntmps22
  go_wp2_with fail
  refine H.out.mono ?_
  rintro e w1 ⟨rfl, rfl⟩
  go_wp2_with fail
  go_end0
  exact ⟨rfl, rfl⟩

set_option maxRecDepth 100000 in
set_option maxHeartbeats 1600000 in
theorem door_open_first (b off : Nat) (n : Int) (w : World) (h : DoorAt w b off none) :
    Calls Try.prog 13 #[.pointer (some ⟨b, off, none⟩), .int .i64 n] w fun e w' =>
      e = .returned (.bool true) ∧ DoorIn w' b off (w.heap.size + 1) n ∧ Span (fun _ => False) b off (off + 4) w w' := by
  have hmf := run_makeFunc Try.prog
  have hb := h.1.lt
  obtain ⟨w3, hw3⟩ : ∃ w3, w3 = ((w.alloc (.cells #[.pointer (some ⟨b, off, none⟩)] 43)).alloc (.cells #[.int .i64 n] 3)).alloc (.cells #[.bool false] 4) := ⟨_, rfl⟩
  have s3 : Span (fun _ => False) b off (off + 4) w w3 := by
    rw [hw3]
    exact (((Span.refl _ _ _ _ w).alloc hb _).alloc (by simp; omega) _).alloc (by simp; omega) _
  have e0 : Cell w3 w.heap.size 0 (.pointer (some ⟨b, off, none⟩)) := by
    rw [hw3]; exact ((Cell.box 0 rfl).alloc _).alloc _
  have e1 : IntBox w3 (w.heap.size + 1) n := by
    have x := heap_alloc_new (w.alloc (.cells #[.pointer (some ⟨b, off, none⟩)] 43)) (.cells #[.int .i64 n] 3)
    rw [hw3]; exact heap_alloc (by simpa using x) _
  have e2 : Cell w3 (w.heap.size + 2) 0 (.bool false) := by
    have x := Cell.box (w := (w.alloc (.cells #[.pointer (some ⟨b, off, none⟩)] 43)).alloc (.cells #[.int .i64 n] 3)) (cs := #[.bool false]) (t := 4) 0 rfl
    rw [hw3]; simpa using x
  have d0 : Cell w3 b off (.int .u32 0) := by rw [hw3]; exact ((h.1.alloc _).alloc _).alloc _
  have d1 : Cell w3 b (off + 1) (.int .i32 0) := by rw [hw3]; exact ((h.2.1.alloc _).alloc _).alloc _
  have d3 : Cell w3 b (off + 3) (.pointer none) := by rw [hw3]; exact ((h.2.2.alloc _).alloc _).alloc _
  have hop := door_opener w.heap.size b off n (.pointer none) (w3.setCell ⟨b, off + 1, none⟩ (.int .i32 1)) (e0.far (by omega) _) (by unfold IntBox; exact heap_far e1 (show w.heap.size + 1 ≠ b by omega) _) (e2.far (by omega) _) (d3.far (by omega) _) ⟨by omega, by omega⟩
  obtain ⟨w5, hw5⟩ : ∃ w5, w5 = ((w3.setCell ⟨b, off + 1, none⟩ (.int .i32 1)).setCell ⟨b, off + 3, none⟩ (.pointer (some ⟨w.heap.size + 1, 0, none⟩))).setCell ⟨w.heap.size + 2, 0, none⟩ (.bool true) := ⟨_, rfl⟩
  have s5 : Span (fun _ => False) b off (off + 4) w w5 := by
    rw [hw5]; exact ((s3.set (by omega) _).set (by omega) _).far (fun x => by omega) (by omega) _
  have k0 : Cell w5 b off (.int .u32 0) := by rw [hw5]; exact ((d0.far (by omega) _).far (by omega) _).far (by omega) _
  have k1 : Cell w5 b (off + 1) (.int .i32 1) := by rw [hw5]; exact ((d1.set _).far (by omega) _).far (by omega) _
  have k3 : Cell w5 b (off + 3) (.pointer (some ⟨w.heap.size + 1, 0, none⟩)) := by rw [hw5]; exact ((d3.far (by omega) _).set _).far (by omega) _
  have k4 : IntBox w5 (w.heap.size + 1) n := by
    rw [hw5]; exact heap_far (heap_far (heap_far e1 (show w.heap.size + 1 ≠ b by omega) _) (show w.heap.size + 1 ≠ b by omega) _) (show w.heap.size + 1 ≠ w.heap.size + 2 by omega) _
  have k5 : Cell w5 (w.heap.size + 2) 0 (.bool true) := by rw [hw5]; exact ((e2.far (by omega) _).far (by omega) _).set _
  have hd := do_first b off 22 #[.pointer (some ⟨w.heap.size, 0, none⟩), .pointer (some ⟨w.heap.size + 1, 0, none⟩), .pointer (some ⟨w.heap.size + 2, 0, none⟩)] (fun w2 => w2 = w5) w3 (once_of d0 d1)
    (fun W => MuLone.run_callFunc_enter Try.func22 (by kernel_rfl) rfl _ W)
    (hop.mono fun e w' ⟨h1, h2⟩ => ⟨h1, by rw [h2, hw5]⟩) (fun w' hw => by rw [hw]; exact held_of k0 k1)
  obtain ⟨w6, hw6⟩ : ∃ w6, w6 = onceDone b off w5 := ⟨_, rfl⟩
  have s6 : Span (fun _ => False) b off (off + 4) w w6 := by
    rw [hw6]; exact (s5.drew.set (by omega) _).set (by omega) _
  have D : DoorIn w6 b off (w.heap.size + 1) n := by
    rw [hw6]
    exact ⟨(k0.drew.set _).far (by omega) _, (k1.drew.far (by omega) _).set _, by omega, (k3.drew.far (by omega) _).far (by omega) _, heap_far (w := w5.drew.setCell ⟨b, off, none⟩ (.int .u32 1)) (heap_far (w := w5.drew) k4 (show w.heap.size + 1 ≠ b by omega) _) (show w.heap.size + 1 ≠ b by omega) _⟩
  have c6 : Cell w6 (w.heap.size + 2) 0 (.bool true) := by
    rw [hw6]; exact (k5.drew.far (by omega) _).far (by omega) _
  have hc6 := c6.1
  have HD := Lib.hid hd
  have HS := Lib.hid s6
  have HB := Lib.hid D
  have HW := Lib.hid hw6
  have HW3 := Lib.hid hw3
  clear hd s6 D hw6 c6 k0 k1 k3 k4 k5 s5 hw5 hop d0 d1 d3 e0 e1 e2 s3 hw3 h hb
  go_enter Try.func13, Try.ntmps13
  go_wp2_with fail
  rw [← HW3.out]
  refine HD.out.mono ?_
  rintro e w1 ⟨rfl, w2, rfl, hw1⟩
  rw [← HW.out] at hw1
  subst hw1
  go_wp2_with fail
  go_ret
  exact ⟨rfl, HB.out, HS.out⟩

set_option maxHeartbeats 400000 in
theorem door_open_again (b off : Nat) (m n : Int) (w : World) (h : DoorAt w b off (some m)) :
    Calls Try.prog 13 #[.pointer (some ⟨b, off, none⟩), .int .i64 n] w fun e w' => e = .returned (.bool false) ∧ Keep (fun _ => False) w w' := by
  have hmf := run_makeFunc Try.prog
  have d0 := ((h.1.alloc (.cells #[.pointer (some ⟨b, off, none⟩)] 43)).alloc (.cells #[.int .i64 n] 3)).alloc (.cells #[.bool false] 4)
  have d1 := ((h.2.1.alloc (.cells #[.pointer (some ⟨b, off, none⟩)] 43)).alloc (.cells #[.int .i64 n] 3)).alloc (.cells #[.bool false] 4)
  have H := Lib.hid (once_of d0 d1)
  have hk : Keep (fun _ => False) w (((w.alloc (.cells #[.pointer (some ⟨b, off, none⟩)] 43)).alloc (.cells #[.int .i64 n] 3)).alloc (.cells #[.bool false] 4)) := (((Keep.refl _ w).alloc _).alloc _).alloc _
  have HK := Lib.hid hk
  clear d0 d1 hk h
  go_enter Try.func13, Try.ntmps13
  go_wp2_with fail
  refine (do_done b off _ _ H.out).mono ?_
  rintro e w1 ⟨rfl, rfl⟩
  go_wp2_with fail
  go_ret
  exact ⟨rfl, HK.out⟩

set_option maxHeartbeats 400000 in
theorem door_open_nil (v : Int) (w : World) : Calls Try.prog 13 #[.pointer none, .int .i64 v] w fun e w' => e = .returned (.bool false) ∧ Keep (fun _ => False) w w' := by
  have hk : Keep (fun _ => False) w ((w.alloc (.cells #[.pointer none] 43)).alloc (.cells #[.int .i64 v] 3)) := ((Keep.refl _ w).alloc _).alloc _
  have HK := Lib.hid hk
  clear hk
  go_enter Try.func13, Try.ntmps13
  go_wp2
  go_ret
  exact ⟨rfl, HK.out⟩

end Go.Proofs.Ytfjjnjndaboicaa
