/- The contracts of tally.Board: its map, its names' tallies. Own work. -/
import Derived.Test.YtkhhmnmemdadmaaGreatTallyTop
import Derived.Test.YtkhhmnmemdadmaaGreatOnce
import Derived.Test.YtkhhmnmemdadmaaGreatMapS
namespace Go.Proofs.YtkhhmnmemdadmaaGreat
set_option linter.unusedVariables false
open Go.RowKit Go.MuLone

/-- A board's block: its Once (done, the Once's lock), its own lock, its map. -/
def BBlk (w : World) (p : Nat) (d om lv : Int) (mv : Value) : Prop := w.heap[p]? = some (.cells #[.int .u32 d, .int .i32 om, .int .u32 0, .int .i32 lv, .int .u32 0, mv] 40 (0, 0))

namespace BBlk
variable {w w' : World} {p : Nat} {d om lv : Int} {mv : Value}
theorem c0 (h : BBlk w p d om lv mv) : w.cell? ⟨p, 0, none⟩ = some (.int .u32 d) := cell_at h 0
theorem c1 (h : BBlk w p d om lv mv) : w.cell? ⟨p, 1, none⟩ = some (.int .i32 om) := cell_at h 1
theorem c3 (h : BBlk w p d om lv mv) : w.cell? ⟨p, 3, none⟩ = some (.int .i32 lv) := cell_at h 3
theorem c5 (h : BBlk w p d om lv mv) : w.cell? ⟨p, 5, none⟩ = some mv := cell_at h 5
theorem fr (h : BBlk w p d om lv mv) (i : Nat) : w.frozen? ⟨p, i, none⟩ = false := free_at h i
theorem set0 (h : BBlk w p d om lv mv) (v : Int) : BBlk (w.setCell ⟨p, 0, none⟩ (.int .u32 v)) p v om lv mv := heap_set h 0 _
theorem set1 (h : BBlk w p d om lv mv) (v : Int) : BBlk (w.setCell ⟨p, 1, none⟩ (.int .i32 v)) p d v lv mv := heap_set h 1 _
theorem set3 (h : BBlk w p d om lv mv) (v : Int) : BBlk (w.setCell ⟨p, 3, none⟩ (.int .i32 v)) p d om v mv := heap_set h 3 _
theorem set5 (h : BBlk w p d om lv mv) (v : Value) : BBlk (w.setCell ⟨p, 5, none⟩ v) p d om lv v := heap_set h 5 _
theorem lt (h : BBlk w p d om lv mv) : p < w.heap.size := lt_heap h
theorem keep {S : Nat → Prop} (h : BBlk w p d om lv mv) (k : Keep S w w') (hn : ¬ S p) : BBlk w' p d om lv mv := k.heap h hn
theorem once (h : BBlk w p d 0 lv mv) : OnceAt p 0 d w := ⟨h.c0, h.fr 0, h.c1, h.fr 1⟩
end BBlk

/-- A board whose map is made. -/
structure Ready (w : World) (p bm : Nat) (own : Nat → Prop) (ks : List (List UInt8)) (a : List UInt8 → Nat) (g : List UInt8 → Int) (lv : Int) : Prop where
  blk : BBlk w p 1 0 lv (.map (some bm))
  ownp : own p
  ownm : own bm
  ne : bm ≠ p
  lt : ∀ k, own k → k < w.heap.size
  zero : ∀ x, x ∉ ks → g x = 0
  map : MapS Tryz.prog 9 w bm ks (fun x => .pointer (some ⟨a x, 0, none⟩))
  tal : ∀ x ∈ ks, own (a x) ∧ a x ≠ p ∧ a x ≠ bm ∧ TalAt w (a x) 0 (g x)
  inj : ∀ x ∈ ks, ∀ y ∈ ks, a x = a y → x = y

/-- A board: fresh, or with its map. -/
def BoardAt (w : World) (p : Nat) (own : Nat → Prop) (ks : List (List UInt8)) (a : List UInt8 → Nat) (g : List UInt8 → Int) (lv : Int) : Prop :=
  (BBlk w p 0 0 lv (.map none) ∧ ks = [] ∧ own p ∧ (∀ k, own k → k < w.heap.size) ∧ ∀ x, g x = 0) ∨ ∃ bm, Ready w p bm own ks a g lv

namespace Ready
variable {w w' : World} {p bm : Nat} {own : Nat → Prop} {ks : List (List UInt8)} {a : List UInt8 → Nat} {g : List UInt8 → Int} {lv : Int}

theorem keep {S : Nat → Prop} (h : Ready w p bm own ks a g lv) (k : Keep S w w') (hn : ∀ i, own i → ¬ S i) : Ready w' p bm own ks a g lv :=
  { blk := h.blk.keep k (hn p h.ownp), ownp := h.ownp, ownm := h.ownm, ne := h.ne, lt := fun i hi => Nat.lt_of_lt_of_le (h.lt i hi) k.size, zero := h.zero, map := h.map.keep k (hn bm h.ownm)
    tal := fun x hx => by obtain ⟨h1, h2, h3, h4⟩ := h.tal x hx; exact ⟨h1, h2, h3, h4.keep k (hn _ h1)⟩
    inj := h.inj }

/-- The lock's cell is set. -/
theorem setLock (h : Ready w p bm own ks a g lv) (v : Int) : Ready (w.setCell ⟨p, 3, none⟩ (.int .i32 v)) p bm own ks a g v :=
  have k := keep_set w p 3 (.int .i32 v)
  { blk := h.blk.set3 v, ownp := h.ownp, ownm := h.ownm, ne := h.ne, lt := fun i hi => Nat.lt_of_lt_of_le (h.lt i hi) k.size, zero := h.zero, map := h.map.keep k h.ne
    tal := fun x hx => by obtain ⟨h1, h2, h3, h4⟩ := h.tal x hx; exact ⟨h1, h2, h3, h4.keep k h2⟩
    inj := h.inj }

/-- A tally of it is set. -/
theorem setTal (h : Ready w p bm own ks a g lv) {s : List UInt8} (hs : s ∈ ks) {v : Int} (t : SetTo (a s) 0 (.int .i64 v) w w') : Ready w' p bm own ks a (setAt g s v) lv :=
  have k := t.keep
  have ts := h.tal s hs
  { blk := h.blk.keep k (fun e => ts.2.1 e.symm), ownp := h.ownp, ownm := h.ownm, ne := h.ne, lt := fun i hi => Nat.lt_of_lt_of_le (h.lt i hi) k.size
    zero := fun x hx => by rw [setAt_other g v (fun e : x = s => hx (by rw [e]; exact hs))]; exact h.zero x hx
    map := h.map.keep k (fun e => ts.2.2.1 e.symm)
    tal := fun x hx => by
      obtain ⟨h1, h2, h3, h4⟩ := h.tal x hx
      by_cases e : x = s
      · subst e
        rw [setAt_same]
        exact ⟨h1, h2, h3, h4.set t⟩
      · rw [setAt_other g v e]
        exact ⟨h1, h2, h3, h4.keep k (fun e2 => e (h.inj x hx s hs e2))⟩
    inj := h.inj }
end Ready

namespace BoardAt
variable {w w' : World} {p : Nat} {own : Nat → Prop} {ks : List (List UInt8)} {a : List UInt8 → Nat} {g : List UInt8 → Int} {lv : Int}
theorem ownp (h : BoardAt w p own ks a g lv) : own p := by
  rcases h with ⟨_, _, h, _⟩ | ⟨bm, h⟩
  · exact h
  · exact h.ownp
theorem lt (h : BoardAt w p own ks a g lv) : ∀ k, own k → k < w.heap.size := by
  rcases h with ⟨_, _, _, h, _⟩ | ⟨bm, h⟩
  · exact h
  · exact h.lt
theorem c3 (h : BoardAt w p own ks a g lv) : w.cell? ⟨p, 3, none⟩ = some (.int .i32 lv) := by
  rcases h with ⟨h, _⟩ | ⟨bm, h⟩
  · exact h.c3
  · exact h.blk.c3
theorem fr (h : BoardAt w p own ks a g lv) (i : Nat) : w.frozen? ⟨p, i, none⟩ = false := by
  rcases h with ⟨h, _⟩ | ⟨bm, h⟩
  · exact h.fr i
  · exact h.blk.fr i
theorem zero (h : BoardAt w p own ks a g lv) : ∀ x, x ∉ ks → g x = 0 := by
  rcases h with ⟨_, _, _, _, h⟩ | ⟨bm, h⟩
  · exact fun x _ => h x
  · exact h.zero
theorem nodup (h : BoardAt w p own ks a g lv) : ks.Nodup := by
  rcases h with ⟨_, rfl, _⟩ | ⟨bm, h⟩
  · exact List.nodup_nil
  · exact h.map.nodup
theorem setLock (h : BoardAt w p own ks a g lv) (v : Int) : BoardAt (w.setCell ⟨p, 3, none⟩ (.int .i32 v)) p own ks a g v := by
  rcases h with ⟨h1, h2, h3, h4, h5⟩ | ⟨bm, h⟩
  · exact .inl ⟨h1.set3 v, h2, h3, fun i hi => Nat.lt_of_lt_of_le (h4 i hi) (keep_set w p 3 (.int .i32 v)).size, h5⟩
  · exact .inr ⟨bm, h.setLock v⟩
theorem keep {S : Nat → Prop} (h : BoardAt w p own ks a g lv) (k : Keep S w w') (hn : ∀ i, own i → ¬ S i) : BoardAt w' p own ks a g lv := by
  rcases h with ⟨h1, h2, h3, h4, h5⟩ | ⟨bm, h⟩
  · exact .inl ⟨h1.keep k (hn p h3), h2, h3, fun i hi => Nat.lt_of_lt_of_le (h4 i hi) k.size, h5⟩
  · exact .inr ⟨bm, h.keep k hn⟩
/-- A fresh one. -/
theorem made (w : World) (q : Nat) (hq : q = w.heap.size) (o : Obj) (ho : o = .cells #[.int .u32 0, .int .i32 0, .int .u32 0, .int .i32 0, .int .u32 0, .map none] 40) : BoardAt (w.alloc o) q (· = q) [] a (fun _ => 0) 0 := by
  subst hq ho
  exact .inl ⟨heap_alloc_new w _, rfl, rfl, fun k hk => by simp; omega, fun _ => rfl⟩
end BoardAt

set_option maxHeartbeats 400000 in
/-- The closure that makes the map. -/
theorem maker_any (q p : Nat) (v5 : Value) (w : World) (hq : w.cell? ⟨q, 0, none⟩ = some (.pointer (some ⟨p, 0, none⟩))) (h5 : w.cell? ⟨p, 5, none⟩ = some v5) (f5 : w.frozen? ⟨p, 5, none⟩ = false) :
    Calls Tryz.prog 66 #[.pointer (some ⟨q, 0, none⟩)] w fun e w' => e = .returned (.tuple #[]) ∧ w' = (w.alloc (.map #[] 0)).setCell ⟨p, 5, none⟩ (.map (some w.heap.size)) := by
  have hmm := @run_makeMap Tryz.prog
  have hp := World.block_lt_of_cell? w _ h5
  have h5' : (w.alloc (.map #[] 0)).cell? ⟨p, 5, none⟩ = some v5 := by rw [World.cell?_alloc_past _ _ _ hp]; exact h5
  have f5' : (w.alloc (.map #[] 0)).frozen? ⟨p, 5, none⟩ = false := by rw [World.frozen?_alloc_past _ _ _ hp]; exact f5
  clear hp
  go_enter Tryz.func66, Tryz.ntmps66
  go_wp2
  go_end0
  exact ⟨rfl, rfl⟩

/-- What Do leaves of a fresh board. -/
theorem made_map {w : World} {p : Nat} {own : Nat → Prop} {a : List UInt8 → Nat} {g : List UInt8 → Int} {lv : Int} (h : BBlk w p 0 0 lv (.map none)) (hp : own p) (hlt : ∀ k, own k → k < w.heap.size) (hg : ∀ x, g x = 0) {w2 w' : World}
    (h2 : w2 = (((w.alloc (.cells #[.pointer (some ⟨p, 0, none⟩)] 25)).setCell ⟨p, 0 + 1, none⟩ (.int .i32 1)).alloc (.map #[] 0)).setCell ⟨p, 5, none⟩ (.map (some (w.heap.size + 1)))) (h' : w' = onceDone p 0 w2) :
    Ready w' p (w.heap.size + 1) (fun k => own k ∨ k = w.heap.size + 1) [] a g lv ∧ w'.cell? ⟨w.heap.size, 0, none⟩ = some (.pointer (some ⟨p, 0, none⟩)) ∧ Step own w (fun k => own k ∨ k = w.heap.size + 1) w' := by
  have hpl := h.lt
  have b1 : BBlk (w.alloc (.cells #[.pointer (some ⟨p, 0, none⟩)] 25)) p 0 0 lv (.map none) := heap_alloc h _
  have b2 := heap_alloc (b1.set1 1) (.map #[] 0)
  have b3 : BBlk w2 p 0 1 lv (.map (some (w.heap.size + 1))) := by rw [h2]; exact BBlk.set5 (d := 0) (om := 1) (lv := lv) (mv := .map none) b2 _
  have b4 : BBlk w' p 1 0 lv (.map (some (w.heap.size + 1))) := by rw [h']; exact (BBlk.set0 (w := w2.drew) (p := p) (d := 0) (om := 1) (lv := lv) (mv := .map (some (w.heap.size + 1))) b3 1).set1 0
  have k0 : Keep (fun k => k = p) w ((w.alloc (.cells #[.pointer (some ⟨p, 0, none⟩)] 25)).setCell ⟨p, 0 + 1, none⟩ (.int .i32 1)) := Keep.own ((Keep.refl _ w).alloc _) 1 _
  have hs : ((w.alloc (.cells #[.pointer (some ⟨p, 0, none⟩)] 25)).setCell ⟨p, 0 + 1, none⟩ (.int .i32 1)).heap.size = w.heap.size + 1 := by simp
  have m0 := MapS.made Tryz.prog 9 ((w.alloc (.cells #[.pointer (some ⟨p, 0, none⟩)] 25)).setCell ⟨p, 0 + 1, none⟩ (.int .i32 1)) (fun x => .pointer (some ⟨a x, 0, none⟩)) (w.heap.size + 1) hs.symm
  have k1 : Keep (fun k => k = p) (((w.alloc (.cells #[.pointer (some ⟨p, 0, none⟩)] 25)).setCell ⟨p, 0 + 1, none⟩ (.int .i32 1)).alloc (.map #[] 0)) w' := by
    rw [h', h2]
    exact (keep_set _ p 5 _).trans (keep_done p 0 _) (fun _ _ x => x)
  have m1 := m0.keep k1 (show ¬ w.heap.size + 1 = p by omega)
  have kw : Keep (fun k => k = p) w w' := (k0.alloc _).trans k1 (fun _ _ x => x)
  have c0 : (((w.alloc (.cells #[.pointer (some ⟨p, 0, none⟩)] 25)).setCell ⟨p, 0 + 1, none⟩ (.int .i32 1)).alloc (.map #[] 0)).cell? ⟨w.heap.size, 0, none⟩ = some (.pointer (some ⟨p, 0, none⟩)) := by
    have e1 := heap_alloc (heap_far (heap_alloc_new w (.cells #[.pointer (some ⟨p, 0, none⟩)] 25)) (p := ⟨p, 0 + 1, none⟩) (show w.heap.size ≠ p by omega) (.int .i32 1)) (.map #[] 0)
    exact cell_at e1 0
  refine ⟨⟨b4, .inl hp, .inr rfl, by omega, fun k hk => ?_, fun x _ => hg x, m1, fun x hx => by simp at hx, fun x hx => by simp at hx⟩, ?_, kw.mono (fun i _ e => e ▸ hp), fun k hk => hk.imp id (fun e => by omega)⟩
  · have h3 := k1.size
    simp at h3
    rcases hk with hk | hk
    · have := hlt k hk; omega
    · omega
  · exact (k1.cell (p := ⟨w.heap.size, 0, none⟩) (by simp; omega) (show ¬ w.heap.size = p by omega)).trans c0

set_option maxRecDepth 100000 in
set_option maxHeartbeats 1600000 in
theorem tallies_any (p : Nat) (own : Nat → Prop) (ks : List (List UInt8)) (a : List UInt8 → Nat) (g : List UInt8 → Int) (lv : Int) (w : World) (h : BoardAt w p own ks a g lv) :
    Calls Tryz.prog 19 #[.pointer (some ⟨p, 0, none⟩)] w fun e w' => ∃ bm own', e = .returned (.map (some bm)) ∧ Ready w' p bm own' ks a g lv ∧ Step own w own' w' := by
  have hmf := run_makeFunc Tryz.prog
  rcases h with ⟨h1, rfl, h3, h4, h5⟩ | ⟨bm, h⟩
  · have b1 : BBlk (w.alloc (.cells #[.pointer (some ⟨p, 0, none⟩)] 25)) p 0 0 lv (.map none) := heap_alloc h1 _
    have e1 := heap_far (heap_alloc_new w (.cells #[.pointer (some ⟨p, 0, none⟩)] 25)) (p := ⟨p, 0 + 1, none⟩) (show w.heap.size ≠ p by have := h1.lt; omega) (.int .i32 1)
    have hd := do_first p 0 66 #[.pointer (some ⟨w.heap.size, 0, none⟩)] (fun w2 => w2 = (((w.alloc (.cells #[.pointer (some ⟨p, 0, none⟩)] 25)).setCell ⟨p, 0 + 1, none⟩ (.int .i32 1)).alloc (.map #[] 0)).setCell ⟨p, 5, none⟩ (.map (some (w.heap.size + 1)))) _ b1.once
      (fun W => MuLone.run_callFunc_enter Tryz.func66 (by kernel_rfl) rfl _ W)
      ((maker_any w.heap.size p (.map none) _ (cell_at e1 0) (b1.set1 1).c5 ((b1.set1 1).fr 5)).mono fun e w' ⟨h1, h2⟩ => ⟨h1, by rw [h2]; simp⟩)
      (fun w' hw => by
        rw [hw]
        have b3 := BBlk.set5 (d := 0) (om := 1) (lv := lv) (mv := .map none) (heap_alloc (b1.set1 1) (.map #[] 0)) (.map (some (w.heap.size + 1)))
        exact ⟨b3.c0, b3.fr 0, b3.c1, b3.fr 1⟩)
    have HD := Lib.hid hd
    have H1 := Lib.hid h1
    have H3 := Lib.hid h3
    have H4 := Lib.hid h4
    have H5 := Lib.hid h5
    clear hd h1 h3 h4 h5 b1 e1
    go_enter Tryz.func19, Tryz.ntmps19
    go_wp2_with fail
    refine HD.out.mono ?_
    rintro e w1 ⟨rfl, w2, hw2, hw1⟩
    obtain ⟨r1, r2, r3⟩ := made_map (a := a) H1.out H3.out H4.out H5.out hw2 hw1
    have R1 := Lib.hid r1
    have R3 := Lib.hid r3
    have c5 := r1.blk.c5
    clear hw2 hw1 r1 r3 HD
    go_wp2_with fail
    go_ret
    exact ⟨_, _, rfl, R1.out, R3.out⟩
  · have hk : Keep (fun _ => False) w (w.alloc (.cells #[.pointer (some ⟨p, 0, none⟩)] 25)) := (Keep.refl _ w).alloc _
    have h2 := h.keep hk (fun _ _ x => x)
    have H2 := Lib.hid h2
    have HK := Lib.hid hk
    have c5 := h2.blk.c5
    clear h hk h2
    go_enter Tryz.func19, Tryz.ntmps19
    go_wp2_with fail
    refine (do_done p 0 _ _ H2.out.blk.once).mono ?_
    rintro e w1 ⟨rfl, rfl⟩
    go_wp2_with fail
    go_ret
    exact ⟨_, _, rfl, H2.out, HK.out.mono (fun _ _ x => x.elim), fun _ x => .inl x⟩

end Go.Proofs.YtkhhmnmemdadmaaGreat
