/- A reader: codec.On, fail. Own work. In.Raw. Own work. In.Byte. Own work. In.Left. Own work. In.End. Own work. A writer: fail, open. Own work. Out.Byte. Own work. Out.End. Own work. -/
import Derived.Test.YtncpjapfkcgjnaaDoorChecked
import Derived.Test.YtncpjapfkcgjnaaDoorBase
import Derived.Lib.BufferRead
import Derived.Deep.QuietTactic
import Derived.BigQuiet
set_option linter.unusedVariables false
set_option linter.unusedSimpArgs false
namespace Go.Proofs.YtncpjapfkcgjnaaDoor
set_option linter.unusedVariables false
set_option linter.unusedSimpArgs false
open Go.RowKit

/-- A reader behind a pointer: what is left, the error; On made it. -/
def InAt (w : World) (p : Nat) (s : ByteArray) (e : Int) : Prop := w.heap[p]? = some (.cells #[.string s, .int .i64 e, .bool true] 110 (0, 0))

theorem InAt.lt {w : World} {p : Nat} {s : ByteArray} {e : Int} (h : InAt w p s e) : p < w.heap.size := lt_heap h

theorem InAt.c0 {w : World} {p : Nat} {s : ByteArray} {e : Int} (h : InAt w p s e) : w.cell? ⟨p, 0, none⟩ = some (.string s) := cell_at h 0

theorem InAt.c1 {w : World} {p : Nat} {s : ByteArray} {e : Int} (h : InAt w p s e) : w.cell? ⟨p, 1, none⟩ = some (.int .i64 e) := cell_at h 1

theorem InAt.c2 {w : World} {p : Nat} {s : ByteArray} {e : Int} (h : InAt w p s e) : w.cell? ⟨p, 2, none⟩ = some (.bool true) := cell_at h 2

theorem InAt.fr {w : World} {p : Nat} {s : ByteArray} {e : Int} (h : InAt w p s e) (i : Nat) : w.frozen? ⟨p, i, none⟩ = false := free_at h i

theorem InAt.keep {S : Nat → Prop} {w w' : World} {p : Nat} {s : ByteArray} {e : Int} (h : InAt w p s e) (k : Keep S w w') (hn : ¬ S p) : InAt w' p s e := k.heap h hn

theorem InAt.set0 {w : World} {p : Nat} {s : ByteArray} {e : Int} (h : InAt w p s e) (t : ByteArray) : InAt (w.setCell ⟨p, 0, none⟩ (.string t)) p t e := heap_set h 0 _

theorem InAt.set1 {w : World} {p : Nat} {s : ByteArray} {e : Int} (h : InAt w p s e) (f : Int) : InAt (w.setCell ⟨p, 1, none⟩ (.int .i64 f)) p s f := heap_set h 1 _

set_option maxHeartbeats 400000 in
/-- On: a new reader. -/
theorem on_any (s : ByteArray) (w : World) :
    Calls Tryd.prog 41 #[.string s] w fun e w' => e = .returned (.pointer (some ⟨w.heap.size, 0, none⟩)) ∧ InAt w' w.heap.size s 0 ∧ Below w.heap.size w w' := by
  go_enter Tryd.func41, Tryd.ntmps41
  go_wp2
  go_ret
  exact ⟨rfl, heap_alloc_new w _, (Below.refl _ _).alloc (Nat.le_refl _) _⟩

set_option maxHeartbeats 400000 in
/-- fail: the first error. -/
theorem infail_any (p : Nat) (s : ByteArray) (e f : Int) (w : World) (h : InAt w p s e) :
    Calls Tryd.prog 61 #[.pointer (some ⟨p, 0, none⟩), .int .i64 f] w fun r w' => r = .returned (.tuple #[]) ∧ InAt w' p .empty f ∧ Keep (· = p) w w' := by
  have c0 := h.c0
  have c1 := h.c1
  have f0 := h.fr 0
  have f1 := h.fr 1
  have fin : InAt ((w.setCell ⟨p, 0, none⟩ (.string .empty)).setCell ⟨p, 1, none⟩ (.int .i64 f)) p .empty f ∧ Keep (· = p) w ((w.setCell ⟨p, 0, none⟩ (.string .empty)).setCell ⟨p, 1, none⟩ (.int .i64 f)) :=
    ⟨(h.set0 _).set1 _, (keep_set w p 0 _).setCell (fun _ => rfl) _⟩
  have fin := Lib.hid fin
  go_enter Tryd.func61, Tryd.ntmps61
  go_wp2
  go_end0
  exact ⟨rfl, fin.out⟩

end Go.Proofs.YtncpjapfkcgjnaaDoor
namespace Go.Proofs.YtncpjapfkcgjnaaDoor
set_option linter.unusedVariables false
set_option linter.unusedSimpArgs false
open Go.RowKit

/-- What Raw reads. -/
def rawS (s : ByteArray) (e n : Int) : ByteArray × ByteArray × Int :=
  if e = 0 then
    if n < 0 then (.empty, .empty, 1) else if s.size < n then (.empty, .empty, 2) else (s.extract 0 n.toNat, s.extract n.toNat s.size, 0)
  else (.empty, s, e)

set_option maxRecDepth 100000 in
set_option maxHeartbeats 400000 in
theorem inraw_bad (p : Nat) (s : ByteArray) (e n : Int) (w : World) (h : InAt w p s e) (he : e ≠ 0) :
    Calls Tryd.prog 43 #[.pointer (some ⟨p, 0, none⟩), .int .i64 n] w fun r w' => r = .returned (.string .empty) ∧ w = w' := by
  have c0 := h.c0
  have c1 := h.c1
  have c2 := h.c2
  have h1 : (e == 0) = false := by simpa using he
  go_enter Tryd.func43, Tryd.ntmps43
  go_wp2
  go_ret
  exact ⟨rfl, rfl⟩

set_option maxRecDepth 100000 in
set_option maxHeartbeats 400000 in
theorem inraw_neg (p : Nat) (s : ByteArray) (n : Int) (w : World) (h : InAt w p s 0) (hn : n < 0) :
    Calls Tryd.prog 43 #[.pointer (some ⟨p, 0, none⟩), .int .i64 n] w fun r w' => r = .returned (.string .empty) ∧ InAt w' p .empty 1 ∧ Keep (· = p) w w' := by
  have c0 := h.c0
  have c1 := h.c1
  have c2 := h.c2
  have HI := Lib.hid h
  clear h
  go_enter Tryd.func43, Tryd.ntmps43
  go_wp2_with (first | (go_at_call 61; refine (infail_any p s 0 1 _ HI.out).mono ?_; rintro e w1 ⟨rfl, hi, hkp⟩) | go_in)
  go_ret
  exact ⟨rfl, hi, hkp⟩

set_option maxRecDepth 100000 in
set_option maxHeartbeats 400000 in
theorem inraw_short (p : Nat) (s : ByteArray) (n : Int) (w : World) (h : InAt w p s 0) (hn : 0 ≤ n) (hs : s.size ≤ maxLen) (hl : s.size < n) :
    Calls Tryd.prog 43 #[.pointer (some ⟨p, 0, none⟩), .int .i64 n] w fun r w' => r = .returned (.string .empty) ∧ InAt w' p .empty 2 ∧ Keep (· = p) w w' := by
  have c0 := h.c0
  have c1 := h.c1
  have c2 := h.c2
  have HI := Lib.hid h
  clear h
  unfold maxLen at hs
  go_enter Tryd.func43, Tryd.ntmps43
  go_wp2_with (first | (go_at_call 61; refine (infail_any p s 0 2 _ HI.out).mono ?_; rintro e w1 ⟨rfl, hi, hkp⟩) | go_in)
  go_ret
  exact ⟨rfl, hi, hkp⟩

set_option maxRecDepth 100000 in
set_option maxHeartbeats 400000 in
theorem inraw_ok (p : Nat) (s : ByteArray) (n : Nat) (w : World) (h : InAt w p s 0) (hs : s.size ≤ 281474976710656) (hl : n ≤ s.size) :
    Calls Tryd.prog 43 #[.pointer (some ⟨p, 0, none⟩), .int .i64 n] w fun r w' => r = .returned (.string (s.extract 0 n)) ∧ InAt w' p (s.extract n s.size) 0 ∧ Keep (· = p) w w' := by
  have c0 := h.c0
  have c1 := h.c1
  have c2 := h.c2
  have HI := Lib.hid h
  have hlt := h.lt
  clear h
  have hsz : (s.extract 0 n).size ≤ 281474976710656 := by simp; omega
  go_enter Tryd.func43, Tryd.ntmps43
  go_wp2_with (first | (go_at_call 29; refine (clone_any _ _ hsz).mono ?_; rintro e w1 ⟨rfl, hb⟩; have d0 := (hb.cell (p := ⟨p, 0, none⟩) hlt).trans c0; have d1 := (hb.frozen (p := ⟨p, 0, none⟩) hlt).trans (HI.out.fr 0)) | go_in)
  go_ret
  have h1 : InAt w1 p s 0 := (hb.block p hlt).trans HI.out
  exact ⟨rfl, h1.set0 _, (Keep.of_below _ hb).own _ _⟩

theorem inraw_any (p : Nat) (s : ByteArray) (e n : Int) (w : World) (h : InAt w p s e) (hs : s.size ≤ 281474976710656) :
    Calls Tryd.prog 43 #[.pointer (some ⟨p, 0, none⟩), .int .i64 n] w fun r w' => r = .returned (.string (rawS s e n).1) ∧ InAt w' p (rawS s e n).2.1 (rawS s e n).2.2 ∧ Keep (· = p) w w' := by
  by_cases he : e = 0
  · subst he
    by_cases hn : n < 0
    · rw [show rawS s 0 n = (.empty, .empty, 1) from by simp [rawS, hn]]
      exact inraw_neg p s n w h hn
    · by_cases hl : s.size < n
      · rw [show rawS s 0 n = (.empty, .empty, 2) from by simp [rawS, hn, hl]]
        exact inraw_short p s n w h (by omega) (by unfold maxLen; omega) hl
      · rw [show rawS s 0 n = (s.extract 0 n.toNat, s.extract n.toNat s.size, 0) from by simp [rawS, hn, hl]]
        obtain ⟨k, rfl⟩ := Int.eq_ofNat_of_zero_le (show 0 ≤ n from by omega)
        exact inraw_ok p s k w h hs (by omega)
  · refine (inraw_bad p s e n w h he).mono fun r w' ⟨hr, hw⟩ => ?_
    subst hw
    rw [show rawS s e n = (.empty, s, e) from if_neg he]
    exact ⟨hr, h, Keep.refl _ _⟩

end Go.Proofs.YtncpjapfkcgjnaaDoor
namespace Go.Proofs.YtncpjapfkcgjnaaDoor
set_option linter.unusedVariables false
set_option linter.unusedSimpArgs false
open Go.RowKit

/-- What Byte reads. -/
def byteS (s : ByteArray) (e : Int) : Int × ByteArray × Int := (((rawS s e 1).1.data.toList.headD 0).toNat, (rawS s e 1).2.1, (rawS s e 1).2.2)

set_option maxRecDepth 100000 in
set_option maxHeartbeats 400000 in
theorem inbyte_any (p : Nat) (s : ByteArray) (e : Int) (w : World) (h : InAt w p s e) (hs : s.size ≤ 281474976710656) :
    Calls Tryd.prog 42 #[.pointer (some ⟨p, 0, none⟩)] w fun r w' => r = .returned (.int .i64 (byteS s e).1) ∧ InAt w' p (byteS s e).2.1 (byteS s e).2.2 ∧ Keep (· = p) w w' := by
  have HI := Lib.hid h
  clear h
  go_enter Tryd.func42, Tryd.ntmps42
  go_wp2_with fail
  refine (inraw_any p s e 1 _ HI.out hs).mono ?_
  rintro r w1 ⟨rfl, hi, hk⟩
  have HI1 := Lib.hid hi
  have HK1 := Lib.hid hk
  clear hi hk
  have hb : (byteS s e).1 = (((rawS s e 1).1.data.toList.headD 0).toNat : Int) := rfl
  have HB := Lib.hid hb
  clear hb
  generalize (rawS s e 1).1 = x at *
  by_cases h0 : x.size = 0
  · have hx := is_empty h0
    subst hx
    go_wp2
    go_ret
    exact ⟨ret1 (by rw [HB.out]; rfl), HI1.out, HK1.out⟩
  · have h1 := not_empty h0
    have h2 : 0 < x.size := by omega
    have H3 := Lib.hid (head_at x h2)
    have h4 := x[0].toNat_lt
    clear h0
    go_wp2
    go_ret
    exact ⟨ret1 (by rw [HB.out, H3.out]), HI1.out, HK1.out⟩

end Go.Proofs.YtncpjapfkcgjnaaDoor
namespace Go.Proofs.YtncpjapfkcgjnaaDoor
set_option linter.unusedVariables false
set_option linter.unusedSimpArgs false
open Go.RowKit

set_option maxRecDepth 100000 in
set_option maxHeartbeats 400000 in
theorem inleft_any (p : Nat) (s : ByteArray) (e : Int) (w : World) (h : InAt w p s e) (_hs : s.size ≤ 281474976710656) :
    Calls Tryd.prog 44 #[.pointer (some ⟨p, 0, none⟩)] w fun r w' => r = .returned (.int .i64 s.size) ∧ w = w' := by
  have c0 := h.c0
  go_enter Tryd.func44, Tryd.ntmps44
  go_wp2
  go_ret
  exact ⟨rfl, rfl⟩

end Go.Proofs.YtncpjapfkcgjnaaDoor
namespace Go.Proofs.YtncpjapfkcgjnaaDoor
set_option linter.unusedVariables false
set_option linter.unusedSimpArgs false
open Go.RowKit

/-- What End tells. -/
def endS (s : ByteArray) (e : Int) : Int := if s.size = 0 then e else 3

set_option maxRecDepth 100000 in
set_option maxHeartbeats 400000 in
theorem inend_any (p : Nat) (s : ByteArray) (e : Int) (w : World) (h : InAt w p s e) (hs : s.size ≤ 281474976710656) :
    Calls Tryd.prog 45 #[.pointer (some ⟨p, 0, none⟩)] w fun r w' => r = .returned (.int .i64 (endS s e)) ∧ InAt w' p .empty (endS s e) ∧ Keep (· = p) w w' := by
  have c0 := h.c0
  have c1 := h.c1
  have c2 := h.c2
  have HI := Lib.hid h
  clear h
  by_cases h0 : s.size = 0
  · rw [show endS s e = e from if_pos h0]
    have he := is_empty h0
    subst he
    go_enter Tryd.func45, Tryd.ntmps45
    go_wp2_with go_in
    go_ret
    exact ⟨rfl, HI.out, Keep.refl _ _⟩
  · have h1 := not_empty h0
    rw [show endS s e = 3 from if_neg h0]
    go_enter Tryd.func45, Tryd.ntmps45
    go_wp2_with (first | (go_at_call 61; refine (infail_any p s e 3 _ HI.out).mono ?_; rintro e w1 ⟨rfl, hi, hkp⟩; have d1 := hi.c1) | go_in)
    go_ret
    exact ⟨rfl, hi, hkp⟩

end Go.Proofs.YtncpjapfkcgjnaaDoor
namespace Go.Proofs.YtncpjapfkcgjnaaDoor
set_option linter.unusedVariables false
set_option linter.unusedSimpArgs false
open Go.RowKit

/-- A writer behind a pointer: its row (at A, of capacity c), what was laid, the error. -/
def OutAt (w : World) (p : Nat) (A : Option Addr) (c : Nat) (l : List UInt8) (e : Int) : Prop :=
  w.heap[p]? = some (.cells #[.slice A l.length c, .int .i64 e] 61 (0, 0)) ∧ w.ownsRow 0 5 1 (.slice A l.length c) l.length (Lib.byteCells l)

/-- What a call on a writer turns: its block, its row, and what is new; its row is the old one, or new. -/
def OutStep (p : Nat) (A : Option Addr) (w : World) (A' : Option Addr) (w' : World) : Prop :=
  Keep (fun k => k = p ∨ blk A = some k) w w' ∧ ∀ k, blk A' = some k → blk A = some k ∨ w.heap.size ≤ k

theorem OutStep.refl (p : Nat) (A : Option Addr) (w : World) : OutStep p A w A w := ⟨Keep.refl _ _, fun _ h => .inl h⟩

theorem OutStep.trans {p : Nat} {A A1 A2 : Option Addr} {w w1 w2 : World} (h : OutStep p A w A1 w1) (k : OutStep p A1 w1 A2 w2) : OutStep p A w A2 w2 := by
  refine ⟨h.1.trans k.1 fun i hi hs => ?_, fun j hj => ?_⟩
  · rcases hs with hs | hs
    · exact .inl hs
    · rcases h.2 i hs with h2 | h2
      · exact .inr h2
      · omega
  · rcases k.2 j hj with h2 | h2
    · exact h.2 j h2
    · exact .inr (Nat.le_trans h.1.size h2)

namespace OutAt
variable {w w' : World} {p : Nat} {A : Option Addr} {c : Nat} {l : List UInt8} {e : Int}
theorem lt (h : OutAt w p A c l e) : p < w.heap.size := lt_heap h.1
theorem c0 (h : OutAt w p A c l e) : w.cell? ⟨p, 0, none⟩ = some (.slice A l.length c) := cell_at h.1 0
theorem c1 (h : OutAt w p A c l e) : w.cell? ⟨p, 1, none⟩ = some (.int .i64 e) := cell_at h.1 1
theorem fr (h : OutAt w p A c l e) (i : Nat) : w.frozen? ⟨p, i, none⟩ = false := free_at h.1 i
theorem ne (h : OutAt w p A c l e) : blk A ≠ some p := by
  have := own_ne h.2 h.1 (by decide)
  rwa [ownBlock_slice] at this
theorem row (h : OutAt w p A c l e) {k : Nat} (hk : blk A = some k) : k < w.heap.size := own_lt h.2 (by rw [ownBlock_slice]; exact hk)
theorem keep {S : Nat → Prop} (h : OutAt w p A c l e) (k : Keep S w w') (hn : ¬ S p) (hr : ∀ i, blk A = some i → ¬ S i) : OutAt w' p A c l e :=
  ⟨k.heap h.1 hn, own_keep h.2 k (by rw [ownBlock_slice]; exact hr)⟩
theorem alloc (h : OutAt w p A c l e) (o : Obj) : OutAt (w.alloc o) p A c l e := ⟨heap_alloc h.1 o, h.2.alloc o⟩
theorem drew (h : OutAt w p A c l e) : OutAt w.drew p A c l e := ⟨h.1, h.2.drew⟩
end OutAt

/-- A new writer. -/
theorem OutAt.new (w : World) : OutAt (w.alloc (.cells #[.slice none 0 0, .int .i64 0] 61)) w.heap.size none 0 [] 0 :=
  ⟨heap_alloc_new w _, World.ownsRow_nil _ _ _ _⟩

/-- Behind an append, and the store of its answer. -/
theorem out_store {w w1 : World} {p : Nat} {A : Option Addr} {c : Nat} {l : List UInt8} {e : Int} (h : OutAt w p A c l e) {A2 : Option Addr} {c2 : Nat} {l2 : List UInt8}
    (hown : w1.ownsRow 0 5 1 (.slice A2 l2.length c2) l2.length (Lib.byteCells l2)) (hk : Keep (fun k => blk A = some k) w w1) (hat : ∀ k, blk A2 = some k → blk A = some k ∨ w.heap.size ≤ k) :
    OutAt (w1.setCell ⟨p, 0, none⟩ (.slice A2 l2.length c2)) p A2 c2 l2 e ∧ OutStep p A w A2 (w1.setCell ⟨p, 0, none⟩ (.slice A2 l2.length c2)) := by
  have h1 := hk.heap h.1 h.ne
  have hne : (Value.slice A2 l2.length c2).ownBlock ≠ some p := own_ne hown h1 (by decide)
  refine ⟨⟨heap_set h1 0 _, ownsRow_setCell_other hown hne _⟩, ?_, hat⟩
  exact Keep.setCell (S := fun k => k = p ∨ blk A = some k) (hk.mono fun _ _ x => .inr x) (p := ⟨p, 0, none⟩) (fun _ => .inl rfl) _

/-- Behind an append of one byte. -/
theorem out_push {w w1 : World} {p : Nat} {A : Option Addr} {c : Nat} {l : List UInt8} {e : Int} (h : OutAt w p A c l e) {o : Obj} {b : UInt8} {x : Int} (hx : x = b.toNat) {A2 : Option Addr} {c2 : Nat}
    (hown : w1.ownsRow 0 5 1 (.slice A2 (l.length + 1) c2) (l.length + 1) (Lib.byteCells l ++ [.int .u8 x])) (hg : (w.alloc o).grownBy w1 (Value.slice A l.length c).ownBlock)
    (hat : (Value.slice A2 (l.length + 1) c2).ownBlock = (Value.slice A l.length c).ownBlock ∨ (Value.slice A2 (l.length + 1) c2).ownBlock = some (w.alloc o).heap.size) :
    OutAt (w1.setCell ⟨p, 0, none⟩ (.slice A2 (l.length + 1) c2)) p A2 c2 (l ++ [b]) e ∧ OutStep p A w A2 (w1.setCell ⟨p, 0, none⟩ (.slice A2 (l.length + 1) c2)) := by
  rw [ownBlock_slice] at hg
  rw [ownBlock_slice, ownBlock_slice] at hat
  have hl : l.length + 1 = (l ++ [b]).length := by simp
  rw [hx, ← byteCells_one, ← Lib.byteCells_append, hl] at hown
  rw [hl]
  refine out_store h hown (((Keep.refl (fun k => blk A = some k) w).alloc o).grown hg (fun k hk _ => hk)) (fun k hk => ?_)
  rcases hat with hat | hat
  · exact .inl (hat ▸ hk)
  · rw [hat] at hk
    right
    simp at hk
    omega

/-- The writer's block, behind an append. -/
theorem out_mid {w w1 : World} {p : Nat} {A : Option Addr} {c : Nat} {l : List UInt8} {e : Int} (h : OutAt w p A c l e) {o : Obj} (hg : (w.alloc o).grownBy w1 (Value.slice A l.length c).ownBlock) :
    w1.heap[p]? = some (.cells #[.slice A l.length c, .int .i64 e] 61 (0, 0)) := by
  have h1 := h.alloc o
  rw [ownBlock_slice] at hg
  exact (hg.block p h1.lt h1.ne.symm).trans h1.1

def rawO (l : List UInt8) (e : Int) (s : List UInt8) : List UInt8 × Int := if e = 0 then (l ++ s, 0) else (l, e)

/-- Behind a call on a writer. -/
def OutTo (p : Nat) (A : Option Addr) (w : World) (x : List UInt8 × Int) (w' : World) : Prop := ∃ A' c', OutAt w' p A' c' x.1 x.2 ∧ OutStep p A w A' w'

set_option maxHeartbeats 400000 in
/-- fail: what was laid goes. -/
theorem outfail_any (p : Nat) (A : Option Addr) (c : Nat) (l : List UInt8) (e : Int) (w : World) (h : OutAt w p A c l 0) :
    Calls Tryd.prog 35 #[.pointer (some ⟨p, 0, none⟩), .int .i64 e] w fun r w' => r = .returned (.tuple #[]) ∧ OutTo p A w ([], e) w' := by
  have c0 := h.c0
  have c1 := h.c1
  have f0 := h.fr 0
  have f1 := h.fr 1
  have fin : OutTo p A w ([], e) ((w.setCell ⟨p, 0, none⟩ (.slice none 0 0)).setCell ⟨p, 1, none⟩ (.int .i64 e)) :=
    ⟨none, 0, ⟨heap_set (heap_set h.1 0 _) 1 _, World.ownsRow_nil _ _ _ _⟩,
      (((Keep.refl (fun k => k = p ∨ blk A = some k) w).setCell (p := ⟨p, 0, none⟩) (fun _ => .inl rfl) _).setCell (p := ⟨p, 1, none⟩) (fun _ => .inl rfl) _), fun k hk => by simp [blk] at hk⟩
  have fin := Lib.hid fin
  clear h
  go_enter Tryd.func35, Tryd.ntmps35
  go_wp2_with go_in
  go_end0
  exact ⟨rfl, fin.out⟩

set_option maxHeartbeats 400000 in
theorem outopen_ok (p : Nat) (A : Option Addr) (c : Nat) (l : List UInt8) (w : World) (h : OutAt w p A c l 0) :
    Calls Tryd.prog 36 #[.pointer (some ⟨p, 0, none⟩)] w fun r w' => r = .returned (.bool true) ∧ w = w' := by
  have c1 := h.c1
  clear h
  go_enter Tryd.func36, Tryd.ntmps36
  go_wp2
  go_ret
  exact ⟨rfl, rfl⟩

set_option maxHeartbeats 400000 in
theorem outopen_bad (p : Nat) (A : Option Addr) (c : Nat) (l : List UInt8) (e : Int) (w : World) (h : OutAt w p A c l e) (he : e ≠ 0) :
    Calls Tryd.prog 36 #[.pointer (some ⟨p, 0, none⟩)] w fun r w' => r = .returned (.bool false) ∧ w = w' := by
  have c1 := h.c1
  clear h
  have h1 : (e == 0) = false := by simpa using he
  clear he
  go_enter Tryd.func36, Tryd.ntmps36
  go_wp2
  go_ret
  exact ⟨rfl, rfl⟩

set_option maxHeartbeats 400000 in
theorem outfail_bad (p : Nat) (A : Option Addr) (c : Nat) (l : List UInt8) (e f : Int) (w : World) (h : OutAt w p A c l e) (he : e ≠ 0) :
    Calls Tryd.prog 35 #[.pointer (some ⟨p, 0, none⟩), .int .i64 f] w fun r w' => r = .returned (.tuple #[]) ∧ w = w' := by
  have HI := Lib.hid h
  clear h
  go_enter Tryd.func35, Tryd.ntmps35
  go_wp2_with (go_at_call 36; refine (outopen_bad p A c l e _ HI.out he).mono ?_; rintro e w1 ⟨rfl, rfl⟩)
  go_end0
  exact ⟨rfl, rfl⟩

end Go.Proofs.YtncpjapfkcgjnaaDoor
namespace Go.Proofs.YtncpjapfkcgjnaaDoor
set_option linter.unusedVariables false
set_option linter.unusedSimpArgs false
open Go.RowKit

def byteO (l : List UInt8) (e n : Int) : List UInt8 × Int := if e = 0 then if n < 0 ∨ 255 < n then ([], 1) else (l ++ [UInt8.ofNat n.toNat], 0) else (l, e)

theorem byteO_len (l : List UInt8) (e n : Int) : (byteO l e n).1.length ≤ l.length + 1 := by
  unfold byteO
  split
  · split <;> simp
  · simp

/-- What Byte makes of it. -/
def bytesO (l : List UInt8) (e : Int) (xs : List Int) : List UInt8 × Int := xs.foldl (fun st n => byteO st.1 st.2 n) (l, e)

theorem bytesO_snoc (l : List UInt8) (e : Int) (xs : List Int) (x : Int) : bytesO l e (xs ++ [x]) = byteO (bytesO l e xs).1 (bytesO l e xs).2 x := by simp [bytesO]

set_option maxRecDepth 100000 in
set_option maxHeartbeats 1600000 in
theorem outByte_any (p : Nat) (A : Option Addr) (c : Nat) (l : List UInt8) (e : Int) (B : Option Addr) (n cap : Nat) (xs : List Int) (w : World) (h : OutAt w p A c l e) (hx : SliceAt w B (xs.map (Value.int .i64)) (fun k => k = p ∨ blk A = some k))
    (hn : xs.length = n) (hl : l.length + n ≤ 1099511627776) :
    Calls Tryd.prog 21 #[.pointer (some ⟨p, 0, none⟩), .slice B n cap] w fun r w' => r = .returned (.pointer (some ⟨p, 0, none⟩)) ∧ OutTo p A w (bytesO l e xs) w' := by
  have HI := Lib.hid h
  have HX := Lib.hid hx
  have HN := Lib.hid hn
  obtain ⟨i0, hi, hz0, hz1, hz2⟩ := info_parts byte_info
  clear h hx hn
  have hsm : n ≤ 9223372036854775807 := by omega
  go_enter Tryd.func21, Tryd.ntmps21
  go_wp2_with fail
  go_loopw [6, 9] (fun _ i wr => ∃ (k : Nat) (A1 : Option Addr) (c1 : Nat), k ≤ n ∧ i = .int .i64 k ∧ (bytesO l e (xs.take k)).1.length ≤ l.length + k ∧ Hid (OutAt wr p A1 c1 (bytesO l e (xs.take k)).1 (bytesO l e (xs.take k)).2) ∧ Hid (OutStep p A w A1 wr))
    (fun _ i _ => n - (intOf i).toNat)
  case atStart => exact ⟨0, A, c, by omega, rfl, by simp [bytesO], HI, OutStep.refl _ _ _⟩
  case round =>
    obtain ⟨k, A1, c1, hk, rfl, hlen, H1, H2⟩ := hrel
    by_cases hlt : k < n
    · obtain ⟨x, hxk⟩ : ∃ x, xs[k]? = some x := ⟨xs[k]'(by rw [HN.out]; exact hlt), List.getElem?_eq_getElem _⟩
      obtain ⟨b, off, rfl, hb, hs, hc⟩ := HX.out (by rw [List.length_map, HN.out]; omega)
      have hcx : wr.cell? ⟨b, off + k, none⟩ = some (.int .i64 x) := (H2.out.1.cell hb hs).trans (hc k _ (by rw [List.getElem?_map, hxk]; rfl))
      have e1 : bytesO l e (xs.take (k + 1)) = byteO (bytesO l e (xs.take k)).1 (bytesO l e (xs.take k)).2 x := by rw [take_next hxk, bytesO_snoc]
      have H3 := Lib.hid e1
      obtain ⟨m, f, hst⟩ : ∃ m f, bytesO l e (xs.take k) = (m, f) := ⟨_, _, rfl⟩
      rw [hst] at H1 H3 hlen
      simp only at H1 H3 hlen
      clear hst hc hs hb e1 hxk
      by_cases hf : f = 0
      · subst hf
        by_cases hx0 : 0 ≤ x ∧ x ≤ 255
        · obtain ⟨hx0, hx1⟩ := hx0
          have c0 := H1.out.c0
          have hown := Lib.hid H1.out.2
          go_wp2_with (first | (go_at_call 36; refine (outopen_ok p A1 c1 m _ H1.out).mono ?_; rintro e w1 ⟨rfl, rfl⟩) | (at_builtin; refine wpList_append_own_at _ rfl (.tmp 27) (.tmp 30) 59 rfl 0 5 i0 (.int .u8 0) 1 1 Tryd.underlying59 hi hz0 hz1 hz2 rfl (by decide) (.slice A1 m.length c1) m.length (Lib.byteCells m) rfl (hown.out.alloc _) ⟨wr.heap.size, 0, none⟩ 1 1 _ rfl rfl (cell_one_new _ _ _) ?d2 ?d3 ?d4 ?d5 ?_))
          case d2 => intro u hu; simp at hu; subst hu; rfl
          case d3 => unfold maxLen; omega
          case d4 => omega
          case d5 => omega
          · intro v' w1 hown' hgrow _ hat
            obtain ⟨A2, c2, rfl, _⟩ := own_form hown'
            have HP := Lib.hid (out_push H1.out (b := UInt8.ofNat x.toNat) (u8_wrap hx0 hx1) hown' hgrow (by simpa using hat))
            have hm1 := out_mid H1.out hgrow
            have d0 := cell_at hm1 0
            have f0 := free_at hm1 0
            clear hown' hgrow hat c0 hm1
            go_wp2
            go_roundw
            case rel =>
              obtain ⟨q1, q2⟩ := HP.out
              have e2 : byteO m 0 x = (m ++ [UInt8.ofNat x.toNat], 0) := by rw [byteO, if_pos rfl, if_neg (by omega)]
              refine ⟨k + 1, A2, c2, by omega, by go_num, ?_, ?_, H2.out.trans q2⟩
              · rw [H3.out, e2]; simp; omega
              · show OutAt _ _ _ _ _ _
                rw [H3.out, e2]; exact q1
            case measure => simp [intOf]; omega
        · have e2 : byteO m 0 x = ([], 1) := by rw [byteO, if_pos rfl, if_pos (by omega)]
          have H4 := Lib.hid e2
          clear e2
          have hcase : x < 0 ∨ 255 < x := by omega
          rcases hcase with hx0 | hx0
          all_goals
            go_wp2_with (first | (go_at_call 36; refine (outopen_bad p _ _ _ 1 _ (by assumption) (by decide)).mono ?_; rintro e w2 ⟨rfl, rfl⟩) | (go_at_call 35; refine (outfail_any p A1 c1 m 1 _ H1.out).mono ?_; rintro e w1 ⟨rfl, A2, c2, h1, hs1⟩))
            go_roundw
            case rel =>
              refine ⟨k + 1, A2, c2, by omega, by go_num, ?_, ?_, H2.out.trans hs1⟩
              · rw [H3.out, H4.out]; simp
              · show OutAt _ _ _ _ _ _
                rw [H3.out, H4.out]; exact h1
            case measure => simp [intOf]; omega
      · have e2 : byteO m f x = (m, f) := by rw [byteO, if_neg hf]
        have H4 := Lib.hid e2
        clear e2
        go_wp2_with (first | (go_at_call 36; refine (outopen_bad p A1 c1 m f _ H1.out hf).mono ?_; rintro e w2 ⟨rfl, rfl⟩) | (go_at_call 35; refine (outfail_bad p A1 c1 m f 1 _ H1.out hf).mono ?_; rintro e w1 ⟨rfl, rfl⟩))
        all_goals
          go_roundw
          case rel =>
            refine ⟨k + 1, A1, c1, by omega, by go_num, ?_, ?_, H2.out⟩
            · rw [H3.out, H4.out]; simp; omega
            · show OutAt _ _ _ _ _ _
              rw [H3.out, H4.out]; exact H1.out
          case measure => simp [intOf]; omega
    · go_wp2
      go_ret
      have hkn : k = n := by omega
      have hfin := H1.out
      rw [List.take_of_length_le (by rw [HN.out]; omega)] at hfin
      exact ⟨rfl, A1, c1, hfin, H2.out⟩

end Go.Proofs.YtncpjapfkcgjnaaDoor
namespace Go.Proofs.YtncpjapfkcgjnaaDoor
set_option linter.unusedVariables false
set_option linter.unusedSimpArgs false
open Go.RowKit

set_option maxRecDepth 100000 in
set_option maxHeartbeats 400000 in
/-- End: the bytes, or the error. -/
theorem outend_any (p : Nat) (A : Option Addr) (c : Nat) (l : List UInt8) (e : Int) (w : World) (h : OutAt w p A c l e) :
    Calls Tryd.prog 23 #[.pointer (some ⟨p, 0, none⟩)] w fun r w' => r = .returned (.tuple #[.string ⟨l.toArray⟩, .int .i64 e]) ∧ ∃ n, w' = w.drewN n := by
  have c0 := h.c0
  have c1 := h.c1
  have hconv : ∀ nq, (convert 59 9 (.slice A l.length c)).run Tryd.prog (w.drewN nq) = .ok (.string ⟨l.toArray⟩) (w.drewN nq) := fun nq =>
    run_own_string (w := w.drewN nq) (base := 0) h.2 Tryd.underlying59 Tryd.underlying5 Tryd.underlying9
  clear h
  go_enter Tryd.func23, Tryd.ntmps23
  go_wp2
  go_quiet (fail)
  go_wp2
  go_ret2
  exact ⟨rfl, _, rfl⟩

end Go.Proofs.YtncpjapfkcgjnaaDoor
