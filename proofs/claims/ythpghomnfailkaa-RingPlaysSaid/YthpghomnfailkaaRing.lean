/- The contracts of ring.Ring. Own work. -/
import Derived.Test.YthpghomnfailkaaInfoB
import Derived.Test.YthpghomnfailkaaBuf
import Derived.IntWalk
namespace Go.Proofs.Ythpghomnfailkaa
set_option linter.unusedVariables false
open Go.RowKit

/-- A ring behind a pointer: its row, its room, what waits. -/
def RingAt (w : World) (p : Nat) (A : Option Addr) (c : Nat) (room : Nat) (l : List UInt8) : Prop :=
  w.heap[p]? = some (.cells #[.slice A l.length c, .int .i64 room, .bool true] 42 (0, 0)) ∧ Buf w A l.length c (Lib.byteCells l) ∧ blk A ≠ some p ∧ l.length ≤ room ∧ room ≤ 100000

/-- What a call on a ring turns: its block, its row, and what is new; its row is the old one, or new. -/
def RingStep (p : Nat) (A : Option Addr) (w : World) (A' : Option Addr) (w' : World) : Prop :=
  Keep (fun k => k = p ∨ blk A = some k) w w' ∧ ∀ k, blk A' = some k → blk A = some k ∨ w.heap.size ≤ k

theorem RingStep.refl (p : Nat) (A : Option Addr) (w : World) : RingStep p A w A w := ⟨Keep.refl _ _, fun _ h => .inl h⟩
theorem RingStep.drewN (p : Nat) (A : Option Addr) (w : World) (n : Nat) : RingStep p A w A (w.drewN n) := ⟨(Keep.refl _ _).drewN n, fun _ h => .inl h⟩
theorem RingStep.trans {p : Nat} {A A1 A2 : Option Addr} {w w1 w2 : World} (h : RingStep p A w A1 w1) (k : RingStep p A1 w1 A2 w2) : RingStep p A w A2 w2 := by
  refine ⟨h.1.trans k.1 fun i hi hs => ?_, fun j hj => ?_⟩
  · rcases hs with hs | hs
    · exact .inl hs
    · rcases h.2 i hs with h2 | h2
      · exact .inr h2
      · omega
  · rcases k.2 j hj with h2 | h2
    · exact h.2 j h2
    · exact .inr (Nat.le_trans h.1.size h2)

namespace RingAt
variable {w w' : World} {p : Nat} {A : Option Addr} {c room : Nat} {l : List UInt8}
theorem lt (h : RingAt w p A c room l) : p < w.heap.size := lt_heap h.1
theorem c0 (h : RingAt w p A c room l) : w.cell? ⟨p, 0, none⟩ = some (.slice A l.length c) := cell_at h.1 0
theorem c1 (h : RingAt w p A c room l) : w.cell? ⟨p, 1, none⟩ = some (.int .i64 room) := cell_at h.1 1
theorem c2 (h : RingAt w p A c room l) : w.cell? ⟨p, 2, none⟩ = some (.bool true) := cell_at h.1 2
theorem fr (h : RingAt w p A c room l) (i : Nat) : w.frozen? ⟨p, i, none⟩ = false := free_at h.1 i
theorem row (h : RingAt w p A c room l) {k : Nat} (hk : blk A = some k) : k < w.heap.size := h.2.1.lt hk
theorem keep {S : Nat → Prop} (h : RingAt w p A c room l) (k : Keep S w w') (hn : ¬ S p) (hr : ∀ i, blk A = some i → ¬ S i) : RingAt w' p A c room l :=
  ⟨k.heap h.1 hn, h.2.1.keep k hr, h.2.2⟩
theorem drew (h : RingAt w p A c room l) : RingAt w.drew p A c room l := ⟨h.1, h.2.1.drew, h.2.2⟩
theorem drewN (h : RingAt w p A c room l) (n : Nat) : RingAt (w.drewN n) p A c room l := ⟨h.1, h.2.1.drewN n, h.2.2⟩
theorem below (h : RingAt w p A c room l) (k : Below w.heap.size w w') : RingAt w' p A c room l := h.keep (Keep.of_below (fun _ => False) k) (fun x => x) (fun _ _ x => x)
end RingAt

/-- Behind a call on a ring. -/
def RingTo (p : Nat) (A : Option Addr) (w : World) (room : Nat) (l : List UInt8) (w' : World) : Prop := ∃ A' c', RingAt w' p A' c' room l ∧ RingStep p A w A' w'

/-- Behind a store of a new row. -/
theorem ring_store {w w1 : World} {p : Nat} {A : Option Addr} {c room : Nat} {l : List UInt8} (h : RingAt w p A c room l) {A2 : Option Addr} {c2 : Nat} {l2 : List UInt8}
    (hown : Buf w1 A2 l2.length c2 (Lib.byteCells l2)) (hl : l2.length ≤ room) (hk : Keep (fun k => blk A = some k) w w1) (hat : ∀ k, blk A2 = some k → blk A = some k ∨ w.heap.size ≤ k) :
    RingAt (w1.setCell ⟨p, 0, none⟩ (.slice A2 l2.length c2)) p A2 c2 room l2 ∧ RingStep p A w A2 (w1.setCell ⟨p, 0, none⟩ (.slice A2 l2.length c2)) := by
  have h1 := hk.heap h.1 h.2.2.1
  have hne : blk A2 ≠ some p := fun x => by
    rcases hat p x with q | q
    · exact h.2.2.1 q
    · have := h.lt; omega
  refine ⟨⟨heap_set h1 0 _, hown.keep (keep_set w1 p 0 _) (fun i hi e => hne (e ▸ hi)), hne, hl, h.2.2.2.2⟩, ?_, hat⟩
  exact Keep.setCell (S := fun k => k = p ∨ blk A = some k) (hk.mono fun _ _ x => .inr x) (p := ⟨p, 0, none⟩) (fun _ => .inl rfl) _

/-- New's room. -/
def clamp (n : Int) : Nat := (min (max n 0) 100000).toNat

set_option maxHeartbeats 400000 in
theorem new_any (n : Int) (w : World) :
    Calls Try.prog 7 #[.int .i64 n] w fun e w' => e = .returned (.pointer (some ⟨w.heap.size, 0, none⟩)) ∧ RingAt w' w.heap.size none 0 (clamp n) [] ∧ Below w.heap.size w w' := by
  have hx : min (max n 0) 100000 = ((clamp n : Nat) : Int) := by unfold clamp; omega
  have hc : clamp n ≤ 100000 := by unfold clamp; omega
  have H := Lib.hid hx
  clear hx
  go_enter Try.func7, Try.ntmps7
  go_wp2
  go_ret
  refine ⟨rfl, ⟨?_, Buf.nil _, by simp [blk], by simp, hc⟩, (Below.refl _ _).alloc (Nat.le_refl _) _⟩
  rw [← H.out]
  exact heap_alloc_new w _

set_option maxHeartbeats 400000 in
theorem ready_ok (p : Nat) (A : Option Addr) (c room : Nat) (l : List UInt8) (w : World) (h : RingAt w p A c room l) :
    Calls Try.prog 21 #[.pointer (some ⟨p, 0, none⟩)] w fun r w' => r = .returned (.bool true) ∧ w = w' := by
  have c2 := h.c2
  clear h
  go_enter Try.func21, Try.ntmps21
  go_wp2
  go_ret
  exact ⟨rfl, rfl⟩

set_option maxHeartbeats 400000 in
theorem ready_nil (w : World) :
    Calls Try.prog 21 #[.pointer none] w fun r w' => r = .returned (.bool false) ∧ w = w' := by
  go_enter Try.func21, Try.ntmps21
  go_wp2
  go_ret
  exact ⟨rfl, rfl⟩

set_option maxHeartbeats 400000 in
theorem len_any (p : Nat) (A : Option Addr) (c room : Nat) (l : List UInt8) (w : World) (h : RingAt w p A c room l) :
    Calls Try.prog 16 #[.pointer (some ⟨p, 0, none⟩)] w fun r w' => r = .returned (.int .i64 l.length) ∧ w = w' := by
  have c0 := h.c0
  have H := Lib.hid h
  clear h
  go_enter Try.func16, Try.ntmps16
  go_wp2_with fail
  refine (ready_ok p A c room l _ H.out).mono ?_
  rintro r w1 ⟨rfl, rfl⟩
  go_wp2
  go_ret
  exact ⟨rfl, rfl⟩

set_option maxHeartbeats 400000 in
theorem room_is (p : Nat) (A : Option Addr) (c room : Nat) (l : List UInt8) (w : World) (h : RingAt w p A c room l) :
    Calls Try.prog 17 #[.pointer (some ⟨p, 0, none⟩)] w fun r w' => r = .returned (.int .i64 ((room - l.length : Nat) : Int)) ∧ ∃ k, w' = w.drewN k := by
  have c0 := h.c0
  have c1 := h.c1
  have hl := h.2.2.2.1
  have hr := h.2.2.2.2
  have hx : ((room - l.length : Nat) : Int) = (room : Int) - (l.length : Int) := by omega
  have HX := Lib.hid hx
  have H := Lib.hid h
  have hw : IntKind.i64.wrap ((room : Int) - (l.length : Int)) = (room : Int) - (l.length : Int) := IntWalk.i64_in _ (by omega)
  clear h hx
  go_enter Try.func17, Try.ntmps17
  go_wp2_with fail
  refine (ready_ok p A c room l _ H.out).mono ?_
  rintro r w1 ⟨rfl, rfl⟩
  go_wp2_with fail
  go_quiet (fail)
  go_wp2_with fail
  go_ret
  rw [HX.out]
  exact ⟨rfl, _, rfl⟩

set_option maxHeartbeats 400000 in
theorem len_nil (w : World) :
    Calls Try.prog 16 #[.pointer none] w fun r w' => r = .returned (.int .i64 0) ∧ w = w' := by
  go_enter Try.func16, Try.ntmps16
  go_wp2_with fail
  refine (ready_nil _).mono ?_
  rintro r w1 ⟨rfl, rfl⟩
  go_wp2
  go_ret
  exact ⟨rfl, rfl⟩

set_option maxHeartbeats 400000 in
theorem room_nil (w : World) :
    Calls Try.prog 17 #[.pointer none] w fun r w' => r = .returned (.int .i64 0) ∧ w = w' := by
  go_enter Try.func17, Try.ntmps17
  go_wp2_with fail
  refine (ready_nil _).mono ?_
  rintro r w1 ⟨rfl, rfl⟩
  go_wp2
  go_ret
  exact ⟨rfl, rfl⟩

/-- The first n bytes, as Peek tells them. -/
def peekL (l : List UInt8) (n : Int) : List UInt8 := l.take n.toNat

set_option maxHeartbeats 400000 in
theorem peek_nil (n : Int) (w : World) :
    Calls Try.prog 14 #[.pointer none, .int .i64 n] w fun r w' => r = .returned (.string ⟨#[]⟩) ∧ w = w' := by
  by_cases h1 : n < 1
  · go_enter Try.func14, Try.ntmps14
    go_wp2_with fail
    go_ret
    exact ⟨rfl, rfl⟩
  · go_enter Try.func14, Try.ntmps14
    go_wp2_with fail
    refine (ready_nil _).mono ?_
    rintro r w1 ⟨rfl, rfl⟩
    go_wp2_with fail
    go_ret
    exact ⟨rfl, rfl⟩

set_option maxHeartbeats 800000 in
theorem peek_any (p : Nat) (A : Option Addr) (c room : Nat) (l : List UInt8) (n : Int) (w : World) (h : RingAt w p A c room l) (hn : n ≤ 9223372036854775807) :
    Calls Try.prog 14 #[.pointer (some ⟨p, 0, none⟩), .int .i64 n] w fun r w' => r = .returned (.string ⟨(peekL l n).toArray⟩) ∧ ∃ k, w' = w.drewN k := by
  have c0 := h.c0
  have H := Lib.hid h
  have hl := h.2.2.2.1
  have hr := h.2.2.2.2
  have hcl := h.2.1.le
  have hcm := h.2.1.cm
  unfold maxLen at hcm
  by_cases h1 : n < 1
  · have he : peekL l n = [] := by unfold peekL; rw [show n.toNat = 0 from by omega]; simp
    rw [he]
    clear h he
    go_enter Try.func14, Try.ntmps14
    go_wp2_with fail
    go_ret
    exact ⟨rfl, 0, rfl⟩
  · obtain ⟨m, hm⟩ : ∃ m : Nat, min n (l.length : Int) = (m : Int) := ⟨(min n (l.length : Int)).toNat, by omega⟩
    have hml : m ≤ l.length := by omega
    have hm0 : (0 : Int) ≤ (m : Int) := by omega
    have hmc : (m : Int) ≤ (c : Int) := by omega
    have he : peekL l n = l.take m := by
      unfold peekL
      by_cases q : n ≤ (l.length : Int)
      · rw [show n.toNat = m from by omega]
      · rw [List.take_of_length_le (by omega), List.take_of_length_le (by omega)]
    rw [he]
    have hrun : ∀ k, (convert 40 9 (.slice A m c)).run Try.prog (w.drewN k) = .ok (.string ⟨(l.take m).toArray⟩) (w.drewN k) := fun k => run_buf_string (P := Try.prog) 40 9 5 (h.2.1.drewN k) Try.underlying40 Try.underlying5 Try.underlying9 m hml
    clear h he
    go_enter Try.func14, Try.ntmps14
    go_wp2_with fail
    refine (ready_ok p A c room l _ H.out).mono ?_
    rintro r w1 ⟨rfl, rfl⟩
    go_wp2_with fail
    go_quiet (fail)
    go_wp2_with fail
    go_ret
    exact ⟨rfl, _, rfl⟩

end Go.Proofs.Ythpghomnfailkaa
