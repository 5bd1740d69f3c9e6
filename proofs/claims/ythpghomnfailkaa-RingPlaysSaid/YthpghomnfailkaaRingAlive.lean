/- alive of chapter 2's statements. Own work. -/
import Derived.Test.YthpghomnfailkaaRingC
namespace Go.Proofs.Ythpghomnfailkaa
set_option linter.unusedVariables false
open Go.RowKit

/-- A ring that was made since w0: all of it lies behind what there was. -/
def RingIs (w0 : World) (p room : Nat) (l : List UInt8) (w : World) : Prop :=
  ∃ A c, RingAt w p A c room l ∧ Below w0.heap.size w0 w ∧ w0.heap.size ≤ p ∧ ∀ k, blk A = some k → w0.heap.size ≤ k

namespace RingIs
variable {w0 w w' : World} {p room : Nat} {l : List UInt8}
theorem below (h : RingIs w0 p room l w) : Below w0.heap.size w0 w := by obtain ⟨A, c, _, h, _⟩ := h; exact h
theorem drewN (h : RingIs w0 p room l w) (n : Nat) : RingIs w0 p room l (w.drewN n) := by
  obtain ⟨A, c, h1, h2, h3, h4⟩ := h
  exact ⟨A, c, h1.drewN n, ⟨h2.os, h2.tape, h2.output, h2.size, h2.block⟩, h3, h4⟩
theorem drew (h : RingIs w0 p room l w) : RingIs w0 p room l w.drew := h.drewN 1
theorem new (n : Int) {w0 w : World} (hb : Below w0.heap.size w0 w) (h : RingAt w' w.heap.size none 0 (clamp n) []) (hn : Below w.heap.size w w') : RingIs w0 w.heap.size (clamp n) [] w' :=
  ⟨none, 0, h, hb.trans (hn.mono hb.size), hb.size, fun k hk => by simp [blk] at hk⟩
theorem step {A : Option Addr} {c : Nat} {l2 : List UInt8} (h1 : RingAt w p A c room l) (h2 : Below w0.heap.size w0 w) (h3 : w0.heap.size ≤ p) (h4 : ∀ k, blk A = some k → w0.heap.size ≤ k) (t : RingTo p A w room l2 w') : RingIs w0 p room l2 w' := by
  obtain ⟨A', c', q1, q2, q3⟩ := t
  refine ⟨A', c', q1, h2.trans (q2.below h2.size fun k hk => ?_), h3, fun k hk => ?_⟩
  · rintro (e | e)
    · omega
    · have := h4 k e; omega
  · rcases q3 k hk with e | e
    · exact h4 k e
    · have := h2.size; omega
/-- Behind what makes blocks alone. -/
theorem on (h : RingIs w0 p room l w) (k : Below w.heap.size w w') : RingIs w0 p room l w' := by
  obtain ⟨A, c, h1, h2, h3, h4⟩ := h
  exact ⟨A, c, h1.below k, h2.trans (k.mono h2.size), h3, h4⟩
theorem alloc (h : RingIs w0 p room l w) (o : Obj) : RingIs w0 p room l (w.alloc o) := h.on ((Below.refl _ _).alloc (Nat.le_refl _) _)
/-- Room's bounds. -/
theorem bounds (h : RingIs w0 p room l w) : l.length ≤ room ∧ room ≤ 100000 := by obtain ⟨A, c, h1, _⟩ := h; exact h1.2.2.2
end RingIs

variable {w0 w : World} {p room : Nat} {l : List UInt8}

/-- What a call on a ring did that was made since w0: of what lies behind M nothing turned. -/
def Beside (M : Nat) (w w' : World) : Prop := Keep (fun k => k < M) w w'

theorem isTo {w1 w' : World} {A : Option Addr} {c : Nat} {l2 : List UInt8} (h1 : RingAt w1 p A c room l) (h2 : Below w0.heap.size w0 w1) (h3 : w0.heap.size ≤ p) (h4 : ∀ k, blk A = some k → w0.heap.size ≤ k) (hb : Below w1.heap.size w1 w) (t : RingTo p A w room l2 w') :
    RingIs w0 p room l2 w' ∧ Beside w1.heap.size w w' :=
  ⟨RingIs.step (h1.below hb) (h2.trans (hb.mono h2.size)) h3 h4 t, by
    obtain ⟨A', c', q1, q2, q3⟩ := t
    refine q2.mono fun k _ hk => ?_
    rcases hk with e | e
    · rw [e]; exact h1.lt
    · exact h1.row e⟩

theorem isPut {w1 : World} (h : RingIs w0 p room l w1) (hb : Below w1.heap.size w1 w) {B : Option Addr} {n cap : Nat} (xs : List ByteArray) (hx : SliceAt w B (xs.map Value.string) (fun k => k < w1.heap.size)) (hn : xs.length = n) (hxs : ∀ x ∈ xs, x.size ≤ maxLen) (hm : n ≤ maxLen) :
    Calls Try.prog 11 #[.pointer (some ⟨p, 0, none⟩), .slice B n cap] w fun r w' => r = .returned (.int .i64 ((putL room l xs).length - l.length : Nat)) ∧ RingIs w0 p room (putL room l xs) w' ∧ Beside w1.heap.size w w' := by
  obtain ⟨A, c, h1, h2, h3, h4⟩ := h
  refine (put_any p A c room l B n cap xs w (h1.below hb) (fun h0 => ?_) hn hxs hm).mono fun r w' ⟨hr, ht⟩ => ⟨hr, isTo h1 h2 h3 h4 hb ht⟩
  obtain ⟨b, off, e, q1, q2, q3⟩ := hx h0
  refine ⟨b, off, e, q1, fun hk => q2 ?_, q3⟩
  rcases hk with e | e
  · rw [e]; exact h1.lt
  · exact h1.row e

theorem isAll {w1 : World} (h : RingIs w0 p room l w1) (hb : Below w1.heap.size w1 w) {B : Option Addr} {n cap : Nat} (xs : List ByteArray) (hx : SliceAt w B (xs.map Value.string) (fun k => k < w1.heap.size)) (hn : xs.length = n) (hxs : ∀ x ∈ xs, x.size ≤ maxLen) (hm : n ≤ maxLen) :
    Calls Try.prog 12 #[.pointer (some ⟨p, 0, none⟩), .slice B n cap] w fun r w' => r = .returned (.bool (fitsL (room - l.length) xs)) ∧ RingIs w0 p room (allL room l xs) w' ∧ Beside w1.heap.size w w' := by
  obtain ⟨A, c, h1, h2, h3, h4⟩ := h
  refine (all_any p A c room l B n cap xs w (h1.below hb) (fun h0 => ?_) hn hxs hm).mono fun r w' ⟨hr, ht⟩ => ⟨hr, isTo h1 h2 h3 h4 hb ht⟩
  obtain ⟨b, off, e, q1, q2, q3⟩ := hx h0
  refine ⟨b, off, e, q1, fun hk => q2 ?_, q3⟩
  rcases hk with e | e
  · rw [e]; exact h1.lt
  · exact h1.row e

theorem isTake {w1 : World} (h : RingIs w0 p room l w1) (hb : Below w1.heap.size w1 w) (n : Int) (hn : n ≤ 9223372036854775807) :
    Calls Try.prog 13 #[.pointer (some ⟨p, 0, none⟩), .int .i64 n] w fun r w' => r = .returned (.string ⟨(peekL l n).toArray⟩) ∧ RingIs w0 p room (l.drop n.toNat) w' ∧ Beside w1.heap.size w w' := by
  obtain ⟨A, c, h1, h2, h3, h4⟩ := h
  exact (take_any p A c room l n w (h1.below hb) hn).mono fun r w' ⟨hr, ht⟩ => ⟨hr, isTo h1 h2 h3 h4 hb ht⟩

theorem isClear {w1 : World} (h : RingIs w0 p room l w1) (hb : Below w1.heap.size w1 w) :
    Calls Try.prog 15 #[.pointer (some ⟨p, 0, none⟩)] w fun r w' => r = .returned (.int .i64 l.length) ∧ RingIs w0 p room [] w' ∧ Beside w1.heap.size w w' := by
  obtain ⟨A, c, h1, h2, h3, h4⟩ := h
  exact (clear_any p A c room l w (h1.below hb)).mono fun r w' ⟨hr, ht⟩ => ⟨hr, isTo h1 h2 h3 h4 hb ht⟩

theorem isPeek (h : RingIs w0 p room l w) (n : Int) (hn : n ≤ 9223372036854775807) :
    Calls Try.prog 14 #[.pointer (some ⟨p, 0, none⟩), .int .i64 n] w fun r w' => r = .returned (.string ⟨(peekL l n).toArray⟩) ∧ ∃ k, w' = w.drewN k := by
  obtain ⟨A, c, h1, _⟩ := h
  exact peek_any p A c room l n w h1 hn

theorem isLen (h : RingIs w0 p room l w) :
    Calls Try.prog 16 #[.pointer (some ⟨p, 0, none⟩)] w fun r w' => r = .returned (.int .i64 l.length) ∧ w = w' := by
  obtain ⟨A, c, h1, _⟩ := h
  exact len_any p A c room l w h1

theorem isRoom (h : RingIs w0 p room l w) :
    Calls Try.prog 17 #[.pointer (some ⟨p, 0, none⟩)] w fun r w' => r = .returned (.int .i64 ((room - l.length : Nat) : Int)) ∧ ∃ k, w' = w.drewN k := by
  obtain ⟨A, c, h1, _⟩ := h
  exact room_is p A c room l w h1

/-- A slice that was just laid, for Put. -/
theorem fresh {t : TypeId} (vs : List Value) : SliceAt (w.alloc (.cells vs.toArray t)) (some ⟨w.heap.size, 0, none⟩) vs (fun k => k < w.heap.size) := slice_new rfl vs t (by omega)
theorem alone (o : Obj) : Below w.heap.size w (w.alloc o) := (Below.refl _ _).alloc (Nat.le_refl _) _

theorem alive_put1 : putL 3 [] [⟨#[97, 98]⟩, ⟨#[99, 100]⟩] = [97, 98, 99] := by rfl
theorem alive_put2 : putL 3 [99] [⟨#[120, 121, 122]⟩] = [99, 120, 121] := by rfl
theorem alive_room : clamp 3 = 3 := by rfl

set_option maxRecDepth 100000 in
set_option maxHeartbeats 800000 in
theorem alive_any (w : World) : Calls Try.prog 6 #[] w fun e w' => e = .returned (.bool true) ∧ Below w.heap.size w w' := by
  go_enter Try.func6, Try.ntmps6
  go_wp2_with fail
  refine (new_any 3 w).mono ?_
  rintro r w1 ⟨rfl, h1, h2⟩
  have k1 := RingIs.new 3 (Below.refl w.heap.size w) h1 h2
  rw [alive_room] at k1
  have H1 := Lib.hid k1
  clear h1 h2 k1
  obtain ⟨p, hp⟩ : ∃ p, p = w.heap.size := ⟨_, rfl⟩
  rw [← hp] at H1 ⊢
  clear hp
  go_wp2_with fail
  have e1 := isPut H1.out (alone _) (B := some ⟨w1.heap.size, 0, none⟩) (n := 2) (cap := 2) [⟨#[97, 98]⟩, ⟨#[99, 100]⟩] (fresh (t := 9) _) rfl (by simp [maxLen, size_mk]) (by simp [maxLen])
  rw [alive_put1] at e1
  refine e1.mono ?_
  clear e1
  rintro r w2 ⟨rfl, h1, _⟩
  have H2 := Lib.hid h1
  clear h1 H1
  go_wp2_with fail
  refine (isTake H2.out (Below.refl _ _) 2 (by omega)).mono ?_
  rintro r w3 ⟨rfl, h1, _⟩
  have H3 := Lib.hid (show RingIs w p 3 [99] w3 from h1)
  clear h1 H2
  rw [show (⟨(peekL [97, 98, 99] 2).toArray⟩ : ByteArray) = ⟨#[97, 98]⟩ from rfl]
  go_wp2_with fail
  have e1 := isPut H3.out (alone _) (B := some ⟨w3.heap.size, 0, none⟩) (n := 1) (cap := 1) [⟨#[120, 121, 122]⟩] (fresh (t := 9) _) rfl (by simp [maxLen, size_mk]) (by simp [maxLen])
  rw [alive_put2] at e1
  refine e1.mono ?_
  clear e1
  rintro r w4 ⟨rfl, h1, _⟩
  have H4 := Lib.hid h1
  clear h1 H3
  go_wp2_with fail
  refine (isTake H4.out (Below.refl _ _) 9 (by omega)).mono ?_
  rintro r w5 ⟨rfl, h1, _⟩
  have H5 := Lib.hid (show RingIs w p 3 [] w5 from h1)
  clear h1 H4
  rw [show (⟨(peekL [99, 120, 121] 9).toArray⟩ : ByteArray) = ⟨#[99, 120, 121]⟩ from rfl]
  go_wp2_with fail
  refine (isRoom H5.out).mono ?_
  rintro r w6 ⟨rfl, q, rfl⟩
  have H6 := Lib.hid (H5.out.drewN q).below
  clear H5
  go_wp2_with fail
  go_ret
  exact ⟨rfl, H6.out⟩

end Go.Proofs.Ythpghomnfailkaa
