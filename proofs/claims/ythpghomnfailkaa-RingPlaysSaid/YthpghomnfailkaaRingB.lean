/- The contracts of ring.Ring: drop, Take, Clear. Own work. -/
import Derived.Test.YthpghomnfailkaaRing
namespace Go.Proofs.Ythpghomnfailkaa
set_option linter.unusedVariables false
open Go.RowKit

theorem byte_cells : Try.prog.cellsOf 5 = 1 := by
  obtain ⟨i0, hi, hz0, hz1, hz2⟩ := info_parts byte_info
  simp [Program.cellsOf, hi, hz1]

theorem byteCells_drop (l : List UInt8) (n : Nat) : (Lib.byteCells l).drop n = Lib.byteCells (l.drop n) := by simp [Lib.byteCells]

set_option maxHeartbeats 800000 in
theorem drop_some (p : Nat) (A : Option Addr) (c room : Nat) (l : List UInt8) (n : Nat) (w : World) (h : RingAt w p A c room l) (h0 : 0 < n) (hn : n < l.length) :
    Calls Try.prog 23 #[.pointer (some ⟨p, 0, none⟩), .int .i64 n] w fun r w' => r = .returned (.tuple #[]) ∧ RingTo p A w room (l.drop n) w' := by
  obtain ⟨b, off, rfl, hb, hrow⟩ := h.2.1.some_of (by omega)
  have c0 := h.c0
  have f0 := h.fr 0
  have hc := hrow.le
  have hcm := hrow.cm
  unfold maxLen at hcm
  have hz : ((l.length : Int) - (n : Int) == 0) = false := by simp; omega
  have hne : ¬ (c = n) := by omega
  have hfin : RingTo p (some ⟨b, off, none⟩) w room (l.drop n) (w.setCell ⟨p, 0, none⟩ (.slice (some ⟨b, off + n, none⟩) (l.length - n) (c - n))) := by
    have h2 := hrow.drop n (by omega)
    rw [byteCells_drop] at h2
    have e : l.length - n = (l.drop n).length := by simp
    rw [e] at h2 ⊢
    obtain ⟨q1, q2⟩ := ring_store h (A2 := some ⟨b, off + n, none⟩) (c2 := c - n) (l2 := l.drop n) (.inr ⟨b, off + n, rfl, hb, h2⟩) (by have := h.2.2.2.1; simp; omega) (Keep.refl _ w) (fun k hk => .inl hk)
    exact ⟨_, _, q1, q2⟩
  have HF := Lib.hid hfin
  have hco : Try.prog.cellsOf 5 = 1 := byte_cells
  clear h hrow hfin
  go_enter Try.func23, Try.ntmps23
  go_wp2
  go_end0
  exact ⟨rfl, HF.out⟩

set_option maxHeartbeats 800000 in
theorem drop_all (p : Nat) (A : Option Addr) (c room : Nat) (l : List UInt8) (w : World) (h : RingAt w p A c room l) (h0 : 0 < l.length) :
    Calls Try.prog 23 #[.pointer (some ⟨p, 0, none⟩), .int .i64 l.length] w fun r w' => r = .returned (.tuple #[]) ∧ RingTo p A w room [] w' := by
  obtain ⟨b, off, rfl, hb, hrow⟩ := h.2.1.some_of (by omega)
  have c0 := h.c0
  have f0 := h.fr 0
  have hc := hrow.le
  have hcm := hrow.cm
  unfold maxLen at hcm
  have hfin : ∀ v, RingTo p (some ⟨b, off, none⟩) w room [] ((w.setCell ⟨p, 0, none⟩ v).setCell ⟨p, 0, none⟩ (.slice none 0 0)) := fun v =>
    ⟨none, 0, ⟨heap_set (heap_set h.1 0 _) 0 _, Buf.nil _, by simp [blk], by simp, h.2.2.2.2⟩,
      (((Keep.refl (fun k => k = p ∨ blk (some ⟨b, off, none⟩) = some k) w).setCell (p := ⟨p, 0, none⟩) (fun _ => .inl rfl) _).setCell (p := ⟨p, 0, none⟩) (fun _ => .inl rfl) _), fun k hk => by simp [blk] at hk⟩
  have HF := Lib.hid hfin
  have hco : Try.prog.cellsOf 5 = 1 := byte_cells
  clear h hrow hfin
  by_cases hne : c = l.length
  all_goals
    go_enter Try.func23, Try.ntmps23
    go_wp2
    go_end0
    exact ⟨rfl, HF.out _⟩

/-- drop: the first n go. -/
theorem drop_any (p : Nat) (A : Option Addr) (c room : Nat) (l : List UInt8) (n : Nat) (w : World) (h : RingAt w p A c room l) (h0 : 0 < n) (hn : n ≤ l.length) :
    Calls Try.prog 23 #[.pointer (some ⟨p, 0, none⟩), .int .i64 n] w fun r w' => r = .returned (.tuple #[]) ∧ RingTo p A w room (l.drop n) w' := by
  by_cases e : n = l.length
  · subst e
    rw [List.drop_length]
    exact drop_all p A c room l w h h0
  · exact drop_some p A c room l n w h h0 (by omega)

theorem peek_len (l : List UInt8) (n : Int) : (peekL l n).length ≤ l.length := by unfold peekL; rw [List.length_take]; omega

theorem drop_peek (l : List UInt8) (n : Int) : l.drop (peekL l n).length = l.drop n.toNat := by
  unfold peekL
  rw [List.length_take]
  by_cases h : n.toNat ≤ l.length
  · rw [Nat.min_eq_left h]
  · rw [Nat.min_eq_right (by omega), List.drop_of_length_le (by omega), List.drop_of_length_le (by omega)]

set_option maxHeartbeats 800000 in
theorem take_any (p : Nat) (A : Option Addr) (c room : Nat) (l : List UInt8) (n : Int) (w : World) (h : RingAt w p A c room l) (hn : n ≤ 9223372036854775807) :
    Calls Try.prog 13 #[.pointer (some ⟨p, 0, none⟩), .int .i64 n] w fun r w' => r = .returned (.string ⟨(peekL l n).toArray⟩) ∧ RingTo p A w room (l.drop n.toNat) w' := by
  have H := Lib.hid h
  have HP := Lib.hid (drop_peek l n)
  have hpl := peek_len l n
  clear h
  by_cases hz : (peekL l n).length = 0
  · have hs : (⟨(peekL l n).toArray⟩ : ByteArray) = ⟨#[]⟩ := by rw [List.eq_nil_of_length_eq_zero hz]
    rw [hs]
    have HZ := Lib.hid hz
    have HS := Lib.hid hs
    clear hz hs
    go_enter Try.func13, Try.ntmps13
    go_wp2_with fail
    refine (peek_any p A c room l n _ H.out hn).mono ?_
    rintro r w1 ⟨rfl, q, rfl⟩
    rw [HS.out]
    go_wp2
    go_ret
    have h1 := HP.out
    rw [HZ.out] at h1
    rw [← h1]
    exact ⟨rfl, A, c, H.out.drewN q, RingStep.drewN _ _ _ _⟩
  · obtain ⟨s, hs⟩ : ∃ s : ByteArray, s = ⟨(peekL l n).toArray⟩ := ⟨_, rfl⟩
    have hsz : s.size = (peekL l n).length := by rw [hs, size_mk]
    have hne1 := not_empty (s := s) (by omega)
    have hne2 : s.toList ≠ [] := by intro e; rw [e] at hne1; simp at hne1
    rw [← hs]
    have HS := Lib.hid hs
    have HZ := Lib.hid hsz
    have hb0 : 0 < s.size := by omega
    have hb1 : s.size ≤ l.length := by omega
    have hr := H.out.2.2.2.1
    have hr2 := H.out.2.2.2.2
    clear hs hsz hz
    go_enter Try.func13, Try.ntmps13
    go_wp2_with fail
    refine (peek_any p A c room l n _ H.out hn).mono ?_
    rintro r w1 ⟨rfl, q, rfl⟩
    rw [← HS.out]
    go_wp2_with fail
    refine (drop_any p A c room l s.size _ (H.out.drewN q) hb0 hb1).mono ?_
    rintro r w2 ⟨rfl, h1⟩
    rw [HZ.out, HP.out] at h1
    have H1 := Lib.hid h1
    clear h1
    go_wp2_with fail
    go_ret
    obtain ⟨A', c', q1, q2⟩ := H1.out
    exact ⟨rfl, A', c', q1, (RingStep.drewN p A w q).trans q2⟩

set_option maxHeartbeats 800000 in
theorem take_nil (n : Int) (w : World) :
    Calls Try.prog 13 #[.pointer none, .int .i64 n] w fun r w' => r = .returned (.string ⟨#[]⟩) ∧ w = w' := by
  go_enter Try.func13, Try.ntmps13
  go_wp2_with fail
  refine (peek_nil n _).mono ?_
  rintro r w1 ⟨rfl, rfl⟩
  go_wp2
  go_ret
  exact ⟨rfl, rfl⟩

set_option maxHeartbeats 800000 in
theorem clear_nil (w : World) :
    Calls Try.prog 15 #[.pointer none] w fun r w' => r = .returned (.int .i64 0) ∧ w = w' := by
  go_enter Try.func15, Try.ntmps15
  go_wp2_with fail
  refine (len_nil _).mono ?_
  rintro r w1 ⟨rfl, rfl⟩
  go_wp2
  go_ret
  exact ⟨rfl, rfl⟩

set_option maxHeartbeats 800000 in
theorem clear_any (p : Nat) (A : Option Addr) (c room : Nat) (l : List UInt8) (w : World) (h : RingAt w p A c room l) :
    Calls Try.prog 15 #[.pointer (some ⟨p, 0, none⟩)] w fun r w' => r = .returned (.int .i64 l.length) ∧ RingTo p A w room [] w' := by
  have H := Lib.hid h
  clear h
  by_cases hz : l.length = 0
  · have hl := List.eq_nil_of_length_eq_zero hz
    subst hl
    clear hz
    go_enter Try.func15, Try.ntmps15
    go_wp2_with fail
    refine (len_any p A c room _ _ H.out).mono ?_
    rintro r w1 ⟨rfl, rfl⟩
    go_wp2
    go_ret
    exact ⟨rfl, A, c, H.out, RingStep.refl _ _ _⟩
  · have hz' : 0 < l.length := by omega
    clear hz
    go_enter Try.func15, Try.ntmps15
    go_wp2_with fail
    refine (len_any p A c room _ _ H.out).mono ?_
    rintro r w1 ⟨rfl, rfl⟩
    go_wp2_with fail
    refine (drop_all p A c room l _ H.out hz').mono ?_
    rintro r w1 ⟨rfl, h1⟩
    have H1 := Lib.hid h1
    clear h1
    go_wp2_with fail
    go_ret
    exact ⟨rfl, H1.out⟩

/-- Do the texts fit? -/
def fitsL (r : Nat) (xs : List ByteArray) : Bool := decide (sum xs ≤ r)

theorem fits_no (r : Nat) (x : ByteArray) (xs : List ByteArray) (h : r < x.size) : fitsL r (x :: xs) = false := by
  have e : sum (x :: xs) = x.size + sum xs := by simp [sum]
  unfold fitsL
  rw [e]
  exact decide_eq_false (by omega)

theorem fits_go (r : Nat) (x : ByteArray) (xs : List ByteArray) (h : x.size ≤ r) : fitsL r (x :: xs) = fitsL (r - x.size) xs := by
  have e : sum (x :: xs) = x.size + sum xs := by simp [sum]
  unfold fitsL
  rw [e, decide_eq_decide]
  omega

theorem fits_nil (r : Nat) : fitsL r [] = true := by simp [fitsL, sum]

set_option maxRecDepth 100000 in
set_option maxHeartbeats 800000 in
theorem fits_any (B : Option Addr) (n cap : Nat) (xs : List ByteArray) (r : Nat) (w : World) (hx : Src w B n (xs.map Value.string)) (hxs : ∀ x ∈ xs, x.size ≤ maxLen) (hr : r ≤ 100000) (hn : n ≤ maxLen) :
    Calls Try.prog 22 #[.int .i64 r, .slice B n cap] w fun e w' => e = .returned (.bool (fitsL r xs)) ∧ w = w' := by
  have HX := Lib.hid hx
  have HN := Lib.hid (show xs.length = n from by have := hx.1; rwa [List.length_map] at this)
  have HB := Lib.hid hxs
  unfold maxLen at hn
  clear hx hxs
  go_enter Try.func22, Try.ntmps22
  go_wp2_with fail
  go_loop [0, 9] (fun a i => ∃ (k m : Nat), k ≤ n ∧ i = .int .i64 k ∧ a = .int .i64 m ∧ m ≤ 100000 ∧ Hid (fitsL m (xs.drop k) = fitsL r xs)) (fun _ i => n - (intOf i).toNat)
  case atStart => exact ⟨0, r, by omega, rfl, rfl, hr, rfl⟩
  case round =>
    obtain ⟨k, m, hk, rfl, rfl, hm, hd⟩ := hrel
    by_cases hlt : k < n
    · obtain ⟨x, hxk⟩ : ∃ x, xs[k]? = some x := ⟨xs[k]'(by rw [HN.out]; exact hlt), List.getElem?_eq_getElem _⟩
      obtain ⟨b, off, rfl, hb, hc⟩ := HX.out.2 (by omega)
      have hcx : w.cell? ⟨b, off + k, none⟩ = some (.string x) := hc k _ (by rw [List.getElem?_map, hxk]; rfl)
      have hx1 := HB.out x (List.mem_of_getElem? hxk)
      unfold maxLen at hx1
      have H1 := Lib.hid (drop_next hxk)
      clear hc hb hxk
      by_cases hbig : m < x.size
      · go_wp2
        go_ret
        have h2 := hd.out
        rw [H1.out, fits_no m x _ hbig] at h2
        rw [← h2]; exact ⟨rfl, rfl⟩
      · go_wp2
        go_round
        case rel =>
          have h2 := hd.out
          rw [H1.out, fits_go m x _ (by omega)] at h2
          exact ⟨k + 1, m - x.size, by omega, by go_num, by go_num, by omega, h2⟩
        case measure => simp [intOf]; omega
    · go_wp2
      go_ret
      have h2 := hd.out
      rw [List.drop_of_length_le (by rw [HN.out]; omega), fits_nil] at h2
      rw [← h2]; exact ⟨rfl, rfl⟩

end Go.Proofs.Ythpghomnfailkaa
