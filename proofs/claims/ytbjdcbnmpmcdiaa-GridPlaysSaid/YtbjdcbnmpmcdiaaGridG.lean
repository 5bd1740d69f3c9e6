/- grid.Grid: W, H, places, rows, rest, cellsOf. Own work. -/
import Derived.Test.YtbjdcbnmpmcdiaaGridT
namespace Go.Proofs.Ytbjdcbnmpmcdiaa
set_option linter.unusedVariables false
set_option linter.unusedSimpArgs false
open Go.RowKit

theorem PutC.of_drewN {g o n k : Nat} {f : Nat → CellM} {w w' : World} (p : PutC g o n f (w.drewN k) w') : PutC g o n f w w' := ⟨((Keep.refl _ w).drewN k).trans p.keep (fun _ _ x => x), p.fz, p.val, p.out⟩
/-- A Grid in block p: its cells f lie in block g. -/
structure GridAt (w : World) (p g c W H n : Nat) (f : Nat → CellM) : Prop where
  cw : Cell w p 0 (.int .i64 (W : Int))
  ch : Cell w p 1 (.int .i64 (H : Int))
  cs : Cell w p 2 (.slice (some ⟨g, 0, none⟩) n c)
  l : Lies w g 0 n f
  hg : g < w.heap.size
  ne : g ≠ p
  hn : n = W * H
  hw : 2 ≤ W ∧ W ≤ 40
  hh : 1 ≤ H ∧ H ≤ 20
  hc : n ≤ c
  cm : c ≤ 9223372036854775807

namespace GridAt
variable {w w' : World} {p g c W H n : Nat} {f f' : Nat → CellM}
theorem lt (h : GridAt w p g c W H n f) : p < w.heap.size := h.cw.lt
theorem keep {S : Nat → Prop} (h : GridAt w p g c W H n f) (k : Keep S w w') (hp : ¬ S p) (hg : ¬ S g) : GridAt w' p g c W H n f :=
  ⟨h.cw.keep k hp, h.ch.keep k hp, h.cs.keep k hp, h.l.keep h.hg k hg, Nat.lt_of_lt_of_le h.hg k.size, h.ne, h.hn, h.hw, h.hh, h.hc, h.cm⟩
theorem n800 (h : GridAt w p g c W H n f) : n ≤ 800 ∧ 2 ≤ n := by
  have h1 := Nat.mul_le_mul h.hw.2 h.hh.2
  have h2 := Nat.mul_le_mul h.hw.1 h.hh.1
  have := h.hn
  omega
/-- Its cells were written. -/
theorem put (h : GridAt w p g c W H n f) {a m : Nat} {x : Nat → CellM} (q : PutC g (a * 6) m x w w') (ha : a + m ≤ n) : GridAt w' p g c W H n (fun k => if a ≤ k ∧ k < a + m then x (k - a) else f k) :=
  ⟨h.cw.keep q.keep (fun e => h.ne e.symm), h.ch.keep q.keep (fun e => h.ne e.symm), h.cs.keep q.keep (fun e => h.ne e.symm), PutC.lies h.l (by rw [Nat.zero_add]; exact q) ha, Nat.lt_of_lt_of_le h.hg q.keep.size, h.ne, h.hn, h.hw, h.hh, h.hc, h.cm⟩
theorem congr (h : GridAt w p g c W H n f) (e : ∀ k, k < n → f k = f' k) : GridAt w p g c W H n f' := ⟨h.cw, h.ch, h.cs, h.l.congr e, h.hg, h.ne, h.hn, h.hw, h.hh, h.hc, h.cm⟩
theorem sl (h : GridAt w p g c W H n f) (a m : Nat) (hm : 0 < m) (ha : a + m ≤ n) : Sl w (some ⟨g, a * 6, none⟩) g (a * 6) m (c - a) (fun k => f (a + k)) :=
  ⟨fun _ => ⟨rfl, by have := h.l.sub a m ha; rwa [Nat.zero_add] at this, h.hg, by have := h.hc; omega⟩, fun e => by omega⟩
end GridAt

set_option maxHeartbeats 800000 in
theorem grid_W (w : World) (p g c W H n : Nat) (f : Nat → CellM) (h : GridAt w p g c W H n f) :
    Calls Try.prog 33 #[.pointer (some ⟨p, 0, none⟩)] w fun e w' => e = .returned (.int .i64 W) ∧ w' = w := by
  have c0 := h.cw.1
  clear h
  go_enter Try.func33, Try.ntmps33
  go_wp2_with fail
  go_ret
  exact ⟨rfl, rfl⟩

set_option maxHeartbeats 800000 in
theorem grid_H (w : World) (p g c W H n : Nat) (f : Nat → CellM) (h : GridAt w p g c W H n f) :
    Calls Try.prog 34 #[.pointer (some ⟨p, 0, none⟩)] w fun e w' => e = .returned (.int .i64 H) ∧ w' = w := by
  have c0 := h.ch.1
  clear h
  go_enter Try.func34, Try.ntmps34
  go_wp2_with fail
  go_ret
  exact ⟨rfl, rfl⟩

/-- Cells that are told: nil, or m from place a on. -/
def Tells (w : World) (g c a m : Nat) (e : Ending) (w' : World) : Prop := (∃ k, w' = w.drewN k) ∧ ((m = 0 ∧ e = .returned (.slice none 0 0)) ∨ (0 < m ∧ e = .returned (.slice (some ⟨g, a * 6, none⟩) m (c - a))))

set_option maxRecDepth 100000 in
set_option maxHeartbeats 1600000 in
theorem places_some (w : World) (p g c W H n : Nat) (f : Nat → CellM) (x y : Int) (a b : Nat) (h : GridAt w p g c W H n f) (hx : max x 0 = (a : Int)) (hy : min y (n : Int) = (b : Int)) (hab : a < b) :
    Calls Try.prog 51 #[.pointer (some ⟨p, 0, none⟩), .int .i64 x, .int .i64 y] w fun e w' => e = .returned (.slice (some ⟨g, a * 6, none⟩) (b - a) (c - a)) ∧ ∃ k, w' = w.drewN k := by
  have c0 := h.cs.1
  have hn8 := h.n800.1
  have hc := h.hc
  have hcm := h.cm
  have hbn : b ≤ n := by omega
  have t1 : ¬ ((a : Int) ≥ (b : Int)) := by omega
  have t2 : (b : Int) ≤ (c : Int) := by omega
  have t3 : (0 : Int) ≤ (a : Int) := by omega
  have t4 : (a : Int) ≤ (b : Int) := by omega
  have t5 : (b : Int) ≤ 800 := by omega
  have t6 : ¬ c = a := by omega
  clear h hc hcm
  go_enter Try.func51, Try.ntmps51
  go_wp2_with fail
  go_quiet (fail)
  go_wp2_with fail
  go_ret
  exact ⟨rfl, _, rfl⟩

set_option maxRecDepth 100000 in
set_option maxHeartbeats 1600000 in
theorem places_none (w : World) (p g c W H n : Nat) (f : Nat → CellM) (x y a b : Int) (h : GridAt w p g c W H n f) (hx : max x 0 = a) (hy : min y (n : Int) = b) (hab : a ≥ b) :
    Calls Try.prog 51 #[.pointer (some ⟨p, 0, none⟩), .int .i64 x, .int .i64 y] w fun e w' => e = .returned (.slice none 0 0) ∧ ∃ k, w' = w.drewN k := by
  have c0 := h.cs.1
  clear h
  go_enter Try.func51, Try.ntmps51
  go_wp2_with fail
  go_quiet (fail)
  go_wp2_with fail
  go_ret
  exact ⟨rfl, _, rfl⟩

theorem grid_places (w : World) (p g c W H n : Nat) (f : Nat → CellM) (x y : Int) (a m : Nat) (h : GridAt w p g c W H n f) (hm : m = (min y (n : Int) - max x 0).toNat) (ha : 0 < m → max x 0 = (a : Int)) :
    Calls Try.prog 51 #[.pointer (some ⟨p, 0, none⟩), .int .i64 x, .int .i64 y] w (Tells w g c a m) := by
  rcases Nat.eq_zero_or_pos m with h0 | h0
  · refine (places_none w p g c W H n f x y _ _ h rfl rfl (by omega)).mono ?_
    rintro e w' ⟨rfl, k, rfl⟩
    exact ⟨⟨k, rfl⟩, .inl ⟨h0, rfl⟩⟩
  · have hx := ha h0
    refine (places_some w p g c W H n f x y a (a + m) h hx (by omega) (by omega)).mono ?_
    rintro e w' ⟨rfl, k, rfl⟩
    exact ⟨⟨k, rfl⟩, .inr ⟨h0, by rw [Nat.add_sub_cancel_left]⟩⟩

set_option maxRecDepth 100000 in
set_option maxHeartbeats 1600000 in
theorem rest_in (w : World) (p g c W H n : Nat) (f : Nat → CellM) (x y : Nat) (h : GridAt w p g c W H n f) (hx : x < W) (hy : y < H) :
    Calls Try.prog 50 #[.pointer (some ⟨p, 0, none⟩), .int .i64 x, .int .i64 y] w (Tells w g c (y * W + x) (W - x)) := by
  have h1 := Nat.mul_le_mul_right W (Nat.succ_le_of_lt hy)
  have h2 := Nat.mul_le_mul_left W h.hh.2
  have h3 := Nat.mul_le_mul_right H h.hw.2
  have hn := h.hn
  have e1 : (y + 1) * W = y * W + W := Nat.succ_mul y W
  have e2 : W * H = H * W := Nat.mul_comm W H
  have hw := h.hw
  have hh := h.hh
  have hW := Lib.hid (grid_W w p g c W H n f h)
  have hH := Lib.hid (grid_H w p g c W H n f h)
  obtain ⟨P, hP⟩ : ∃ P, P = y * W := ⟨_, rfl⟩
  have hPi : (y : Int) * (W : Int) = (P : Int) := by rw [hP]; exact (Int.natCast_mul y W).symm
  have hQi : ((y : Int) + 1) * (W : Int) = (P : Int) + (W : Int) := by rw [Int.add_mul, hPi]; omega
  have hP8 : P + W ≤ n := by rw [hP, ← e1, hn, e2]; exact h1
  have hn8 := h.n800.1
  have hw1 : IntKind.i64.wrap ((y : Int) * (W : Int)) = (P : Int) := by rw [hPi]; exact IntWalk.i64_in _ (by omega)
  have hw2 : IntKind.i64.wrap (((y : Int) + 1) * (W : Int)) = (P : Int) + (W : Int) := by rw [hQi]; exact IntWalk.i64_in _ (by omega)
  have hPL := Lib.hid (grid_places w p g c W H n f ((P : Int) + (x : Int)) ((P : Int) + (W : Int)) (P + x) (W - x) h (by omega) (fun _ => by omega))
  have t1 : ¬ ((x : Int) < 0) := by omega
  have t2 : ¬ ((x : Int) ≥ (W : Int)) := by omega
  have t3 : ¬ ((y : Int) < 0) := by omega
  have t4 : ¬ ((y : Int) ≥ (H : Int)) := by omega
  have t5 : (P : Int) ≤ 800 := by omega
  have t6 : (x : Int) ≤ 40 := by omega
  have t7 : (y : Int) ≤ 20 := by omega
  have t8 : (W : Int) ≤ 40 := by omega
  rw [← hP]
  clear h h1 h2 h3 hn e1 e2 hw hh hP hP8 hn8
  go_enter Try.func50, Try.ntmps50
  go_wp2_with (first | (refine (hW.out).mono ?_; rintro e w1 ⟨rfl, rfl⟩) | (refine (hH.out).mono ?_; rintro e w1 ⟨rfl, rfl⟩))
  refine hPL.out.mono ?_
  rintro e w2 ⟨⟨k, rfl⟩, ⟨hz, rfl⟩ | ⟨hz, rfl⟩⟩
  · exact absurd hz (by omega)
  · have HZ := Lib.hid hz
    clear hz
    go_wp2_with fail
    go_ret
    exact ⟨⟨k, rfl⟩, .inr ⟨HZ.out, rfl⟩⟩

set_option maxRecDepth 100000 in
set_option maxHeartbeats 1600000 in
theorem rest_out (w : World) (p g c W H n : Nat) (f : Nat → CellM) (x y : Int) (h : GridAt w p g c W H n f) (ho : x < 0 ∨ (¬ x < 0 ∧ x ≥ (W : Int)) ∨ (¬ x < 0 ∧ ¬ x ≥ (W : Int) ∧ y < 0) ∨ (¬ x < 0 ∧ ¬ x ≥ (W : Int) ∧ ¬ y < 0 ∧ y ≥ (H : Int))) :
    Calls Try.prog 50 #[.pointer (some ⟨p, 0, none⟩), .int .i64 x, .int .i64 y] w fun e w' => e = .returned (.slice none 0 0) ∧ w' = w := by
  have hW := Lib.hid (grid_W w p g c W H n f h)
  have hH := Lib.hid (grid_H w p g c W H n f h)
  clear h
  rcases ho with ho | ⟨h1, ho⟩ | ⟨h1, h2, ho⟩ | ⟨h1, h2, h3, ho⟩
  all_goals
    go_enter Try.func50, Try.ntmps50
    go_wp2_with (first | (refine (hW.out).mono ?_; rintro e w1 ⟨rfl, rfl⟩) | (refine (hH.out).mono ?_; rintro e w1 ⟨rfl, rfl⟩))
    go_ret
    exact ⟨rfl, rfl⟩

/-- How many cells, and from where: the cells of a row from (x, y) on. -/
def restN (W H : Nat) (x y : Int) : Nat := if 0 ≤ x ∧ x < W ∧ 0 ≤ y ∧ y < H then W - x.toNat else 0
def restA (W : Nat) (x y : Int) : Nat := y.toNat * W + x.toNat
theorem grid_rest (w : World) (p g c W H n : Nat) (f : Nat → CellM) (x y : Int) (h : GridAt w p g c W H n f) :
    Calls Try.prog 50 #[.pointer (some ⟨p, 0, none⟩), .int .i64 x, .int .i64 y] w (Tells w g c (restA W x y) (restN W H x y)) := by
  by_cases hi : 0 ≤ x ∧ x < W ∧ 0 ≤ y ∧ y < H
  · obtain ⟨X, rfl⟩ : ∃ X : Nat, x = X := ⟨x.toNat, by omega⟩
    obtain ⟨Y, rfl⟩ : ∃ Y : Nat, y = Y := ⟨y.toNat, by omega⟩
    have := rest_in w p g c W H n f X Y h (by omega) (by omega)
    unfold restN restA
    rw [if_pos hi]
    exact this
  · refine (rest_out w p g c W H n f x y h (by omega)).mono ?_
    rintro e w' ⟨rfl, rfl⟩
    unfold restN
    rw [if_neg hi]
    exact ⟨⟨0, rfl⟩, .inl ⟨rfl, rfl⟩⟩
theorem restN_le {W H n : Nat} (hn : n = W * H) (x y : Int) (h0 : 0 < restN W H x y) : restA W x y + restN W H x y ≤ n := by
  unfold restN restA at *
  split at h0
  · rename_i hi
    rw [if_pos hi]
    have h1 := Nat.mul_le_mul_right W (show y.toNat + 1 ≤ H by omega)
    have e1 : (y.toNat + 1) * W = y.toNat * W + W := Nat.succ_mul _ W
    have e2 : W * H = H * W := Nat.mul_comm W H
    omega
  · omega

/-- The cells that are told, as a slice. -/
theorem Tells.sl {w w' : World} {p g c W H n a m : Nat} {f : Nat → CellM} {e : Ending} (t : Tells w g c a m e w') (h : GridAt w p g c W H n f) (ha : 0 < m → a + m ≤ n) :
    ∃ (A : Option Addr) (c' k : Nat), e = .returned (.slice A m c') ∧ w' = w.drewN k ∧ c' ≤ 9223372036854775807 ∧ Sl w A g (a * 6) m c' (fun k => f (a + k)) := by
  obtain ⟨⟨k, rfl⟩, ⟨rfl, rfl⟩ | ⟨h0, rfl⟩⟩ := t
  · exact ⟨none, 0, k, rfl, rfl, by omega, Sl.nil _ _ _ _⟩
  · exact ⟨_, _, k, rfl, rfl, by have := h.cm; omega, h.sl a m h0 (ha h0)⟩

set_option maxRecDepth 100000 in
set_option maxHeartbeats 1600000 in
/-- Set. -/
theorem grid_setR (w : World) (p g c W H n : Nat) (f : Nat → CellM) (x y : Int) (B : Option Addr) (m mc : Nat) (l : Nat → CellM) (h : GridAt w p g c W H n f) (hl : Src w B (m * 6) (flatF l m)) (hm : m ≤ 100000) (j : Nat) (hj : j = min m (restN W H x y)) :
    Calls Try.prog 13 #[.pointer (some ⟨p, 0, none⟩), .int .i64 x, .int .i64 y, .slice B m mc] w fun e w' => e = .returned (.int .i64 j) ∧ PutC g (restA W x y * 6) j l w w' := by
  have HR := Lib.hid (grid_rest w p g c W H n f x y h)
  have hrn := restN_le h.hn x y
  go_enter Try.func13, Try.ntmps13
  go_wp2_with fail
  refine HR.out.mono ?_
  rintro e w1 ht
  obtain ⟨A, c', k, rfl, rfl, hc', hs⟩ := ht.sl h hrn
  have hD : SlC (w.drewN k) A g (restA W x y * 6) j (fun k => f (restA W x y + k)) := fun hp => by
    obtain ⟨a1, a2, a3⟩ := hs.slc (by omega)
    have := a2.sub 0 j (by omega)
    exact ⟨a1, ⟨by simpa using this.val, by simpa using this.can⟩, a3⟩
  have hS : Src (w.drewN k) B (j * 6) (flatF l j) := (src_pre hl (by omega)).keep ((Keep.refl _ w).drewN k)
  have hmn : Nat.min m (restN W H x y) = j := by rw [hj]
  have HD := Lib.hid hD
  have HS := Lib.hid hS
  have HM := Lib.hid hmn
  clear ht hs hD hS hmn hj hrn hl h
  go_wp2_with (with_reducible refine wpList_copy_putR rfl _ _ _ _ rfl 42 Try.underlying43 cell_info _ _ _ _ _ _ rfl rfl g (restA W x y * 6) j _ _ HM.out HD.out HS.out ?_)
  intro w2 hp2
  have HP := Lib.hid hp2
  clear hp2
  go_wp2_with fail
  go_ret
  exact ⟨rfl, HP.out.of_drewN⟩


/-- Set of cells that lie somewhere. -/
theorem grid_set (w : World) (p g c W H n : Nat) (f : Nat → CellM) (x y : Int) (B : Option Addr) (m mc : Nat) (l : Nat → CellM) (g2 o2 : Nat) (h : GridAt w p g c W H n f) (hl : SlC w B g2 o2 m l) (hm : m ≤ 100000) (j : Nat) (hj : j = min m (restN W H x y)) :
    Calls Try.prog 13 #[.pointer (some ⟨p, 0, none⟩), .int .i64 x, .int .i64 y, .slice B m mc] w fun e w' => e = .returned (.int .i64 j) ∧ PutC g (restA W x y * 6) j l w w' :=
  grid_setR w p g c W H n f x y B m mc l h hl.src hm j hj

end Go.Proofs.Ytbjdcbnmpmcdiaa
