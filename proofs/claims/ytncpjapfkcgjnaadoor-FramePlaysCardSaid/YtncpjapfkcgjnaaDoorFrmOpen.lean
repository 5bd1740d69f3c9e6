/- frame.opened. Own work. -/
import Derived.Test.YtncpjapfkcgjnaaDoorFrmLow
import Derived.Deep.RegionLaw
import Derived.Deep.RegionHeld3
namespace Go.Proofs.YtncpjapfkcgjnaaDoor
set_option linter.unusedVariables false
set_option linter.unusedSimpArgs false
open Go.RowKit

/-- What is left of a text behind k bytes. -/
def restB (s : ByteArray) (k : Nat) : ByteArray := ⟨(s.data.toList.drop k).toArray⟩

theorem restB_zero (s : ByteArray) : restB s 0 = s := mk_data s

theorem restB_size (s : ByteArray) (k : Nat) : (restB s k).size = s.size - k := by
  unfold restB
  rw [size_mk, List.length_drop, ← Lib.size_eq]

theorem restB_next (s : ByteArray) (k : Nat) : (restB s k).extract 1 (restB s k).size = restB s (k + 1) := by
  unfold restB
  rw [extract_mk, size_mk, List.take_of_length_le (Nat.le_refl _), List.drop_drop]

theorem restB_head (s : ByteArray) (k : Nat) (h : k < s.size) : (((restB s k).extract 0 1).data.toList.headD 0) = s[k] := by
  unfold restB
  rw [extract_mk, drop_at s k h]
  rfl

/-- A byte where there is one. -/
theorem inbyte_more (p : Nat) (s : ByteArray) (k : Nat) (w : World) (h : InAt w p (restB s k) 0) (hs : s.size ≤ 281474976710656) (hk : k < s.size) :
    Calls Tryd.prog 42 #[.pointer (some ⟨p, 0, none⟩)] w fun r w' => r = .returned (.int .i64 (s[k].toNat : Int)) ∧ InAt w' p (restB s (k + 1)) 0 ∧ Keep (· = p) w w' := by
  have hz := restB_size s k
  have e : rawS (restB s k) 0 1 = ((restB s k).extract 0 1, (restB s k).extract 1 (restB s k).size, 0) := by
    unfold rawS
    rw [if_pos rfl, if_neg (by omega), if_neg (by omega)]
    rfl
  have := inbyte_any p (restB s k) 0 w h (by omega)
  unfold byteS at this
  rw [e, restB_next, restB_head s k hk] at this
  exact this

theorem inbyte_none (p : Nat) (s : ByteArray) (w : World) (e : Int) (h : InAt w p s e) (he : e = 0 ∧ s.size = 0 ∨ e = 2 ∧ s = .empty) :
    Calls Tryd.prog 42 #[.pointer (some ⟨p, 0, none⟩)] w fun r w' => r = .returned (.int .i64 0) ∧ InAt w' p .empty 2 ∧ Keep (· = p) w w' := by
  have hs : s.size ≤ 281474976710656 := by rcases he with ⟨_, h⟩ | ⟨_, h⟩; omega; subst h; decide
  have e1 : rawS s e 1 = (.empty, .empty, 2) := by
    unfold rawS
    rcases he with ⟨rfl, h1⟩ | ⟨rfl, rfl⟩
    · rw [if_pos rfl, if_neg (by omega), if_pos (by omega)]
    · rw [if_neg (by omega)]
  have := inbyte_any p s e w h hs
  unfold byteS at this
  rw [e1] at this
  exact this

theorem ofInt_wrap64 (a : Nat) : (BitVec.ofInt 64 (wrap64 (a : Int))).toNat = a % 2 ^ 64 := by
  rw [BitVec.toNat_ofInt]
  unfold wrap64
  omega

theorem i64_or_wrap (a b : Nat) : bits .or .i64 (wrap64 (a : Int)) (wrap64 (b : Int)) = wrap64 ((a ||| b : Nat) : Int) := by
  show IntKind.i64.wrap ((BitVec.ofInt 64 (wrap64 (a : Int)) ||| BitVec.ofInt 64 (wrap64 (b : Int))).toNat : Int) = _
  rw [BitVec.toNat_or, ofInt_wrap64, ofInt_wrap64, ← Nat.or_mod_two_pow, IntKind.wrap_i64]
  unfold wrap64
  omega

/-- The step of the number. -/
theorem seq_step (l : List UInt8) (b : UInt8) (k : Nat) (hk : k < 8) (hl : l.length = k) : bits .or .i64 (wrap64 (numL l : Nat)) (wrap64 ((b.toNat : Int) * 2 ^ (k * 8))) = wrap64 (numL (l ++ [b]) : Nat) := by
  have e : ((b.toNat : Int) * 2 ^ (k * 8)) = ((b.toNat * 256 ^ k : Nat) : Int) := by
    rw [show (256 : Nat) = 2 ^ 8 from rfl, ← Nat.pow_mul, Nat.mul_comm 8 k]; simp
  have hlt := numL_lt l
  rw [hl, show (256 : Nat) = 2 ^ 8 from rfl, ← Nat.pow_mul] at hlt
  rw [e, i64_or_wrap, numL_snoc, hl]
  congr 2
  rw [show (256 : Nat) = 2 ^ 8 from rfl, ← Nat.pow_mul, Nat.or_comm, Nat.mul_comm, ← Nat.two_pow_add_eq_or_of_lt hlt, Nat.add_comm]

theorem seq_next (s : ByteArray) (k : Nat) (hk : k < 8) (hs : k + 1 < s.size) {x : Int} (hx : x = wrap64 (numL ((s.data.toList.drop 1).take k) : Nat)) :
    bits .or .i64 x (IntKind.i64.wrap ((s[k + 1].toNat : Int) * 2 ^ (k * 8))) = wrap64 (numL ((s.data.toList.drop 1).take (k + 1)) : Nat) := by
  have hg : (s.data.toList.drop 1)[k]? = some s[k + 1] := by
    rw [List.getElem?_drop, Nat.add_comm 1 k, List.getElem?_eq_getElem (by rw [← Lib.size_eq]; omega)]; rfl
  have h1 := seq_step ((s.data.toList.drop 1).take k) s[k + 1] k hk (by rw [List.length_take, List.length_drop, ← Lib.size_eq]; omega)
  have e := take_next hg
  subst hx
  generalize s[k + 1] = b at *
  rw [e, ← h1]
  generalize (b.toNat : Int) * 2 ^ (k * 8) = z
  rw [IntKind.wrap_i64, show wrap64 z = (z + 9223372036854775808) % 18446744073709551616 - 9223372036854775808 from by unfold wrap64; omega]

/-- All that is left. -/
theorem raw_all (s : ByteArray) : rawS s 0 (s.size : Int) = (s, .empty, 0) := by
  unfold rawS
  rw [if_pos rfl, if_neg (by omega), if_neg (by omega), Int.toNat_natCast]
  congr 1
  · apply ByteArray.ext; simp
  · congr 1
    apply ByteArray.ext; simp

/-- While a text is read. -/
structure Opening (w0 : World) (q : Nat) (cur : ByteArray) (e a x : Int) (w : World) : Prop where
  inp : InAt w (w0.heap.size + 1) cur e
  var : w.heap[q]? = some (.cells #[.int .i64 a, .int .i64 x, .string ⟨#[]⟩] 28 (0, 0))
  res : w.heap[w0.heap.size]? = some (.cells #[.int .i64 0, .int .i64 0, .string ⟨#[]⟩] 28 (0, 0))
  base : Below w0.heap.size w0 w
  lq : w0.heap.size + 1 < q

namespace Opening
variable {w0 w w' : World} {q : Nat} {cur : ByteArray} {e a x : Int}
theorem ne (h : Opening w0 q cur e a x w) : q ≠ w0.heap.size + 1 := by have := h.lq; omega
theorem c0 (h : Opening w0 q cur e a x w) : w.cell? ⟨q, 0, none⟩ = some (.int .i64 a) := cell_at h.var 0
theorem c1 (h : Opening w0 q cur e a x w) : w.cell? ⟨q, 1, none⟩ = some (.int .i64 x) := cell_at h.var 1
theorem c2 (h : Opening w0 q cur e a x w) : w.cell? ⟨q, 2, none⟩ = some (.string ⟨#[]⟩) := cell_at h.var 2
theorem f1 (h : Opening w0 q cur e a x w) : w.frozen? ⟨q, 1, none⟩ = false := free_at h.var 1
theorem f2 (h : Opening w0 q cur e a x w) : w.frozen? ⟨q, 2, none⟩ = false := free_at h.var 2
theorem drew (h : Opening w0 q cur e a x w) : Opening w0 q cur e a x w.drew := ⟨h.inp, h.var, h.res, h.base.drew, h.lq⟩
theorem drewN (h : Opening w0 q cur e a x w) (k : Nat) : Opening w0 q cur e a x (w.drewN k) := ⟨h.inp, h.var, h.res, below_drewN h.base k, h.lq⟩
theorem read (h : Opening w0 q cur e a x w) {cur' : ByteArray} {e' : Int} (h1 : InAt w' (w0.heap.size + 1) cur' e') (k : Keep (· = w0.heap.size + 1) w w') : Opening w0 q cur' e' a x w' :=
  ⟨h1, k.heap h.var h.ne, k.heap h.res (by omega), h.base.trans (k.below h.base.size (fun i hi hs => by omega)), h.lq⟩
theorem set1 (h : Opening w0 q cur e a x w) (y : Int) : Opening w0 q cur e a y (w.setCell ⟨q, 1, none⟩ (.int .i64 y)) :=
  ⟨heap_far h.inp (fun e => h.ne e.symm) _, heap_set h.var 1 _, heap_far h.res (by have := h.lq; simp; omega) _, h.base.setCell (by have := h.lq; simp; omega) _, h.lq⟩
end Opening

/-- A text that was read. -/
structure Opened (w0 : World) (q : Nat) (e a x : Int) (t : ByteArray) (w : World) : Prop where
  inp : InAt w (w0.heap.size + 1) .empty e
  var : w.heap[q]? = some (.cells #[.int .i64 a, .int .i64 x, .string t] 28 (0, 0))
  res : w.heap[w0.heap.size]? = some (.cells #[.int .i64 0, .int .i64 0, .string ⟨#[]⟩] 28 (0, 0))
  base : Below w0.heap.size w0 w
  lq : w0.heap.size + 1 < q

theorem Opening.set2 {w0 w : World} {q : Nat} {e a x : Int} (h : Opening w0 q .empty e a x w) (t : ByteArray) : Opened w0 q e a x t (w.setCell ⟨q, 2, none⟩ (.string t)) :=
  ⟨heap_far h.inp (fun e => h.ne e.symm) _, heap_set h.var 2 _, heap_far h.res (by have := h.lq; simp; omega) _, h.base.setCell (by have := h.lq; simp; omega) _, h.lq⟩

namespace Opened
variable {w0 w w' : World} {q : Nat} {e a x : Int} {t : ByteArray}
theorem drew (h : Opened w0 q e a x t w) : Opened w0 q e a x t w.drew := ⟨h.inp, h.var, h.res, h.base.drew, h.lq⟩
theorem cells (h : Opened w0 q e a x t w) : w.cell? ⟨q, 0, none⟩ = some (.int .i64 a) ∧ w.cell? ⟨q, 1, none⟩ = some (.int .i64 x) ∧ w.cell? ⟨q, 2, none⟩ = some (.string t) := ⟨cell_at h.var 0, cell_at h.var 1, cell_at h.var 2⟩
theorem r0 (h : Opened w0 q e a x t w) : w.cell? ⟨w0.heap.size, 0, none⟩ = some (.int .i64 0) := cell_at h.res 0
theorem r1 (h : Opened w0 q e a x t w) : w.cell? ⟨w0.heap.size, 1, none⟩ = some (.int .i64 0) := cell_at h.res 1
theorem r2 (h : Opened w0 q e a x t w) : w.cell? ⟨w0.heap.size, 2, none⟩ = some (.string ⟨#[]⟩) := cell_at h.res 2
theorem g0 (h : Opened w0 q e a x t w) : w.frozen? ⟨w0.heap.size, 0, none⟩ = false := free_at h.res 0
theorem g1 (h : Opened w0 q e a x t w) : w.frozen? ⟨w0.heap.size, 1, none⟩ = false := free_at h.res 1
theorem g2 (h : Opened w0 q e a x t w) : w.frozen? ⟨w0.heap.size, 2, none⟩ = false := free_at h.res 2
end Opened

theorem three_far {w : World} {q r : Nat} (h : q ≠ r) {a b c u v x : Value} (hs : w.cell? ⟨q, 0, none⟩ = some a ∧ w.cell? ⟨q, 1, none⟩ = some b ∧ w.cell? ⟨q, 2, none⟩ = some c) :
    (((w.setCell ⟨r, 0, none⟩ u).setCell ⟨r, 1, none⟩ v).setCell ⟨r, 2, none⟩ x).cell? ⟨q, 0, none⟩ = some a ∧ (((w.setCell ⟨r, 0, none⟩ u).setCell ⟨r, 1, none⟩ v).setCell ⟨r, 2, none⟩ x).cell? ⟨q, 1, none⟩ = some b ∧ (((w.setCell ⟨r, 0, none⟩ u).setCell ⟨r, 1, none⟩ v).setCell ⟨r, 2, none⟩ x).cell? ⟨q, 2, none⟩ = some c := by
  have k := ((keep_set w r 0 u).own 1 v).own 2 x
  exact ⟨(k.cell (p := ⟨q, 0, none⟩) (World.block_lt_of_cell? w _ hs.1) h).trans hs.1, (k.cell (p := ⟨q, 1, none⟩) (World.block_lt_of_cell? w _ hs.2.1) h).trans hs.2.1, (k.cell (p := ⟨q, 2, none⟩) (World.block_lt_of_cell? w _ hs.2.2) h).trans hs.2.2⟩

theorem opened_end {w0 w : World} {q : Nat} {e a x : Int} {t : ByteArray} (h : Opened w0 q e a x t w) :
    Calls Tryd.prog 45 #[.pointer (some ⟨w0.heap.size + 1, 0, none⟩)] w fun r w' => r = .returned (.int .i64 e) ∧ Opened w0 q e a x t w' :=
  (inend_any _ .empty e w h.inp (by simp)).mono fun r w' ⟨h1, h2, k⟩ =>
    ⟨h1, h2, k.heap h.var (by have := h.lq; omega), k.heap h.res (by omega), h.base.trans (k.below h.base.size (fun i hi hs => by omega)), h.lq⟩

theorem opening_more {w0 w : World} {q : Nat} {s : ByteArray} {k : Nat} {a x : Int} (h : Opening w0 q (restB s k) 0 a x w) (hs : s.size ≤ 281474976710656) (hk : k < s.size) :
    Calls Tryd.prog 42 #[.pointer (some ⟨w0.heap.size + 1, 0, none⟩)] w fun r w' => r = .returned (.int .i64 (s[k].toNat : Int)) ∧ Opening w0 q (restB s (k + 1)) 0 a x w' :=
  (inbyte_more _ s k w h.inp hs hk).mono fun r w' ⟨h1, h2, h3⟩ => ⟨h1, h.read h2 h3⟩

set_option maxRecDepth 100000 in
set_option maxHeartbeats 1600000 in
theorem opened_ok (s : ByteArray) (w : World) (hs : s.size ≤ 100000) (h9 : 9 ≤ s.size) :
    Calls Tryd.prog 27 #[.string s] w fun r w' => r = .returned (.tuple #[.agg #[.int .i64 ((s.data.toList.headD 0).toNat : Int), .int .i64 (wrap64 (numL ((s.data.toList.drop 1).take 8) : Nat)), .string (restB s 9)], .int .i64 0]) ∧ Below w.heap.size w w' := by
  go_enter Tryd.func27, Tryd.ntmps27
  go_wp2_with fail
  refine (on_any s _).mono ?_
  rintro r w1 ⟨rfl, h1, hb1⟩
  have hz1 : (w.alloc (.cells #[.int .i64 0, .int .i64 0, .string ⟨#[]⟩] 28)).heap.size = w.heap.size + 1 := by simp
  rw [hz1] at h1 hb1 ⊢
  have H1 : Hid (InAt w1 (w.heap.size + 1) (restB s 0) 0) := Lib.hid (by rw [restB_zero]; exact h1)
  have HR1 : Hid (w1.heap[w.heap.size]? = some (.cells #[.int .i64 0, .int .i64 0, .string ⟨#[]⟩] 28 (0, 0))) := Lib.hid ((hb1.block _ (by omega)).trans (heap_alloc_new w _))
  have HB1 := Lib.hid (((Below.refl w.heap.size w).alloc (Nat.le_refl _) _).trans (hb1.mono (by omega)))
  have HP := Lib.hid h1.lt
  clear h1 hb1 hz1
  go_wp2_with fail
  refine (inbyte_more _ s 0 _ H1.out (by omega) (by omega)).mono ?_
  rintro r w2 ⟨rfl, h2, hk2⟩
  have H2 := Lib.hid h2
  have HR2 := Lib.hid (hk2.heap HR1.out (by omega))
  have HB2 := Lib.hid (HB1.out.trans (hk2.below HB1.out.size (fun k hk e => by omega)))
  have hp2 : w.heap.size + 1 < w2.heap.size := h2.lt
  have H3 : Hid (Opening w w2.heap.size (restB s 1) 0 (s[0].toNat : Int) 0 (w2.alloc (.cells #[.int .i64 (s[0].toNat : Int), .int .i64 0, .string ⟨#[]⟩] 28))) :=
    Lib.hid ⟨heap_alloc h2 _, heap_alloc_new w2 _, heap_alloc HR2.out _, HB2.out.alloc HB2.out.size _, hp2⟩
  clear h2 hk2 H1 HR1 HB1 H2 HR2 HB2
  go_wp2_with fail
  obtain ⟨q, hq⟩ : ∃ q, q = w2.heap.size := ⟨_, rfl⟩
  rw [← hq] at H3 hp2 ⊢
  clear hq
  go_loopw [12] (fun i wr => ∃ (k : Nat) (x : Int), i = .int .i64 k ∧ k ≤ 8 ∧ Hid (x = wrap64 (numL ((s.data.toList.drop 1).take k) : Nat)) ∧ Hid (Opening w q (restB s (k + 1)) 0 (s[0].toNat : Int) x wr)) (fun i _ => 8 - (intOf i).toNat)
  case atStart => exact ⟨0, 0, rfl, by omega, Lib.hid (by simp [numL, wrap64]), H3⟩
  case round =>
    obtain ⟨k, x, rfl, hk, HX, HO⟩ := hrel
    clear H3
    by_cases hlt : k < 8
    · have c1 := HO.out.c1
      have f1 := HO.out.f1
      have hw1 : IntKind.i64.wrap ((k : Int) * 8) = (k : Int) * 8 := IntWalk.i64_in _ (by omega)
      have hw2 : 0 ≤ (k : Int) * 8 := by omega
      have hw3 : ((k : Int) * 8).toNat = k * 8 := by omega
      go_wp2_with fail
      go_region_law (first | (go_simp; go_at_call 42; (with_reducible refine (opening_more (w0 := w) (q := q) (s := s) (k := k + 1) (a := (s[0].toNat : Int)) (x := x) ?_ (by omega) (by omega)).mono ?_); (first | exact HO.out | exact HO.out.drew); rintro r w3 ⟨rfl, h3⟩; have H4 := Lib.hid h3; have d1 := h3.c1; have g1 := h3.f1; clear h3) | fail)
      all_goals
        have HX2 : Hid (bits .or .i64 x (IntKind.i64.wrap ((s[k + 1].toNat : Int) * 2 ^ (k * 8))) = wrap64 (numL ((s.data.toList.drop 1).take (k + 1)) : Nat)) := Lib.hid (seq_next s k hlt (by omega) HX.out)
        have H5 := Lib.hid (H4.out.set1 (bits .or .i64 x (IntKind.i64.wrap ((s[k + 1].toNat : Int) * 2 ^ (k * 8)))))
        obtain ⟨y, hy⟩ : ∃ y, y = bits .or .i64 x (IntKind.i64.wrap ((s[k + 1].toNat : Int) * 2 ^ (k * 8))) := ⟨_, rfl⟩
        rw [← hy] at HX2 H5 ⊢
        clear hy H4 d1 g1 c1 f1 hw1 hw2 hw3
        go_wp2_with fail
        go_roundw
        case rel => exact ⟨k + 1, _, by go_num, by omega, HX2, (by first | exact H5 | exact Lib.hid H5.out.drew)⟩
        case measure => simp [intOf]; omega
    · obtain rfl : k = 8 := by omega
      have hz9 := restB_size s 9
      have HZ9 := Lib.hid hz9
      have HT := Lib.hid (raw_all (restB s 9))
      clear hz9 hlt
      go_wp2_with fail
      refine (inleft_any _ (restB s 9) 0 _ HO.out.inp (by rw [HZ9.out]; omega)).mono ?_
      rintro r w4 ⟨rfl, rfl⟩
      go_wp2_with fail
      refine (inraw_any _ (restB s 9) 0 _ _ HO.out.inp (by rw [HZ9.out]; omega)).mono ?_
      rintro r w5 ⟨rfl, h5, hk5⟩
      rw [HT.out] at h5 ⊢
      have H5 := Lib.hid (HO.out.read h5 hk5)
      have f2 := H5.out.f2
      have d2 := H5.out.c2
      clear h5 hk5
      go_wp2_with fail
      have H6 := Lib.hid (H5.out.set2 (restB s 9))
      clear H5 f2 d2 HO
      have HN := H6.out.lq
      have s0 := H6.out.cells
      go_region_held3 (fun w' => w'.cell? ⟨q, 0, none⟩ = some (.int .i64 (s[0].toNat : Int)) ∧ w'.cell? ⟨q, 1, none⟩ = some (.int .i64 x) ∧ w'.cell? ⟨q, 2, none⟩ = some (.string (restB s 9))) (first | exact s1 | exact s0 | exact three_far (by omega) s1 | go_keep) (first
        | (go_at_call 45; (with_reducible refine (opened_end (w0 := w) (q := q) (e := 0) (a := (s[0].toNat : Int)) (x := x) (t := restB s 9) ?_).mono ?_); (first | exact H6.out | exact H6.out.drew); rintro r w7 ⟨rfl, h7⟩; have H7 := Lib.hid h7; have s1 := h7.cells; have r1 := h7.r0; have r2 := h7.r1; have r3 := h7.r2; have g1 := h7.g0; have g2 := h7.g1; have g3 := h7.g2; clear h7)
        | fail)
      have HB7 := Lib.hid H7.out.base
      have hxe := HX.out
      have HXE := Lib.hid hxe
      clear hxe HX H6 H7
      go_wp2_with fail
      refine bodyPost_ret (v := .tuple #[.agg #[.int .i64 (s[0].toNat : Int), .int .i64 x, .string (restB s 9)], .int .i64 0]) (by simp [results, Tryd.results27, go_sem, r1, r2, r3]) rfl ⟨?_, ?_⟩
      · rw [HXE.out, head_at s (by omega)]
      · exact ((HB7.out.setCell (Nat.le_refl _) _).setCell (Nat.le_refl _) _).setCell (Nat.le_refl _) _

/-- A text that is too short: what is left of it behind k bytes, and the error. -/
def Shorts (s : ByteArray) (k : Nat) (cur : ByteArray) (e : Int) : Prop := (e = 0 ∧ cur.size + k = s.size) ∨ (e = 2 ∧ cur = .empty ∧ s.size < k)

theorem shorts_byte {p : Nat} {s cur : ByteArray} {k : Nat} {e : Int} {w : World} (h : InAt w p cur e) (hs : Shorts s k cur e) (hl : s.size ≤ 100000) :
    Calls Tryd.prog 42 #[.pointer (some ⟨p, 0, none⟩)] w fun r w' => ∃ b cur' e', r = .returned (.int .i64 b) ∧ InAt w' p cur' e' ∧ Shorts s (k + 1) cur' e' ∧ Keep (· = p) w w' := by
  by_cases h0 : e = 0 ∧ cur.size ≠ 0
  · obtain ⟨rfl, h0⟩ := h0
    have hc : cur.size + k = s.size := by
      rcases hs with ⟨_, h⟩ | ⟨h, _⟩
      · exact h
      · omega
    have hcs : restB cur 0 = cur := restB_zero cur
    refine (inbyte_more p cur 0 w (by rw [hcs]; exact h) (by omega) (by omega)).mono ?_
    rintro r w' ⟨rfl, h2, h3⟩
    exact ⟨_, _, _, rfl, h2, .inl ⟨rfl, by rw [restB_size]; omega⟩, h3⟩
  · refine (inbyte_none p cur w e h ?_).mono ?_
    · rcases hs with ⟨h1, h2⟩ | ⟨h1, h2, _⟩
      · exact .inl ⟨h1, Classical.byContradiction fun q => h0 ⟨h1, q⟩⟩
      · exact .inr ⟨h1, h2⟩
    · rintro r w' ⟨rfl, h2, h3⟩
      refine ⟨_, _, _, rfl, h2, .inr ⟨rfl, rfl, ?_⟩, h3⟩
      rcases hs with ⟨h1, h4⟩ | ⟨h1, h4, h5⟩
      · have : cur.size = 0 := Classical.byContradiction fun q => h0 ⟨h1, q⟩
        omega
      · omega

theorem opening_short {w0 w : World} {q k : Nat} {s cur : ByteArray} {e a x : Int} (h : Opening w0 q cur e a x w) (hs : Shorts s k cur e) (hl : s.size ≤ 100000) :
    Calls Tryd.prog 42 #[.pointer (some ⟨w0.heap.size + 1, 0, none⟩)] w fun r w' => ∃ b cur' e', r = .returned (.int .i64 b) ∧ Opening w0 q cur' e' a x w' ∧ Shorts s (k + 1) cur' e' :=
  (shorts_byte h.inp hs hl).mono fun r w' ⟨b, cur', e', h1, h2, h3, h4⟩ => ⟨b, cur', e', h1, h.read h2 h4, h3⟩

theorem raw_short : rawS .empty 2 0 = (.empty, .empty, 2) := by
  unfold rawS
  rw [if_neg (by omega)]

set_option maxRecDepth 100000 in
set_option maxHeartbeats 1600000 in
theorem opened_short (s : ByteArray) (w : World) (hs : s.size ≤ 100000) (h9 : s.size < 9) :
    Calls Tryd.prog 27 #[.string s] w fun r w' => ∃ a x t, r = .returned (.tuple #[.agg #[.int .i64 a, .int .i64 x, .string t], .int .i64 2]) ∧ Below w.heap.size w w' := by
  go_enter Tryd.func27, Tryd.ntmps27
  go_wp2_with fail
  refine (on_any s _).mono ?_
  rintro r w1 ⟨rfl, h1, hb1⟩
  have hz1 : (w.alloc (.cells #[.int .i64 0, .int .i64 0, .string ⟨#[]⟩] 28)).heap.size = w.heap.size + 1 := by simp
  rw [hz1] at h1 hb1 ⊢
  have H1 := Lib.hid h1
  have HR1 : Hid (w1.heap[w.heap.size]? = some (.cells #[.int .i64 0, .int .i64 0, .string ⟨#[]⟩] 28 (0, 0))) := Lib.hid ((hb1.block _ (by omega)).trans (heap_alloc_new w _))
  have HB1 := Lib.hid (((Below.refl w.heap.size w).alloc (Nat.le_refl _) _).trans (hb1.mono (by omega)))
  have HP := Lib.hid h1.lt
  clear h1 hb1 hz1
  go_wp2_with fail
  refine (shorts_byte H1.out (s := s) (k := 0) (.inl ⟨rfl, rfl⟩) (by omega)).mono ?_
  rintro r w2 ⟨b0, cur0, e0, rfl, h2, hsh, hk2⟩
  have HSH := Lib.hid hsh
  clear hsh
  have H2 := Lib.hid h2
  have HR2 := Lib.hid (hk2.heap HR1.out (by omega))
  have HB2 := Lib.hid (HB1.out.trans (hk2.below HB1.out.size (fun k hk e => by omega)))
  have hp2 : w.heap.size + 1 < w2.heap.size := h2.lt
  have H3 : Hid (Opening w w2.heap.size cur0 e0 b0 0 (w2.alloc (.cells #[.int .i64 b0, .int .i64 0, .string ⟨#[]⟩] 28))) :=
    Lib.hid ⟨heap_alloc h2 _, heap_alloc_new w2 _, heap_alloc HR2.out _, HB2.out.alloc HB2.out.size _, hp2⟩
  clear h2 hk2 H1 HR1 HB1 H2 HR2 HB2
  go_wp2_with fail
  obtain ⟨q, hq⟩ : ∃ q, q = w2.heap.size := ⟨_, rfl⟩
  rw [← hq] at H3 hp2 ⊢
  clear hq
  go_loopw [12] (fun i wr => ∃ (k : Nat) (cur : ByteArray) (e x : Int), i = .int .i64 k ∧ k ≤ 8 ∧ Hid (Shorts s (k + 1) cur e) ∧ Hid (Opening w q cur e b0 x wr)) (fun i _ => 8 - (intOf i).toNat)
  case atStart => exact ⟨0, cur0, e0, 0, rfl, by omega, HSH, H3⟩
  case round =>
    obtain ⟨k, cur, e, x, rfl, hk, HX, HO⟩ := hrel
    clear H3 HSH
    by_cases hlt : k < 8
    · have c1 := HO.out.c1
      have f1 := HO.out.f1
      have hw1 : IntKind.i64.wrap ((k : Int) * 8) = (k : Int) * 8 := IntWalk.i64_in _ (by omega)
      have hw2 : 0 ≤ (k : Int) * 8 := by omega
      have hw3 : ((k : Int) * 8).toNat = k * 8 := by omega
      go_wp2_with fail
      go_region_law (first | (go_simp; go_at_call 42; (with_reducible refine (opening_short (w0 := w) (q := q) (s := s) (k := k + 1) (cur := cur) (e := e) (a := b0) (x := x) ?_ HX.out hs).mono ?_); (first | exact HO.out | exact HO.out.drew); rintro r w3 ⟨b, cur', e', rfl, h3, hsh⟩; have H4 := Lib.hid h3; have HSH := Lib.hid hsh; have d1 := h3.c1; have g1 := h3.f1; clear h3 hsh) | fail)
      all_goals
        have H5 := Lib.hid (H4.out.set1 (bits .or .i64 x (IntKind.i64.wrap (b * 2 ^ (k * 8)))))
        obtain ⟨y, hy⟩ : ∃ y, y = bits .or .i64 x (IntKind.i64.wrap (b * 2 ^ (k * 8))) := ⟨_, rfl⟩
        rw [← hy] at H5 ⊢
        clear hy H4 d1 g1 c1 f1 hw1 hw2 hw3
        go_wp2_with fail
        go_roundw
        case rel => exact ⟨k + 1, cur', e', _, by go_num, by omega, HSH, (by first | exact H5 | exact Lib.hid H5.out.drew)⟩
        case measure => simp [intOf]; omega
    · obtain rfl : k = 8 := by omega
      obtain ⟨rfl, rfl, _⟩ : e = 2 ∧ cur = .empty ∧ s.size < 9 := by
        rcases HX.out with ⟨_, h⟩ | h
        · omega
        · exact h
      have HT := Lib.hid raw_short
      clear hlt HX
      go_wp2_with fail
      refine (inleft_any _ .empty 2 _ HO.out.inp (by simp)).mono ?_
      rintro r w4 ⟨rfl, rfl⟩
      go_wp2_with fail
      refine (inraw_any _ .empty 2 _ _ HO.out.inp (by simp)).mono ?_
      rintro r w5 ⟨rfl, h5, hk5⟩
      rw [HT.out] at h5 ⊢
      have H5 := Lib.hid (HO.out.read h5 hk5)
      have f2 := H5.out.f2
      have d2 := H5.out.c2
      clear h5 hk5
      go_wp2_with fail
      have H6 := Lib.hid (H5.out.set2 (.empty))
      clear H5 f2 d2 HO
      have HN := H6.out.lq
      have s0 := H6.out.cells
      go_region_held3 (fun w' => w'.cell? ⟨q, 0, none⟩ = some (.int .i64 b0) ∧ w'.cell? ⟨q, 1, none⟩ = some (.int .i64 x) ∧ w'.cell? ⟨q, 2, none⟩ = some (.string (.empty))) (first | exact s1 | exact s0 | exact three_far (by omega) s1 | go_keep) (first
        | (go_at_call 45; (with_reducible refine (opened_end (w0 := w) (q := q) (e := 2) (a := b0) (x := x) (t := .empty) ?_).mono ?_); (first | exact H6.out | exact H6.out.drew); rintro r w7 ⟨rfl, h7⟩; have H7 := Lib.hid h7; have s1 := h7.cells; have r1 := h7.r0; have r2 := h7.r1; have r3 := h7.r2; have g1 := h7.g0; have g2 := h7.g1; have g3 := h7.g2; clear h7)
        | fail)
      have HB7 := Lib.hid H7.out.base
      clear H6 H7
      go_wp2_with fail
      refine bodyPost_ret (v := .tuple #[.agg #[.int .i64 b0, .int .i64 x, .string .empty], .int .i64 2]) (by simp [results, Tryd.results27, go_sem, r1, r2, r3]) rfl ⟨_, _, _, rfl, ?_⟩
      exact ((HB7.out.setCell (Nat.le_refl _) _).setCell (Nat.le_refl _) _).setCell (Nat.le_refl _) _

end Go.Proofs.YtncpjapfkcgjnaaDoor
