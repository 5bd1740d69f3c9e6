/- frame.Lay. Own work. -/
import Derived.Test.YtncpjapfkcgjnaaDoorFrmLow
import Derived.Deep.RegionHeld3
namespace Go.Proofs.YtncpjapfkcgjnaaDoor
set_option linter.unusedVariables false
set_option linter.unusedSimpArgs false
open Go.RowKit

theorem fault_is (way seq : Int) (body : ByteArray) (e : Int) (w : World) (hs : -9223372036854775808 ≤ seq ∧ seq ≤ 9223372036854775807) (hb : body.size ≤ maxLen) (he : faultI way seq body.size = e) :
    Calls Tryd.prog 20 #[.agg #[.int .i64 way, .int .i64 seq, .string body]] w fun r w' => r = .returned (.int .i64 e) ∧ Below w.heap.size w w' := by
  subst he; exact fault_any way seq body w hs hb

theorem slice_alloc {w : World} {B : Option Addr} {vs : List Value} {S : Nat → Prop} (h : SliceAt w B vs S) (o : Obj) : SliceAt (w.alloc o) B vs S := fun h0 => by
  obtain ⟨b, off, e, hb, hS, hc⟩ := h h0
  exact ⟨b, off, e, by simp; omega, hS, fun i v hv => ((Keep.alloc (Keep.refl (fun _ => False) w) o).cell (p := ⟨b, off + i, none⟩) hb (fun x => x)).trans (hc i v hv)⟩

theorem out_new_at {w : World} {p : Nat} (hp : p = w.heap.size) : OutAt (w.alloc (.cells #[.slice none 0 0, .int .i64 0] 61)) p none 0 [] 0 := by
  subst hp; exact OutAt.new w

/-- Three cells of a value that was boxed. -/
theorem box_three {w w1 : World} {u v x : Value} {T : TypeId} (h : Below (w.alloc (.cells #[u, v, x] T)).heap.size (w.alloc (.cells #[u, v, x] T)) w1) :
    w1.cell? ⟨w.heap.size, 0, none⟩ = some u ∧ w1.cell? ⟨w.heap.size, 1, none⟩ = some v ∧ w1.cell? ⟨w.heap.size, 2, none⟩ = some x := by
  have h0 := heap_alloc_new w (.cells #[u, v, x] T)
  have h1 : w.heap.size < (w.alloc (.cells #[u, v, x] T)).heap.size := by simp
  exact ⟨(h.cell (p := ⟨_, 0, none⟩) h1).trans (cell_at h0 0), (h.cell (p := ⟨_, 1, none⟩) h1).trans (cell_at h0 1), (h.cell (p := ⟨_, 2, none⟩) h1).trans (cell_at h0 2)⟩

/-- A writer that lays a datagram's head. -/
structure Laying (w0 : World) (p : Nat) (A : Option Addr) (c : Nat) (l : List UInt8) (w : World) : Prop where
  out : OutAt w p A c l 0
  base : Below w0.heap.size w0 w
  lp : w0.heap.size ≤ p
  la : ∀ k, blk A = some k → w0.heap.size ≤ k

theorem Laying.cell {w0 w : World} {p : Nat} {A : Option Addr} {c : Nat} {l : List UInt8} (h : Laying w0 p A c l w) {a b : Addr} {u v : Value} (ha : w0.cell? a = some u ∧ w0.cell? b = some v) : w.cell? a = some u ∧ w.cell? b = some v :=
  ⟨(h.base.cell (World.block_lt_of_cell? w0 _ ha.1)).trans ha.1, (h.base.cell (World.block_lt_of_cell? w0 _ ha.2)).trans ha.2⟩

theorem laying_a (w0 : World) (v : Value) (T : TypeId) : Laying w0 w0.heap.size none 0 [] ((w0.alloc (.cells #[.slice none 0 0, .int .i64 0] 61)).alloc (.cells #[v] T)).drew :=
  ⟨((out_new_at rfl).alloc _).drew, (((Below.refl _ _).alloc (Nat.le_refl _) _).alloc (by simp) _).drew, Nat.le_refl _, fun k hk => by simp [blk] at hk⟩

theorem laying_b (w0 : World) (v : Value) (T : TypeId) : Laying w0 (w0.heap.size + 1) none 0 [] ((w0.alloc (.cells #[v] T)).alloc (.cells #[.slice none 0 0, .int .i64 0] 61)).drew :=
  ⟨(out_new_at (by simp)).drew, (((Below.refl _ _).alloc (Nat.le_refl _) _).alloc (by simp) _).drew, by omega, fun k hk => by simp [blk] at hk⟩

theorem one_a (w0 : World) (o : Obj) (v : Value) (T : TypeId) : SliceAt ((w0.alloc o).alloc (.cells #[v] T)).drew (some ⟨w0.heap.size + 1, 0, none⟩) [v] (fun k => k = w0.heap.size ∨ blk none = some k) :=
  slice_drew (slice_new (by simp) [v] T (by simp [blk]))

theorem one_b (w0 : World) (o : Obj) (v : Value) (T : TypeId) : SliceAt ((w0.alloc (.cells #[v] T)).alloc o).drew (some ⟨w0.heap.size, 0, none⟩) [v] (fun k => k = w0.heap.size + 1 ∨ blk none = some k) :=
  slice_drew (slice_alloc (slice_new rfl [v] T (by simp [blk])) _)

theorem lay_byte (w0 : World) (p : Nat) (A : Option Addr) (c : Nat) (l l' : List UInt8) (B : Option Addr) (n cap : Nat) (xs : List Int) (w : World) (h : Laying w0 p A c l w) (hx : SliceAt w B (xs.map (Value.int .i64)) (fun k => k = p ∨ blk A = some k))
    (hn : xs.length = n) (hl : l.length + n ≤ 1000) (he : bytesO l 0 xs = (l', 0)) :
    Calls Tryd.prog 21 #[.pointer (some ⟨p, 0, none⟩), .slice B n cap] w fun r w' => r = .returned (.pointer (some ⟨p, 0, none⟩)) ∧ ∃ A' c', Laying w0 p A' c' l' w' :=
  (outByte_any p A c l 0 B n cap xs w h.out hx hn (by omega)).mono fun r w' ⟨h1, A', c', h2, h3⟩ => by
    rw [he] at h2
    refine ⟨h1, A', c', h2, h.base.trans (h3.1.below h.base.size (fun k hk hs => ?_)), h.lp, fun k hk => ?_⟩
    · rcases hs with hs | hs
      · have := h.lp; omega
      · have := h.la k hs; omega
    · rcases h3.2 k hk with h4 | h4
      · exact h.la k h4
      · have := h.base.size; omega

theorem lay_low (w0 : World) (p : Nat) (A : Option Addr) (c : Nat) (l : List UInt8) (n : Nat) (w : World) (h : Laying w0 p A c l w) (hn : n < 9223372036854775808) :
    Calls Tryd.prog 22 #[.int .i64 (n : Int)] w fun r w' => ∃ B cb, r = .returned (.slice B 8 cb) ∧ Laying w0 p A c l w' ∧ SliceAt w' B (((lowB n 8).map (fun b => (b.toNat : Int))).map (Value.int .i64)) (fun k => k = p ∨ blk A = some k) :=
  (low_any n w hn).mono fun r w' ⟨B, cb, h1, h2, h3, h4⟩ => by
    refine ⟨B, cb, h1, ⟨h.out.keep (Keep.of_below (fun _ => False) h4) (fun x => x) (fun _ _ x => x), h.base.trans (h4.mono h.base.size), h.lp, h.la⟩, fun _ => ?_⟩
    rw [List.map_map]
    rcases h2 with ⟨_, h0, _⟩ | ⟨b, off, rfl, hb, hrow⟩
    · omega
    · refine ⟨b, off, rfl, hb, fun hs => ?_, fun i v hv => hrow.val i v hv⟩
      have hbw := h3 b rfl
      rcases hs with hs | hs
      · have := h.out.lt; omega
      · have := h.out.row hs; omega

theorem bytesO_low (l : List UInt8) (bs : List UInt8) : bytesO l 0 (bs.map (fun b => (b.toNat : Int))) = (l ++ bs, 0) := by
  induction bs generalizing l with
  | nil => simp [bytesO]
  | cons b r ih =>
    have hb := b.toNat_lt
    have e : byteO l 0 (b.toNat : Int) = (l ++ [b], 0) := by
      unfold byteO
      rw [if_pos rfl, if_neg (by omega)]
      simp
    have : bytesO l 0 ((b :: r).map (fun b => (b.toNat : Int))) = bytesO (byteO l 0 (b.toNat : Int)).1 (byteO l 0 (b.toNat : Int)).2 (r.map (fun b => (b.toNat : Int))) := rfl
    rw [this, e, ih]
    simp

theorem bytesO_way {way : Int} (h : way = 1 ∨ way = 2) : bytesO [] 0 [way] = ([UInt8.ofNat way.toNat], 0) := by
  rcases h with rfl | rfl <;> rfl

theorem lay_end (w0 : World) (p : Nat) (A : Option Addr) (c : Nat) (l : List UInt8) (w : World) (h : Laying w0 p A c l w) :
    Calls Tryd.prog 23 #[.pointer (some ⟨p, 0, none⟩)] w fun r w' => r = .returned (.tuple #[.string ⟨l.toArray⟩, .int .i64 0]) ∧ Below w0.heap.size w0 w' :=
  (outend_any p A c l 0 w h.out).mono fun r w' ⟨h1, k, h2⟩ => ⟨h1, h2 ▸ below_drewN h.base k⟩

theorem keeps_two {w0 w : World} (h : Below w0.heap.size w0 w) {a b : Addr} {u v : Value} (ha : w0.cell? a = some u ∧ w0.cell? b = some v) : w.cell? a = some u ∧ w.cell? b = some v :=
  ⟨(h.cell (World.block_lt_of_cell? w0 _ ha.1)).trans ha.1, (h.cell (World.block_lt_of_cell? w0 _ ha.2)).trans ha.2⟩

set_option maxRecDepth 100000 in
set_option maxHeartbeats 1600000 in
theorem frmlay_ok (key : ByteArray) (way seq : Int) (body : ByteArray) (w : World) (hr : Roots w) (hk : key.size ≤ 90000) (hb : body.size ≤ 20000) (hf : faultI way seq body.size = 0) :
    Calls Tryd.prog 8 #[.string key, .agg #[.int .i64 way, .int .i64 seq, .string body]] w fun r w' => r = .returned (.tuple #[.string ⟨(sealedL key.data.toList (headL way seq ++ body.data.toList)).toArray⟩, .int .i64 0]) ∧ Below w.heap.size w w' := by
  obtain ⟨hw, h1, h2, h3⟩ := fault_ok.1 hf
  have HF := Lib.hid hf
  have HR := Lib.hid hr
  obtain ⟨n, rfl⟩ := Int.eq_ofNat_of_zero_le (show 0 ≤ seq by omega)
  have HW := Lib.hid hw
  clear hf hr hw
  go_enter Tryd.func8, Tryd.ntmps8
  go_wp2_with fail
  refine (fault_is way n body 0 _ (by omega) (by unfold maxLen; omega) HF.out).mono ?_
  rintro r w1 ⟨rfl, hb1⟩
  obtain ⟨c0, c1, cb2⟩ := box_three hb1
  have HB1 : Hid (Below (w.heap.size + 1) (w.alloc (.cells #[.int .i64 way, .int .i64 n, .string body] 28)) w1) := Lib.hid (by simpa using hb1)
  have hz : w.heap.size < w1.heap.size := by have := hb1.size; simp at this; omega
  clear hb1
  have s1 : w1.cell? ⟨w.heap.size, 0, none⟩ = some (.int .i64 way) ∧ w1.cell? ⟨w.heap.size, 1, none⟩ = some (.int .i64 n) := ⟨c0, c1⟩
  have HE1 := Lib.hid (bytesO_way HW.out)
  have HE2 := Lib.hid (bytesO_low [UInt8.ofNat way.toNat] (lowB n 8))
  have hl8 : ((lowB n 8).map (fun b => (b.toNat : Int))).length = 8 := by rw [List.length_map, lowB_len]
  have HL8 := Lib.hid hl8
  clear hl8
  go_wp2_with fail
  go_region_held3 (fun w' => w'.cell? ⟨w.heap.size, 0, none⟩ = some (.int .i64 way) ∧ w'.cell? ⟨w.heap.size, 1, none⟩ = some (.int .i64 n)) (first | exact s5 | exact s4 | exact s3 | exact s2 | go_keep) (first
    | (go_at_call 21; ((with_reducible refine (lay_byte w1 _ none 0 [] _ _ 1 1 [way] _ ?_ ?_ rfl (by simp) HE1.out).mono ?_); (first | exact laying_a _ _ _ | exact laying_b _ _ _); (first | exact one_a _ _ _ _ | exact one_b _ _ _ _); rintro r w2 ⟨rfl, A2, c2, h2⟩; have H2 := Lib.hid h2; have s2 := h2.cell s1; clear h2))
    | (go_at_call 22; ((with_reducible refine (lay_low w1 _ A2 c2 _ n _ H2.out (by omega)).mono ?_); rintro r w3 ⟨B, cb, rfl, h3, hx⟩; have H3 := Lib.hid h3; have HX := Lib.hid hx; have s3 := h3.cell s1; clear h3 hx))
    | (go_at_call 21; ((with_reducible refine (lay_byte w1 _ A2 c2 _ _ B 8 cb _ _ H3.out HX.out HL8.out (by simp) HE2.out).mono ?_); rintro r w4 ⟨rfl, A4, c4, h4⟩; have H4 := Lib.hid h4; have s4 := h4.cell s1; clear h4))
    | (go_at_call 23; ((with_reducible refine (lay_end w1 _ A4 c4 _ _ H4.out).mono ?_); rintro r w5 ⟨rfl, h5⟩; have H5 := Lib.hid h5; have s5 := keeps_two h5 s1; clear h5))
    | fail)
  all_goals
    have HL := Lib.hid (H5.out)
    clear H2 H3 H4 HX
    have d2 : w5.cell? ⟨w.heap.size, 2, none⟩ = some (.string body) := (H5.out.cell (p := ⟨w.heap.size, 2, none⟩) hz).trans cb2
    obtain ⟨D, hD⟩ : ∃ D : ByteArray, D = ⟨(UInt8.ofNat way.toNat :: lowB n 8).toArray⟩ := ⟨_, rfl⟩
    rw [← hD]
    have hDs : D.size = 9 := by rw [hD, size_mk, List.length_cons, lowB_len]
    have hDl : joinL [D, body] = headL way n ++ body.data.toList := by rw [hD]; simp [joinL, headL]
    have hsum : sum [D, body] ≤ 100000 := by rw [sum_two]; omega
    have HD := Lib.hid hDl
    have hb5 : Below w.heap.size w w5 := ((Below.refl _ _).alloc (Nat.le_refl _) _).trans ((HB1.out.trans (H5.out.mono (by have := HB1.out.size; simp at this; omega))).mono (by simp))
    have HB5 := Lib.hid hb5
    have hb6 : Below w.heap.size w (w5.alloc (.cells #[.string D, .string body] 9)) := hb5.alloc hb5.size _
    have HB6 := Lib.hid hb6
    clear hD hDs hDl s5 c0 c1 cb2 hb5 hb6 s1
    go_wp2_with fail
    refine (sealing_any key (some ⟨w5.heap.size, 0, none⟩) 2 2 [D, body] _ (src_two _ _ _ _ rfl) (HR.out.below HB6.out) hsum (by omega) (by omega)).mono ?_
    rintro r w6 ⟨rfl, hb6⟩
    rw [HD.out]
    have HB7 := Lib.hid (HB6.out.trans (hb6.mono HB6.out.size))
    clear hb6
    go_wp2_with fail
    go_ret2
    exact ⟨rfl, HB7.out⟩

theorem frmlay_any (key : ByteArray) (way seq : Int) (body : ByteArray) (w : World) (hr : Roots w) (hk : key.size ≤ 90000) (hs : -9223372036854775808 ≤ seq ∧ seq ≤ 9223372036854775807) (hb : body.size ≤ maxLen) :
    Calls Tryd.prog 8 #[.string key, .agg #[.int .i64 way, .int .i64 seq, .string body]] w fun r w' => r = .returned (.tuple #[.string ⟨(layL key.data.toList way seq body.data.toList).1.toArray⟩, .int .i64 (layL key.data.toList way seq body.data.toList).2]) ∧ Below w.heap.size w w' := by
  have hl : body.data.toList.length = body.size := (Lib.size_eq body).symm
  by_cases hf : faultI way seq body.size = 0
  · have e : layL key.data.toList way seq body.data.toList = (sealedL key.data.toList (headL way seq ++ body.data.toList), 0) := by unfold layL; rw [hl, if_pos hf]
    rw [e]
    exact frmlay_ok key way seq body w hr hk (fault_ok.1 hf).2.2.2 hf
  · have e : layL key.data.toList way seq body.data.toList = ([], faultI way seq body.size) := by unfold layL; rw [hl, if_neg hf]
    rw [e]
    obtain ⟨f, hf2⟩ : ∃ f, f = faultI way seq body.size := ⟨_, rfl⟩
    rw [← hf2] at hf ⊢
    have HF := Lib.hid hf2.symm
    have hf3 : (f != 0) = true := by simpa using hf
    clear hf hf2 e hl hr
    go_enter Tryd.func8, Tryd.ntmps8
    go_wp2_with fail
    refine (fault_is way seq body f _ hs hb HF.out).mono ?_
    rintro r w1 ⟨rfl, hb1⟩
    have HB := Lib.hid (((Below.refl w.heap.size w).alloc (Nat.le_refl _) _).trans (hb1.mono (by simp)))
    clear hb1
    go_wp2_with fail
    go_ret2
    exact ⟨rfl, HB.out⟩

end Go.Proofs.YtncpjapfkcgjnaaDoor
