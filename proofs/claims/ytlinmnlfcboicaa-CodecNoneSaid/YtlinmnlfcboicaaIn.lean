/- The contracts of codec.In. Own work. -/
import Derived.Test.YtlinmnlfcboicaaProg
import Derived.Test.YtlinmnlfcboicaaKeep
import Derived.Test.YtlinmnlfcboicaaNum
import Derived.Outline
import Derived.Laws.BitsAllLaws
import Derived.Laws.MakeOwn
import Derived.Lib.BufferWrite
import Derived.Lib.Walk
import Derived.WalkSpells
import Derived.WalkLawsBesides
namespace Go.Proofs.Ytlinmnlfcboicaa
set_option linter.unusedVariables false
open Go.RowKit

theorem i64_or_nat (a b : Nat) (ha : a < 9223372036854775808) (hb : b < 9223372036854775808) : bits .or .i64 (a : Int) (b : Int) = ((a ||| b : Nat) : Int) := by
  have hx : a ||| b < 2 ^ 63 := Nat.or_lt_two_pow (by omega) (by omega)
  show IntKind.i64.wrap ((BitVec.ofInt 64 (a : Int) ||| BitVec.ofInt 64 (b : Int)).toNat : Int) = _
  rw [BitVec.toNat_or, ofInt_u64 a (by omega), ofInt_u64 b (by omega), IntKind.wrap_i64]
  omega

theorem pow128 (k : Nat) : 128 ^ k = 2 ^ (k * 7) := by rw [Nat.mul_comm, Nat.pow_mul]

/-- The step of the sum, as the walk spells it. -/
theorem or_step (k n b : Nat) (hk : k < 9) (hn : n < 128 ^ k) : bits BinOp.or IntKind.i64 (n : Int) (wrap64 ((b : Int) % 128 * 2 ^ (k * 7))) = ((n + b % 128 * 128 ^ k : Nat) : Int) := by
  have h1 : b % 128 * 128 ^ k ≤ 127 * 128 ^ k := Nat.mul_le_mul_right _ (by omega)
  have h2 : 128 ^ k ≤ 128 ^ 8 := Nat.pow_le_pow_right (by omega) (by omega)
  have e : ((b : Int) % 128 * 2 ^ (k * 7)) = ((b % 128 * 128 ^ k : Nat) : Int) := by
    rw [pow128]; simp
  rw [e, IntWalk.wrap64_in _ ⟨by omega, by omega⟩, i64_or_nat _ _ (by omega) (by omega)]
  congr 1
  rw [Nat.or_comm, nat_join (k * 7) _ _ (by rw [pow128]; exact Nat.mul_mod_left _ _) (by rw [← pow128]; exact hn), Nat.add_comm]

theorem step_lt (k n b : Nat) (hn : n < 128 ^ k) : n + b % 128 * 128 ^ k < 128 ^ (k + 1) := by
  have h1 : b % 128 * 128 ^ k ≤ 127 * 128 ^ k := Nat.mul_le_mul_right _ (by omega)
  rw [Nat.pow_succ]; omega

theorem drop_at (s : ByteArray) (k : Nat) (h : k < s.size) : s.data.toList.drop k = s[k] :: s.data.toList.drop (k + 1) := by
  rw [List.drop_eq_getElem_cons (by simpa using h)]; rfl

theorem ret3 {a b c a' b' c' : Int} (h1 : a = a') (h2 : b = b') (h3 : c = c') : Ending.returned (.tuple #[.int .i64 a, .int .i64 b, .int .i64 c]) = .returned (.tuple #[.int .i64 a', .int .i64 b', .int .i64 c']) := by
  rw [h1, h2, h3]

set_option maxRecDepth 100000 in
set_option maxHeartbeats 400000 in
/-- number: what bytes say. -/
theorem number_any (s : ByteArray) (w : World) (hs : s.size ≤ maxLen) :
    Calls Try.prog 47 #[.string s] w fun e w' => e = .returned (.tuple #[.int .i64 (dec 0 0 s.data.toList).1, .int .i64 (dec 0 0 s.data.toList).2.1, .int .i64 (dec 0 0 s.data.toList).2.2]) ∧ w = w' := by
  unfold maxLen at hs
  go_enter Try.func47, Try.ntmps47
  go_wp2
  go_loop [5, 9] (fun m i => ∃ k n : Nat, k ≤ s.size ∧ k ≤ 9 ∧ n < 128 ^ k ∧ i = .int .i64 k ∧ m = .int .i64 n ∧ Hid (dec k n (s.data.toList.drop k) = dec 0 0 s.data.toList))
    (fun _ i => s.size - (intOf i).toNat)
  case atStart => exact ⟨0, 0, by omega, by omega, by simp, rfl, rfl, rfl⟩
  case round =>
    obtain ⟨k, n, hk, h9, hn, rfl, rfl, hd⟩ := hrel
    by_cases hlt : k < s.size
    · have H1 := Lib.hid (drop_at s k hlt)
      by_cases hk9 : k = 9
      · subst hk9
        go_wp2
        go_ret3
        have hd := hd.out
        rw [H1.out, dec_nine] at hd
        rw [← hd]
        exact ⟨rfl, rfl⟩
      · have H2 := Lib.hid (or_step k n s[k].toNat (by omega) hn)
        have H3 := Lib.hid (step_lt k n s[k].toNat hn)
        go_wp2
        · go_round
          case rel =>
            have hb : 128 ≤ s[k].toNat := by omega
            refine ⟨k + 1, _, by omega, by omega, H3.out, by go_num, congrArg _ H2.out, ?_⟩
            have hd := hd.out
            rw [H1.out, dec_on hk9 hb] at hd
            exact hd
          case measure => simp [intOf]; omega
        · go_ret3
          have hd := hd.out
          rw [H1.out, dec_zero hk9 (by assumption) (by assumption)] at hd
          rw [← hd]
          exact ⟨rfl, rfl⟩
        · go_ret3
          have hd := hd.out
          rw [H1.out, dec_end hk9 (by omega) (by omega)] at hd
          rw [← hd]
          have hz : s[k].toNat = 0 := by assumption
          have h2 := H2.out
          rw [hz] at h2 ⊢
          exact ⟨ret3 (by simpa using h2) (by simp) rfl, rfl⟩
        · go_ret3
          have hd := hd.out
          rw [H1.out, dec_end hk9 (by omega) (by omega)] at hd
          rw [← hd]
          exact ⟨ret3 H2.out (by simp) rfl, rfl⟩
    · go_wp2
      go_ret3
      have hd := hd.out
      rw [List.drop_of_length_le (by simp; omega), dec_nil] at hd
      rw [← hd]
      exact ⟨rfl, rfl⟩

/-- A reader behind a pointer: what is left, the error; On made it. -/
def InAt (w : World) (p : Nat) (s : ByteArray) (e : Int) : Prop := w.heap[p]? = some (.cells #[.string s, .int .i64 e, .bool true] 64 (0, 0))

theorem InAt.lt {w : World} {p : Nat} {s : ByteArray} {e : Int} (h : InAt w p s e) : p < w.heap.size := lt_heap h
theorem InAt.c0 {w : World} {p : Nat} {s : ByteArray} {e : Int} (h : InAt w p s e) : w.cell? ⟨p, 0, none⟩ = some (.string s) := cell_at h 0
theorem InAt.c1 {w : World} {p : Nat} {s : ByteArray} {e : Int} (h : InAt w p s e) : w.cell? ⟨p, 1, none⟩ = some (.int .i64 e) := cell_at h 1
theorem InAt.c2 {w : World} {p : Nat} {s : ByteArray} {e : Int} (h : InAt w p s e) : w.cell? ⟨p, 2, none⟩ = some (.bool true) := cell_at h 2
theorem InAt.fr {w : World} {p : Nat} {s : ByteArray} {e : Int} (h : InAt w p s e) (i : Nat) : w.frozen? ⟨p, i, none⟩ = false := free_at h i
theorem InAt.keep {S : Nat → Prop} {w w' : World} {p : Nat} {s : ByteArray} {e : Int} (h : InAt w p s e) (k : Keep S w w') (hn : ¬ S p) : InAt w' p s e := k.heap h hn
theorem InAt.set0 {w : World} {p : Nat} {s : ByteArray} {e : Int} (h : InAt w p s e) (t : ByteArray) : InAt (w.setCell ⟨p, 0, none⟩ (.string t)) p t e := heap_set h 0 _
theorem InAt.set1 {w : World} {p : Nat} {s : ByteArray} {e : Int} (h : InAt w p s e) (f : Int) : InAt (w.setCell ⟨p, 1, none⟩ (.int .i64 f)) p s f := heap_set h 1 _

/-- What a call did to a reader's block alone. -/
theorem keep_set (w : World) (p i : Nat) (u : Value) : Keep (· = p) w (w.setCell ⟨p, i, none⟩ u) :=
  Keep.setCell (S := fun x => x = p) (Keep.refl _ w) (p := ⟨p, i, none⟩) (fun _ => rfl) u

theorem Keep.own {w w1 : World} {p : Nat} (h : Keep (· = p) w w1) (i : Nat) (u : Value) : Keep (· = p) w (w1.setCell ⟨p, i, none⟩ u) :=
  Keep.setCell (S := fun x => x = p) h (p := ⟨p, i, none⟩) (fun _ => rfl) u

set_option maxHeartbeats 400000 in
/-- On: a new reader. -/
theorem on_any (s : ByteArray) (w : World) :
    Calls Try.prog 24 #[.string s] w fun e w' => e = .returned (.pointer (some ⟨w.heap.size, 0, none⟩)) ∧ InAt w' w.heap.size s 0 ∧ Below w.heap.size w w' := by
  go_enter Try.func24, Try.ntmps24
  go_wp2
  go_ret
  exact ⟨rfl, heap_alloc_new w _, (Below.refl _ _).alloc (Nat.le_refl _) _⟩

set_option maxHeartbeats 400000 in
/-- fail: the first error. -/
theorem infail_any (p : Nat) (s : ByteArray) (e f : Int) (w : World) (h : InAt w p s e) :
    Calls Try.prog 48 #[.pointer (some ⟨p, 0, none⟩), .int .i64 f] w fun r w' => r = .returned (.tuple #[]) ∧ InAt w' p .empty f ∧ Keep (· = p) w w' := by
  have c0 := h.c0
  have c1 := h.c1
  have f0 := h.fr 0
  have f1 := h.fr 1
  have fin : InAt ((w.setCell ⟨p, 0, none⟩ (.string .empty)).setCell ⟨p, 1, none⟩ (.int .i64 f)) p .empty f ∧ Keep (· = p) w ((w.setCell ⟨p, 0, none⟩ (.string .empty)).setCell ⟨p, 1, none⟩ (.int .i64 f)) :=
    ⟨(h.set0 _).set1 _, (keep_set w p 0 _).setCell (fun _ => rfl) _⟩
  have fin := Lib.hid fin
  go_enter Try.func48, Try.ntmps48
  go_wp2
  go_end0
  exact ⟨rfl, fin.out⟩

theorem byte_info : (Try.prog.info? 5).map (fun i => (i.zero, i.size, i.bytes)) = some (some (.int .u8 0), 1, 1) := by kernel_rfl

set_option maxHeartbeats 4000000 in
set_option maxRecDepth 100000 in
/-- stringslite.Clone: a fresh copy. -/
theorem clone_inner (s : ByteArray) (w : World) (hlim : s.size ≤ 281474976710656) :
    Calls Try.prog 50 #[.string s] w fun e w' => e = .returned (.string s) ∧ Below w.heap.size w w' := by
  by_cases h0 : s.size = 0
  · have hs : s = ⟨#[]⟩ := ByteArray.ext (Array.eq_empty_of_size_eq_zero h0)
    subst hs
    go_enter Try.func50, Try.ntmps50
    go_wp2
    go_ret
    exact ⟨rfl, Below.refl _ _⟩
  · obtain ⟨i0, hi, hz0, hz1, hz2⟩ := info_parts byte_info
    have hco : Try.prog.cellsOf 5 = 1 := by simp [Program.cellsOf, hi, hz1]
    -- the new row, under a name
    obtain ⟨M, hM⟩ : ∃ M, M = madeCells (Value.int .u8 0).cells (((s.size : Nat) : Int).toNat * i0.size) := ⟨_, rfl⟩
    have hMs : M.size = s.size := by rw [hM, size_madeCells, hz1]; simp
    have hmk : ∀ W : World, (Instr.makeSlice 26 (.int .i64 (s.size : Int)) (.int .i64 (s.size : Int))).run Try.prog W = .ok (.slice (some ⟨W.heap.size, 0, none⟩) s.size s.size) (W.alloc (.cells M 5)) := fun W => by
      have h := run_make (P := Try.prog) W 26 5 i0 (.int .u8 0) Try.underlying26 hi hz0 .i64 .i64 (s.size : Int) (s.size : Int) (by omega) (by omega) (by rw [hz2]; omega) (by omega)
      rw [← hM] at h
      simpa using h
    clear hM
    -- the copy
    have hcp := Lib.run_copy_row_string (P := Try.prog) (w.alloc (.cells M 5)) 26 9 3 5 w.heap.size 0 s.size s.size s M 5 Try.underlying26 (by rw [hi]; simp [hz1]) (heap_alloc_new w _) (Nat.le_refl _) (by omega)
    obtain ⟨Y, hY⟩ : ∃ Y, Y = (M.toList.take 0 ++ Lib.byteCells s.data.toList ++ M.toList.drop (0 + s.size)).toArray := ⟨_, rfl⟩
    rw [← hY] at hcp
    have hYl : Y.toList = Lib.byteCells s.data.toList := by
      rw [hY, List.toList_toArray, List.take_zero, List.nil_append, List.drop_of_length_le (by rw [Array.length_toList]; omega), List.append_nil]
    have hYs : Y.size = s.size := by rw [← Array.length_toList, hYl, Lib.byteCells_length, ← Lib.size_eq]
    have hgY : ((w.alloc (.cells M 5)).setRow w.heap.size Y).heap[w.heap.size]? = some (.cells Y 5 (0, 0)) := setRow_heap _ _ M _ 5 (0, 0) (heap_alloc_new w _)
    -- the string over the row
    have hne : s.data.toList ≠ [] := fun e => h0 (by rw [Lib.size_eq, e]; rfl)
    have hUS := Lib.run_unsafeString_row (P := Try.prog) ((w.alloc (.cells M 5)).setRow w.heap.size Y) 68 3 9 5 Try.underlying68 hco w.heap.size Y.size (by unfold World.shape?; rw [hgY]) s.data.toList hne (by rw [← Lib.size_eq]; omega) (by rw [← Lib.size_eq]; omega)
      (fun j x hx => Lib.cells_of_row hgY Y.size j _ (by rw [List.take_of_length_le (by rw [Array.length_toList]; exact Nat.le_refl _), hYl]; simp [Lib.byteCells, hx]))
    rw [← Lib.size_eq] at hUS
    clear hY
    go_enter Try.func50, Try.ntmps50
    go_wp2
    go_ret
    have hb1 : Below w.heap.size w (w.alloc (.cells M 5)) := (Below.refl _ w).alloc (Nat.le_refl _) _
    have hb2 : Below w.heap.size (w.alloc (.cells M 5)) ((w.alloc (.cells M 5)).setRow w.heap.size Y) := ⟨rfl, rfl, rfl, by simp, fun k hk => setRow_other _ _ _ _ (by omega)⟩
    exact ⟨rfl, Lib.below_freeze (hb1.trans hb2) (p := ⟨w.heap.size, 0, none⟩) (Nat.le_refl _) _⟩

/-- strings.Clone: the same bytes. -/
theorem clone_any (s : ByteArray) (w : World) (hlim : s.size ≤ 281474976710656) :
    Calls Try.prog 49 #[.string s] w fun e w' => e = .returned (.string s) ∧ Below w.heap.size w w' := by
  go_enter Try.func49, Try.ntmps49
  go_wp2_with (go_at_call 50; refine (clone_inner s _ hlim).mono ?_; rintro e w1 ⟨rfl, hb⟩)
  go_ret
  exact ⟨rfl, hb⟩

theorem not_empty {s : ByteArray} (h : s.size ≠ 0) : s.toList.isEmpty = false := by
  rw [Lib.toList_data, List.isEmpty_eq_false_iff]
  intro e
  apply h
  rw [Lib.size_eq, e]
  rfl
theorem is_empty {s : ByteArray} (h : s.size = 0) : s = .empty := ByteArray.ext (Array.eq_empty_of_size_eq_zero h)
theorem head_at (s : ByteArray) (h : 0 < s.size) : s.data.toList.headD 0 = s[0] := by
  have := drop_at s 0 h
  rw [List.drop_zero] at this
  rw [this]
  rfl
theorem ret1 {a b : Int} (h : a = b) : Ending.returned (.int .i64 a) = .returned (.int .i64 b) := by rw [h]

/-- What Num reads. -/
def numS (s : ByteArray) (e : Int) : Int × ByteArray × Int :=
  if e = 0 then
    if (dec 0 0 s.data.toList).2.2 = 0 then ((dec 0 0 s.data.toList).1, s.extract (dec 0 0 s.data.toList).2.1 s.size, 0) else (0, .empty, (dec 0 0 s.data.toList).2.2)
  else (0, s, e)
/-- What Raw reads. -/
def rawS (s : ByteArray) (e n : Int) : ByteArray × ByteArray × Int :=
  if e = 0 then
    if n < 0 then (.empty, .empty, 1) else if s.size < n then (.empty, .empty, 2) else (s.extract 0 n.toNat, s.extract n.toNat s.size, 0)
  else (.empty, s, e)

set_option maxRecDepth 100000 in
set_option maxHeartbeats 400000 in
theorem innum_bad (p : Nat) (s : ByteArray) (e : Int) (w : World) (h : InAt w p s e) (he : e ≠ 0) :
    Calls Try.prog 25 #[.pointer (some ⟨p, 0, none⟩)] w fun r w' => r = .returned (.int .i64 0) ∧ w = w' := by
  have c0 := h.c0
  have c1 := h.c1
  have c2 := h.c2
  have h1 : (e == 0) = false := by simpa using he
  go_enter Try.func25, Try.ntmps25
  go_wp2
  go_ret
  exact ⟨rfl, rfl⟩

set_option maxRecDepth 100000 in
set_option maxHeartbeats 400000 in
theorem innum_ok (p : Nat) (s : ByteArray) (w : World) (h : InAt w p s 0) (hs : s.size ≤ maxLen) :
    Calls Try.prog 25 #[.pointer (some ⟨p, 0, none⟩)] w fun r w' => r = .returned (.int .i64 (numS s 0).1) ∧ InAt w' p (numS s 0).2.1 (numS s 0).2.2 ∧ Keep (· = p) w w' := by
  have c0 := h.c0
  have c1 := h.c1
  have c2 := h.c2
  have f0 := h.fr 0
  obtain ⟨n, k, f, hd⟩ : ∃ n k f, dec 0 0 s.data.toList = (n, k, f) := ⟨_, _, _, rfl⟩
  have hk : f = 0 → k ≤ s.size := fun hf => by have := dec_len s.data.toList 0 0 (by rw [hd]; exact hf); rw [hd] at this; simpa using this
  have hnum := number_any s w hs
  rw [hd] at hnum
  have hz : numS s 0 = if f = 0 then ((n : Int), s.extract k s.size, 0) else (0, .empty, f) := by simp [numS, hd]
  rw [hz]
  clear hd hz
  have HN := Lib.hid hnum
  clear hnum
  unfold maxLen at hs
  have HI := Lib.hid h
  by_cases hf : f = 0
  · subst hf
    have hk := hk rfl
    rw [if_pos rfl]
    have fin := Lib.hid (And.intro (h.set0 (s.extract k s.size)) (keep_set w p 0 (.string (s.extract k s.size))))
    clear h
    go_enter Try.func25, Try.ntmps25
    go_wp2_with (first | (go_at_call 47; refine HN.out.mono ?_; rintro e w1 ⟨rfl, rfl⟩) | go_in)
    go_ret
    exact ⟨rfl, fin.out⟩
  · rw [if_neg hf]
    have hf1 : (f != 0) = true := by simpa using hf
    clear h
    go_enter Try.func25, Try.ntmps25
    go_wp2_with (first | (go_at_call 47; refine HN.out.mono ?_; rintro e w1 ⟨rfl, rfl⟩) | (go_at_call 48; refine (infail_any p s 0 f _ HI.out).mono ?_; rintro e w1 ⟨rfl, hi, hkp⟩) | go_in)
    go_ret
    exact ⟨rfl, hi, hkp⟩

theorem innum_any (p : Nat) (s : ByteArray) (e : Int) (w : World) (h : InAt w p s e) (hs : s.size ≤ maxLen) :
    Calls Try.prog 25 #[.pointer (some ⟨p, 0, none⟩)] w fun r w' => r = .returned (.int .i64 (numS s e).1) ∧ InAt w' p (numS s e).2.1 (numS s e).2.2 ∧ Keep (· = p) w w' := by
  by_cases he : e = 0
  · subst he; exact innum_ok p s w h hs
  · refine (innum_bad p s e w h he).mono fun r w' ⟨hr, hw⟩ => ?_
    subst hw
    rw [show numS s e = (0, s, e) from if_neg he]
    exact ⟨hr, h, Keep.refl _ _⟩

set_option maxRecDepth 100000 in
set_option maxHeartbeats 400000 in
theorem inraw_bad (p : Nat) (s : ByteArray) (e n : Int) (w : World) (h : InAt w p s e) (he : e ≠ 0) :
    Calls Try.prog 31 #[.pointer (some ⟨p, 0, none⟩), .int .i64 n] w fun r w' => r = .returned (.string .empty) ∧ w = w' := by
  have c0 := h.c0
  have c1 := h.c1
  have c2 := h.c2
  have h1 : (e == 0) = false := by simpa using he
  go_enter Try.func31, Try.ntmps31
  go_wp2
  go_ret
  exact ⟨rfl, rfl⟩

set_option maxRecDepth 100000 in
set_option maxHeartbeats 400000 in
theorem inraw_neg (p : Nat) (s : ByteArray) (n : Int) (w : World) (h : InAt w p s 0) (hn : n < 0) :
    Calls Try.prog 31 #[.pointer (some ⟨p, 0, none⟩), .int .i64 n] w fun r w' => r = .returned (.string .empty) ∧ InAt w' p .empty 1 ∧ Keep (· = p) w w' := by
  have c0 := h.c0
  have c1 := h.c1
  have c2 := h.c2
  have HI := Lib.hid h
  clear h
  go_enter Try.func31, Try.ntmps31
  go_wp2_with (first | (go_at_call 48; refine (infail_any p s 0 1 _ HI.out).mono ?_; rintro e w1 ⟨rfl, hi, hkp⟩) | go_in)
  go_ret
  exact ⟨rfl, hi, hkp⟩

set_option maxRecDepth 100000 in
set_option maxHeartbeats 400000 in
theorem inraw_short (p : Nat) (s : ByteArray) (n : Int) (w : World) (h : InAt w p s 0) (hn : 0 ≤ n) (hs : s.size ≤ maxLen) (hl : s.size < n) :
    Calls Try.prog 31 #[.pointer (some ⟨p, 0, none⟩), .int .i64 n] w fun r w' => r = .returned (.string .empty) ∧ InAt w' p .empty 2 ∧ Keep (· = p) w w' := by
  have c0 := h.c0
  have c1 := h.c1
  have c2 := h.c2
  have HI := Lib.hid h
  clear h
  unfold maxLen at hs
  go_enter Try.func31, Try.ntmps31
  go_wp2_with (first | (go_at_call 48; refine (infail_any p s 0 2 _ HI.out).mono ?_; rintro e w1 ⟨rfl, hi, hkp⟩) | go_in)
  go_ret
  exact ⟨rfl, hi, hkp⟩

set_option maxRecDepth 100000 in
set_option maxHeartbeats 400000 in
theorem inraw_ok (p : Nat) (s : ByteArray) (n : Nat) (w : World) (h : InAt w p s 0) (hs : s.size ≤ 281474976710656) (hl : n ≤ s.size) :
    Calls Try.prog 31 #[.pointer (some ⟨p, 0, none⟩), .int .i64 n] w fun r w' => r = .returned (.string (s.extract 0 n)) ∧ InAt w' p (s.extract n s.size) 0 ∧ Keep (· = p) w w' := by
  have c0 := h.c0
  have c1 := h.c1
  have c2 := h.c2
  have HI := Lib.hid h
  have hlt := h.lt
  clear h
  have hsz : (s.extract 0 n).size ≤ 281474976710656 := by simp; omega
  go_enter Try.func31, Try.ntmps31
  go_wp2_with (first | (go_at_call 49; refine (clone_any _ _ hsz).mono ?_; rintro e w1 ⟨rfl, hb⟩; have d0 := (hb.cell (p := ⟨p, 0, none⟩) hlt).trans c0; have d1 := (hb.frozen (p := ⟨p, 0, none⟩) hlt).trans (HI.out.fr 0)) | go_in)
  go_ret
  have h1 : InAt w1 p s 0 := (hb.block p hlt).trans HI.out
  exact ⟨rfl, h1.set0 _, (Keep.of_below _ hb).own _ _⟩

theorem inraw_any (p : Nat) (s : ByteArray) (e n : Int) (w : World) (h : InAt w p s e) (hs : s.size ≤ 281474976710656) :
    Calls Try.prog 31 #[.pointer (some ⟨p, 0, none⟩), .int .i64 n] w fun r w' => r = .returned (.string (rawS s e n).1) ∧ InAt w' p (rawS s e n).2.1 (rawS s e n).2.2 ∧ Keep (· = p) w w' := by
  by_cases he : e = 0
  · subst he
    by_cases hn : n < 0
    · rw [show rawS s 0 n = (.empty, .empty, 1) from by simp [rawS, hn]]
      exact inraw_neg p s n w h hn
    · by_cases hl : s.size < n
      · rw [show rawS s 0 n = (.empty, .empty, 2) from by simp [rawS, hn, hl]]
        exact inraw_short p s n w h (by omega) (by unfold maxLen; omega) hl
      · rw [show rawS s 0 n = (s.extract 0 n.toNat, s.extract n.toNat s.size, 0) from by simp [rawS, hn, hl]]
        obtain ⟨k, rfl⟩ := Int.eq_ofNat_of_zero_le (show 0 ≤ n from by omega)
        exact inraw_ok p s k w h hs (by omega)
  · refine (inraw_bad p s e n w h he).mono fun r w' ⟨hr, hw⟩ => ?_
    subst hw
    rw [show rawS s e n = (.empty, s, e) from if_neg he]
    exact ⟨hr, h, Keep.refl _ _⟩

theorem numS_size (s : ByteArray) (e : Int) : (numS s e).2.1.size ≤ s.size := by
  unfold numS
  split
  · split
    · simp
    · simp
  · simp

/-- What Text reads. -/
def textS (s : ByteArray) (e : Int) : ByteArray × ByteArray × Int := rawS (numS s e).2.1 (numS s e).2.2 (numS s e).1

set_option maxRecDepth 100000 in
set_option maxHeartbeats 400000 in
theorem intext_any (p : Nat) (s : ByteArray) (e : Int) (w : World) (h : InAt w p s e) (hs : s.size ≤ 281474976710656) :
    Calls Try.prog 29 #[.pointer (some ⟨p, 0, none⟩)] w fun r w' => r = .returned (.string (textS s e).1) ∧ InAt w' p (textS s e).2.1 (textS s e).2.2 ∧ Keep (· = p) w w' := by
  have HI := Lib.hid h
  clear h
  have hsz := Lib.hid (Nat.le_trans (numS_size s e) hs)
  go_enter Try.func29, Try.ntmps29
  go_wp2_with fail
  refine (innum_any p s e _ HI.out (by unfold maxLen; omega)).mono ?_
  rintro r w1 ⟨rfl, hi, hk⟩
  have HI1 := Lib.hid hi
  have HK1 := Lib.hid hk
  clear hi hk
  go_wp2_with fail
  refine (inraw_any p _ _ _ _ HI1.out hsz.out).mono ?_
  rintro r w2 ⟨rfl, hi, hk⟩
  have HI2 := Lib.hid hi
  have HK2 := Lib.hid (HK1.out.trans hk (fun _ _ x => x))
  clear hi hk
  go_wp2
  go_ret
  exact ⟨rfl, HI2.out, HK2.out⟩

/-- What Byte reads. -/
def byteS (s : ByteArray) (e : Int) : Int × ByteArray × Int := (((rawS s e 1).1.data.toList.headD 0).toNat, (rawS s e 1).2.1, (rawS s e 1).2.2)

set_option maxRecDepth 100000 in
set_option maxHeartbeats 400000 in
theorem inbyte_any (p : Nat) (s : ByteArray) (e : Int) (w : World) (h : InAt w p s e) (hs : s.size ≤ 281474976710656) :
    Calls Try.prog 27 #[.pointer (some ⟨p, 0, none⟩)] w fun r w' => r = .returned (.int .i64 (byteS s e).1) ∧ InAt w' p (byteS s e).2.1 (byteS s e).2.2 ∧ Keep (· = p) w w' := by
  have HI := Lib.hid h
  clear h
  go_enter Try.func27, Try.ntmps27
  go_wp2_with fail
  refine (inraw_any p s e 1 _ HI.out hs).mono ?_
  rintro r w1 ⟨rfl, hi, hk⟩
  have HI1 := Lib.hid hi
  have HK1 := Lib.hid hk
  clear hi hk
  have hb : (byteS s e).1 = (((rawS s e 1).1.data.toList.headD 0).toNat : Int) := rfl
  have HB := Lib.hid hb
  clear hb
  generalize (rawS s e 1).1 = x at *
  by_cases h0 : x.size = 0
  · have hx := is_empty h0
    subst hx
    go_wp2
    go_ret
    exact ⟨ret1 (by rw [HB.out]; rfl), HI1.out, HK1.out⟩
  · have h1 := not_empty h0
    have h2 : 0 < x.size := by omega
    have H3 := Lib.hid (head_at x h2)
    have h4 := x[0].toNat_lt
    clear h0
    go_wp2
    go_ret
    exact ⟨ret1 (by rw [HB.out, H3.out]), HI1.out, HK1.out⟩

set_option maxRecDepth 100000 in
set_option maxHeartbeats 400000 in
theorem inleft_any (p : Nat) (s : ByteArray) (e : Int) (w : World) (h : InAt w p s e) (_hs : s.size ≤ 281474976710656) :
    Calls Try.prog 33 #[.pointer (some ⟨p, 0, none⟩)] w fun r w' => r = .returned (.int .i64 s.size) ∧ w = w' := by
  have c0 := h.c0
  go_enter Try.func33, Try.ntmps33
  go_wp2
  go_ret
  exact ⟨rfl, rfl⟩

/-- What End tells. -/
def endS (s : ByteArray) (e : Int) : Int := if s.size = 0 then e else 3

set_option maxRecDepth 100000 in
set_option maxHeartbeats 400000 in
theorem inend_any (p : Nat) (s : ByteArray) (e : Int) (w : World) (h : InAt w p s e) (hs : s.size ≤ 281474976710656) :
    Calls Try.prog 35 #[.pointer (some ⟨p, 0, none⟩)] w fun r w' => r = .returned (.int .i64 (endS s e)) ∧ InAt w' p .empty (endS s e) ∧ Keep (· = p) w w' := by
  have c0 := h.c0
  have c1 := h.c1
  have c2 := h.c2
  have HI := Lib.hid h
  clear h
  by_cases h0 : s.size = 0
  · rw [show endS s e = e from if_pos h0]
    have he := is_empty h0
    subst he
    go_enter Try.func35, Try.ntmps35
    go_wp2_with go_in
    go_ret
    exact ⟨rfl, HI.out, Keep.refl _ _⟩
  · have h1 := not_empty h0
    rw [show endS s e = 3 from if_neg h0]
    go_enter Try.func35, Try.ntmps35
    go_wp2_with (first | (go_at_call 48; refine (infail_any p s e 3 _ HI.out).mono ?_; rintro e w1 ⟨rfl, hi, hkp⟩; have d1 := hi.c1) | go_in)
    go_ret
    exact ⟨rfl, hi, hkp⟩

end Go.Proofs.Ytlinmnlfcboicaa
