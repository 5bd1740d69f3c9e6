/- The contracts of codec.Out. Own work. -/
import Derived.Test.YtlinmnlfcboicaaIn
namespace Go.Proofs.Ytlinmnlfcboicaa
set_option linter.unusedVariables false
open Go.RowKit

/-- A writer behind a pointer: its row (at A, of capacity c), what was laid, the error. -/
def OutAt (w : World) (p : Nat) (A : Option Addr) (c : Nat) (l : List UInt8) (e : Int) : Prop :=
  w.heap[p]? = some (.cells #[.slice A l.length c, .int .i64 e] 29 (0, 0)) ∧ w.ownsRow 0 5 1 (.slice A l.length c) l.length (Lib.byteCells l)

/-- What a call on a writer turns: its block, its row, and what is new; its row is the old one, or new. -/
def OutStep (p : Nat) (A : Option Addr) (w : World) (A' : Option Addr) (w' : World) : Prop :=
  Keep (fun k => k = p ∨ blk A = some k) w w' ∧ ∀ k, blk A' = some k → blk A = some k ∨ w.heap.size ≤ k

theorem OutStep.refl (p : Nat) (A : Option Addr) (w : World) : OutStep p A w A w := ⟨Keep.refl _ _, fun _ h => .inl h⟩
theorem OutStep.trans {p : Nat} {A A1 A2 : Option Addr} {w w1 w2 : World} (h : OutStep p A w A1 w1) (k : OutStep p A1 w1 A2 w2) : OutStep p A w A2 w2 := by
  refine ⟨h.1.trans k.1 fun i hi hs => ?_, fun j hj => ?_⟩
  · rcases hs with hs | hs
    · exact .inl hs
    · rcases h.2 i hs with h2 | h2
      · exact .inr h2
      · omega
  · rcases k.2 j hj with h2 | h2
    · exact h.2 j h2
    · exact .inr (Nat.le_trans h.1.size h2)

namespace OutAt
variable {w w' : World} {p : Nat} {A : Option Addr} {c : Nat} {l : List UInt8} {e : Int}
theorem lt (h : OutAt w p A c l e) : p < w.heap.size := lt_heap h.1
theorem c0 (h : OutAt w p A c l e) : w.cell? ⟨p, 0, none⟩ = some (.slice A l.length c) := cell_at h.1 0
theorem c1 (h : OutAt w p A c l e) : w.cell? ⟨p, 1, none⟩ = some (.int .i64 e) := cell_at h.1 1
theorem fr (h : OutAt w p A c l e) (i : Nat) : w.frozen? ⟨p, i, none⟩ = false := free_at h.1 i
theorem ne (h : OutAt w p A c l e) : blk A ≠ some p := by
  have := own_ne h.2 h.1 (by decide)
  rwa [ownBlock_slice] at this
theorem row (h : OutAt w p A c l e) {k : Nat} (hk : blk A = some k) : k < w.heap.size := own_lt h.2 (by rw [ownBlock_slice]; exact hk)
theorem keep {S : Nat → Prop} (h : OutAt w p A c l e) (k : Keep S w w') (hn : ¬ S p) (hr : ∀ i, blk A = some i → ¬ S i) : OutAt w' p A c l e :=
  ⟨k.heap h.1 hn, own_keep h.2 k (by rw [ownBlock_slice]; exact hr)⟩
theorem alloc (h : OutAt w p A c l e) (o : Obj) : OutAt (w.alloc o) p A c l e := ⟨heap_alloc h.1 o, h.2.alloc o⟩
theorem drew (h : OutAt w p A c l e) : OutAt w.drew p A c l e := ⟨h.1, h.2.drew⟩
end OutAt

/-- A new writer. -/
theorem OutAt.new (w : World) : OutAt (w.alloc (.cells #[.slice none 0 0, .int .i64 0] 29)) w.heap.size none 0 [] 0 :=
  ⟨heap_alloc_new w _, World.ownsRow_nil _ _ _ _⟩

/-- Behind an append, and the store of its answer. -/
theorem out_store {w w1 : World} {p : Nat} {A : Option Addr} {c : Nat} {l : List UInt8} {e : Int} (h : OutAt w p A c l e) {A2 : Option Addr} {c2 : Nat} {l2 : List UInt8}
    (hown : w1.ownsRow 0 5 1 (.slice A2 l2.length c2) l2.length (Lib.byteCells l2)) (hk : Keep (fun k => blk A = some k) w w1) (hat : ∀ k, blk A2 = some k → blk A = some k ∨ w.heap.size ≤ k) :
    OutAt (w1.setCell ⟨p, 0, none⟩ (.slice A2 l2.length c2)) p A2 c2 l2 e ∧ OutStep p A w A2 (w1.setCell ⟨p, 0, none⟩ (.slice A2 l2.length c2)) := by
  have h1 := hk.heap h.1 h.ne
  have hne : (Value.slice A2 l2.length c2).ownBlock ≠ some p := own_ne hown h1 (by decide)
  refine ⟨⟨heap_set h1 0 _, ownsRow_setCell_other hown hne _⟩, ?_, hat⟩
  exact Keep.setCell (S := fun k => k = p ∨ blk A = some k) (hk.mono fun _ _ x => .inr x) (p := ⟨p, 0, none⟩) (fun _ => .inl rfl) _

theorem byteCells_one (b : UInt8) : Lib.byteCells [b] = [.int .u8 b.toNat] := rfl

/-- Behind an append of one byte. -/
theorem out_push {w w1 : World} {p : Nat} {A : Option Addr} {c : Nat} {l : List UInt8} {e : Int} (h : OutAt w p A c l e) {o : Obj} {b : UInt8} {x : Int} (hx : x = b.toNat) {A2 : Option Addr} {c2 : Nat}
    (hown : w1.ownsRow 0 5 1 (.slice A2 (l.length + 1) c2) (l.length + 1) (Lib.byteCells l ++ [.int .u8 x])) (hg : (w.alloc o).grownBy w1 (Value.slice A l.length c).ownBlock)
    (hat : (Value.slice A2 (l.length + 1) c2).ownBlock = (Value.slice A l.length c).ownBlock ∨ (Value.slice A2 (l.length + 1) c2).ownBlock = some (w.alloc o).heap.size) :
    OutAt (w1.setCell ⟨p, 0, none⟩ (.slice A2 (l.length + 1) c2)) p A2 c2 (l ++ [b]) e ∧ OutStep p A w A2 (w1.setCell ⟨p, 0, none⟩ (.slice A2 (l.length + 1) c2)) := by
  rw [ownBlock_slice] at hg
  rw [ownBlock_slice, ownBlock_slice] at hat
  have hl : l.length + 1 = (l ++ [b]).length := by simp
  rw [hx, ← byteCells_one, ← Lib.byteCells_append, hl] at hown
  rw [hl]
  refine out_store h hown (((Keep.refl (fun k => blk A = some k) w).alloc o).grown hg (fun k hk _ => hk)) (fun k hk => ?_)
  rcases hat with hat | hat
  · exact .inl (hat ▸ hk)
  · rw [hat] at hk
    right
    simp at hk
    omega

/-- The writer's block, behind an append. -/
theorem out_mid {w w1 : World} {p : Nat} {A : Option Addr} {c : Nat} {l : List UInt8} {e : Int} (h : OutAt w p A c l e) {o : Obj} (hg : (w.alloc o).grownBy w1 (Value.slice A l.length c).ownBlock) :
    w1.heap[p]? = some (.cells #[.slice A l.length c, .int .i64 e] 29 (0, 0)) := by
  have h1 := h.alloc o
  rw [ownBlock_slice] at hg
  exact (hg.block p h1.lt h1.ne.symm).trans h1.1

/-- What Num, Byte, Raw make of what was laid, and of the error. -/
def numO (l : List UInt8) (e n : Int) : List UInt8 × Int := if e = 0 then if n < 0 then ([], 1) else (l ++ enc n.toNat, 0) else (l, e)
def byteO (l : List UInt8) (e n : Int) : List UInt8 × Int := if e = 0 then if n < 0 ∨ 255 < n then ([], 1) else (l ++ [UInt8.ofNat n.toNat], 0) else (l, e)
def rawO (l : List UInt8) (e : Int) (s : List UInt8) : List UInt8 × Int := if e = 0 then (l ++ s, 0) else (l, e)

/-- Behind a call on a writer. -/
def OutTo (p : Nat) (A : Option Addr) (w : World) (x : List UInt8 × Int) (w' : World) : Prop := ∃ A' c', OutAt w' p A' c' x.1 x.2 ∧ OutStep p A w A' w'

set_option maxHeartbeats 400000 in
/-- fail: what was laid goes. -/
theorem outfail_any (p : Nat) (A : Option Addr) (c : Nat) (l : List UInt8) (e : Int) (w : World) (h : OutAt w p A c l 0) :
    Calls Try.prog 41 #[.pointer (some ⟨p, 0, none⟩), .int .i64 e] w fun r w' => r = .returned (.tuple #[]) ∧ OutTo p A w ([], e) w' := by
  have c0 := h.c0
  have c1 := h.c1
  have f0 := h.fr 0
  have f1 := h.fr 1
  have fin : OutTo p A w ([], e) ((w.setCell ⟨p, 0, none⟩ (.slice none 0 0)).setCell ⟨p, 1, none⟩ (.int .i64 e)) :=
    ⟨none, 0, ⟨heap_set (heap_set h.1 0 _) 1 _, World.ownsRow_nil _ _ _ _⟩,
      (((Keep.refl (fun k => k = p ∨ blk A = some k) w).setCell (p := ⟨p, 0, none⟩) (fun _ => .inl rfl) _).setCell (p := ⟨p, 1, none⟩) (fun _ => .inl rfl) _), fun k hk => by simp [blk] at hk⟩
  have fin := Lib.hid fin
  clear h
  go_enter Try.func41, Try.ntmps41
  go_wp2_with go_in
  go_end0
  exact ⟨rfl, fin.out⟩

set_option maxHeartbeats 400000 in
theorem outopen_ok (p : Nat) (A : Option Addr) (c : Nat) (l : List UInt8) (w : World) (h : OutAt w p A c l 0) :
    Calls Try.prog 42 #[.pointer (some ⟨p, 0, none⟩)] w fun r w' => r = .returned (.bool true) ∧ w = w' := by
  have c1 := h.c1
  clear h
  go_enter Try.func42, Try.ntmps42
  go_wp2
  go_ret
  exact ⟨rfl, rfl⟩
set_option maxHeartbeats 400000 in
theorem outopen_bad (p : Nat) (A : Option Addr) (c : Nat) (l : List UInt8) (e : Int) (w : World) (h : OutAt w p A c l e) (he : e ≠ 0) :
    Calls Try.prog 42 #[.pointer (some ⟨p, 0, none⟩)] w fun r w' => r = .returned (.bool false) ∧ w = w' := by
  have c1 := h.c1
  clear h
  have h1 : (e == 0) = false := by simpa using he
  clear he
  go_enter Try.func42, Try.ntmps42
  go_wp2
  go_ret
  exact ⟨rfl, rfl⟩

theorem u8_of {n : Nat} (h : n < 256) : IntKind.u8.wrap (n : Int) = ((UInt8.ofNat n).toNat : Int) := by
  rw [toNat_ofNat h, IntKind.wrap_u8']; omega

set_option maxRecDepth 100000 in
set_option maxHeartbeats 800000 in
theorem outnum_ok (p : Nat) (A : Option Addr) (c : Nat) (l : List UInt8) (n : Nat) (w : World) (h : OutAt w p A c l 0) (hl : l.length ≤ 1099511627776) (hn : n < 9223372036854775808) :
    Calls Try.prog 40 #[.pointer (some ⟨p, 0, none⟩), .int .i64 n] w fun r w' => r = .returned (.tuple #[]) ∧ OutTo p A w (l ++ enc n, 0) w' := by
  have HI := Lib.hid h
  obtain ⟨i0, hi, hz0, hz1, hz2⟩ := info_parts byte_info
  clear h
  have hn' : (n : Int) ≤ 9223372036854775807 := by omega
  have hn0 : decide ((n : Int) < 0) = false := by simp
  have hlen := enc_le n hn
  go_enter Try.func40, Try.ntmps40
  go_wp2_with (go_at_call 42; refine (outopen_ok p A c l _ HI.out).mono ?_; rintro e w1 ⟨rfl, rfl⟩)
  go_loopw [1] (fun i wr => ∃ (m : Nat) (k : List UInt8) (A1 : Option Addr) (c1 : Nat), i = .int .i64 m ∧ m < 9223372036854775808 ∧ k.length ≤ 1099511627900 ∧ Hid (OutAt wr p A1 c1 k 0) ∧ Hid (OutStep p A w A1 wr) ∧ Hid (k ++ enc m = l ++ enc n))
    (fun i _ => (intOf i).toNat)
  case atStart => exact ⟨n, l, A, c, rfl, hn, by omega, HI, OutStep.refl _ _ _, rfl⟩
  case round =>
    obtain ⟨m, k, A1, cc, rfl, hm, hkl, H1, H2, H3⟩ := hrel
    have c0 := H1.out.c0
    have hown := Lib.hid H1.out.2
    have hcap := H3.out
    have hkl2 : k.length ≤ 1099511627785 := by
      have := congrArg List.length hcap
      have h1 := enc_pos m
      simp only [List.length_append] at this
      omega
    clear hcap hkl
    by_cases hlt : m < 128
    · go_wp2_with (at_builtin; refine wpList_append_own_at _ rfl (.tmp 32) (.tmp 35) 26 rfl 0 5 i0 (.int .u8 0) 1 1 Try.underlying26 hi hz0 hz1 hz2 rfl (by decide) (.slice A1 k.length cc) k.length (Lib.byteCells k) rfl (hown.out.alloc _) ⟨wr.heap.size, 0, none⟩ 1 1 _ rfl rfl (cell_one_new _ _ _) ?c2 ?c3 ?c4 ?c5 ?_)
      case c2 => intro u hu; simp at hu; subst hu; rfl
      case c3 => unfold maxLen; omega
      case c4 => omega
      case c5 => omega
      · intro v' w1 hown' hgrow _ hat
        obtain ⟨A2, c2, rfl, _⟩ := own_form hown'
        have hx := toNat_ofNat (n := m) (by omega)
        have HP := Lib.hid (out_push H1.out (b := UInt8.ofNat m) (by rw [hx]) hown' hgrow (by simpa using hat))
        have hm1 := out_mid H1.out hgrow
        have d0 := cell_at hm1 0
        have f0 := free_at hm1 0
        have H4 := Lib.hid hx
        clear hown' hgrow hat c0 hm1 hx
        go_wp2
        go_end0
        obtain ⟨q1, q2⟩ := HP.out
        have hfin := H3.out
        rw [enc_small hlt] at hfin
        exact ⟨rfl, A2, c2, by rw [← hfin]; exact q1, H2.out.trans q2⟩
    · go_wp2_with (at_builtin; refine wpList_append_own_at _ rfl (.tmp 19) (.tmp 24) 26 rfl 0 5 i0 (.int .u8 0) 1 1 Try.underlying26 hi hz0 hz1 hz2 rfl (by decide) (.slice A1 k.length cc) k.length (Lib.byteCells k) rfl (hown.out.alloc _) ⟨wr.heap.size, 0, none⟩ 1 1 _ rfl rfl (cell_one_new _ _ _) ?d2 ?d3 ?d4 ?d5 ?_)
      case d2 => intro u hu; simp at hu; subst hu; rfl
      case d3 => unfold maxLen; omega
      case d4 => omega
      case d5 => omega
      · intro v' w1 hown' hgrow _ hat
        obtain ⟨A2, c2, rfl, _⟩ := own_form hown'
        have hx := toNat_ofNat (n := m % 128 + 128) (by omega)
        have HP := Lib.hid (out_push H1.out (b := UInt8.ofNat (m % 128 + 128)) (by rw [hx]; omega) hown' hgrow (by simpa using hat))
        have hm1 := out_mid H1.out hgrow
        have d0 := cell_at hm1 0
        have f0 := free_at hm1 0
        have H4 := Lib.hid hx
        clear hown' hgrow hat c0 hm1 hx
        go_wp2

        go_roundw
        case rel =>
          obtain ⟨q1, q2⟩ := HP.out
          have hfin := H3.out
          rw [enc_big (by omega)] at hfin
          exact ⟨m / 128, _, A2, c2, by go_num, by omega, by simp; omega, q1, H2.out.trans q2, by show _ = _; rw [← hfin]; simp⟩
        case measure => simp [intOf]; omega

set_option maxRecDepth 100000 in
set_option maxHeartbeats 400000 in
theorem outnum_bad (p : Nat) (A : Option Addr) (c : Nat) (l : List UInt8) (e n : Int) (w : World) (h : OutAt w p A c l e) (he : e ≠ 0) :
    Calls Try.prog 40 #[.pointer (some ⟨p, 0, none⟩), .int .i64 n] w fun r w' => r = .returned (.tuple #[]) ∧ w = w' := by
  have HI := Lib.hid h
  clear h
  by_cases hn : n < 0
  · go_enter Try.func40, Try.ntmps40
    go_wp2_with (first | (go_at_call 42; refine (outopen_bad p A c l e _ HI.out he).mono ?_; rintro e w1 ⟨rfl, rfl⟩) | go_in)
    go_end0
    go_wp2_with (first | (go_at_call 42; refine (outopen_bad p A c l e _ HI.out he).mono ?_; rintro e w1 ⟨rfl, rfl⟩) | go_in)
    refine bodyPost_ret (results_none rfl _ _ _) rfl ?_
    exact ⟨rfl, rfl⟩
  · go_enter Try.func40, Try.ntmps40
    go_wp2_with (first | (go_at_call 42; refine (outopen_bad p A c l e _ HI.out he).mono ?_; rintro e w1 ⟨rfl, rfl⟩) | go_in)
    refine bodyPost_ret (results_none rfl _ _ _) rfl ?_
    exact ⟨rfl, rfl⟩

set_option maxRecDepth 100000 in
set_option maxHeartbeats 400000 in
theorem outnum_neg (p : Nat) (A : Option Addr) (c : Nat) (l : List UInt8) (n : Int) (w : World) (h : OutAt w p A c l 0) (hn : n < 0) :
    Calls Try.prog 40 #[.pointer (some ⟨p, 0, none⟩), .int .i64 n] w fun r w' => r = .returned (.tuple #[]) ∧ OutTo p A w ([], 1) w' := by
  have HI := Lib.hid h
  clear h
  go_enter Try.func40, Try.ntmps40
  go_wp2_with fail
  refine (outfail_any p A c l 1 _ HI.out).mono ?_
  rintro r w1 ⟨rfl, A1, c1, h1, hs1⟩
  have H1 := Lib.hid h1
  have HS := Lib.hid hs1
  clear h1 hs1
  go_wp2_with fail
  refine (outopen_bad p A1 c1 _ 1 _ H1.out (by decide)).mono ?_
  rintro r w2 ⟨rfl, rfl⟩
  go_wp2_with fail
  refine bodyPost_ret (results_none rfl _ _ _) rfl ?_
  exact ⟨rfl, A1, c1, H1.out, HS.out⟩

theorem outnum_any (p : Nat) (A : Option Addr) (c : Nat) (l : List UInt8) (e n : Int) (w : World) (h : OutAt w p A c l e) (hl : l.length ≤ 1099511627776) (hn : n ≤ 9223372036854775807) :
    Calls Try.prog 40 #[.pointer (some ⟨p, 0, none⟩), .int .i64 n] w fun r w' => r = .returned (.tuple #[]) ∧ OutTo p A w (numO l e n) w' := by
  by_cases he : e = 0
  · subst he
    by_cases h0 : n < 0
    · rw [show numO l 0 n = ([], 1) from by simp [numO, h0]]
      exact outnum_neg p A c l n w h h0
    · rw [show numO l 0 n = (l ++ enc n.toNat, 0) from by simp [numO, h0]]
      obtain ⟨k, rfl⟩ := Int.eq_ofNat_of_zero_le (show 0 ≤ n from by omega)
      exact outnum_ok p A c l k w h hl (by omega)
  · rw [show numO l e n = (l, e) from if_neg he]
    refine (outnum_bad p A c l e n w h he).mono fun r w' ⟨hr, hw⟩ => ?_
    subst hw
    exact ⟨hr, A, c, h, OutStep.refl _ _ _⟩

set_option maxRecDepth 100000 in
set_option maxHeartbeats 400000 in
theorem outraw_ok (p : Nat) (A : Option Addr) (c : Nat) (l : List UInt8) (s : ByteArray) (w : World) (h : OutAt w p A c l 0) (hl : l.length + s.size ≤ 2199023255552) :
    Calls Try.prog 43 #[.pointer (some ⟨p, 0, none⟩), .string s] w fun r w' => r = .returned (.tuple #[]) ∧ OutTo p A w (l ++ s.data.toList, 0) w' := by
  have HI := Lib.hid h
  obtain ⟨i0, hi, hz0, hz1, hz2⟩ := info_parts byte_info
  have c0 := h.c0
  have hown := Lib.hid h.2
  clear h
  go_enter Try.func43, Try.ntmps43
  go_wp2_with (first | (go_at_call 42; refine (outopen_ok p A c l _ HI.out).mono ?_; rintro e w1 ⟨rfl, rfl⟩) | (at_builtin; refine wpList_append_str_at _ rfl (.tmp 10) (.tmp 11) 26 9 rfl 0 5 i0 Try.underlying26 Try.underlying9 hi hz0 hz1 hz2 (.slice A l.length c) l.length (Lib.byteCells l) rfl hown.out s rfl ?c3 ?c4 ?c5 ?_))
  case c3 => unfold maxLen; omega
  case c4 => omega
  case c5 => omega
  · intro v' w1 hown' hgrow hat
    obtain ⟨A2, c2, rfl, _⟩ := own_form hown'
    have hsz := Lib.size_eq s
    have HP : Hid (OutAt (w1.setCell ⟨p, 0, none⟩ (.slice A2 (l.length + s.size) c2)) p A2 c2 (l ++ s.data.toList) 0 ∧ OutStep p A w A2 (w1.setCell ⟨p, 0, none⟩ (.slice A2 (l.length + s.size) c2))) := by
      have hl2 : l.length + s.size = (l ++ s.data.toList).length := by rw [List.length_append, ← hsz]
      rw [Lib.strCells_eq, ← Lib.byteCells_append, hl2] at hown'
      rw [hl2]
      rw [ownBlock_slice] at hgrow
      simp only [ownBlock_slice] at hat
      exact out_store HI.out hown' ((Keep.refl (fun k => blk A = some k) w).grown hgrow (fun k hk _ => hk)) hat
    have hm1 : w1.heap[p]? = some (.cells #[.slice A l.length c, .int .i64 0] 29 (0, 0)) := by
      rw [ownBlock_slice] at hgrow
      exact (hgrow.block p HI.out.lt HI.out.ne.symm).trans HI.out.1
    have d0 := cell_at hm1 0
    have f0 := free_at hm1 0
    clear hown' hgrow hat c0 hm1 hsz
    go_wp2
    go_end0
    exact ⟨rfl, A2, c2, HP.out.1, HP.out.2⟩

set_option maxRecDepth 100000 in
set_option maxHeartbeats 400000 in
theorem outraw_bad (p : Nat) (A : Option Addr) (c : Nat) (l : List UInt8) (e : Int) (s : ByteArray) (w : World) (h : OutAt w p A c l e) (he : e ≠ 0) :
    Calls Try.prog 43 #[.pointer (some ⟨p, 0, none⟩), .string s] w fun r w' => r = .returned (.tuple #[]) ∧ w = w' := by
  have HI := Lib.hid h
  clear h
  go_enter Try.func43, Try.ntmps43
  go_wp2_with (go_at_call 42; refine (outopen_bad p A c l e _ HI.out he).mono ?_; rintro e w1 ⟨rfl, rfl⟩)
  go_end0
  exact ⟨rfl, rfl⟩

theorem outraw_any (p : Nat) (A : Option Addr) (c : Nat) (l : List UInt8) (e : Int) (s : ByteArray) (w : World) (h : OutAt w p A c l e) (hl : l.length + s.size ≤ 2199023255552) :
    Calls Try.prog 43 #[.pointer (some ⟨p, 0, none⟩), .string s] w fun r w' => r = .returned (.tuple #[]) ∧ OutTo p A w (rawO l e s.data.toList) w' := by
  by_cases he : e = 0
  · subst he
    rw [show rawO l 0 s.data.toList = (l ++ s.data.toList, 0) from if_pos rfl]
    exact outraw_ok p A c l s w h hl
  · rw [show rawO l e s.data.toList = (l, e) from if_neg he]
    refine (outraw_bad p A c l e s w h he).mono fun r w' ⟨hr, hw⟩ => ?_
    subst hw
    exact ⟨hr, A, c, h, OutStep.refl _ _ _⟩

/-- A slice that is read: its cells; it lies in a block that none of B's calls turns. -/
def SliceAt (w : World) (B : Option Addr) (vs : List Value) (S : Nat → Prop) : Prop :=
  0 < vs.length → ∃ b off, B = some ⟨b, off, none⟩ ∧ b < w.heap.size ∧ ¬ S b ∧ ∀ i v, vs[i]? = some v → w.cell? ⟨b, off + i, none⟩ = some v

theorem numO_len (l : List UInt8) (e n : Int) (hn : n ≤ 9223372036854775807) : (numO l e n).1.length ≤ l.length + 9 := by
  unfold numO
  split
  · split
    · simp
    · have := enc_le n.toNat (by omega)
      simp; omega
  · simp

/-- What Num makes of it. -/
def numsO (l : List UInt8) (e : Int) (xs : List Int) : List UInt8 × Int := xs.foldl (fun st n => numO st.1 st.2 n) (l, e)
theorem numsO_snoc (l : List UInt8) (e : Int) (xs : List Int) (x : Int) : numsO l e (xs ++ [x]) = numO (numsO l e xs).1 (numsO l e xs).2 x := by simp [numsO]

theorem take_next {α : Type} {xs : List α} {k : Nat} {x : α} (h : xs[k]? = some x) : xs.take (k + 1) = xs.take k ++ [x] := by
  have hk : k < xs.length := by
    rcases Nat.lt_or_ge k xs.length with h1 | h1
    · exact h1
    · rw [List.getElem?_eq_none h1] at h; cases h
  rw [List.take_add_one, h]; rfl

set_option maxRecDepth 100000 in
set_option maxHeartbeats 800000 in
theorem outNum_any (p : Nat) (A : Option Addr) (c : Nat) (l : List UInt8) (e : Int) (B : Option Addr) (n cap : Nat) (xs : List Int) (w : World) (h : OutAt w p A c l e) (hx : SliceAt w B (xs.map (Value.int .i64)) (fun k => k = p ∨ blk A = some k))
    (hn : xs.length = n) (hi : ∀ x ∈ xs, x ≤ 9223372036854775807) (hl : l.length + 9 * n ≤ 1099511627776) :
    Calls Try.prog 14 #[.pointer (some ⟨p, 0, none⟩), .slice B n cap] w fun r w' => r = .returned (.pointer (some ⟨p, 0, none⟩)) ∧ OutTo p A w (numsO l e xs) w' := by
  have HI := Lib.hid h
  have HX := Lib.hid hx
  have HN := Lib.hid hn
  have HB := Lib.hid hi
  clear h hx hn hi
  have hsm : n ≤ 9223372036854775807 := by omega
  go_enter Try.func14, Try.ntmps14
  go_wp2_with fail
  go_loopw [6, 9] (fun _ i wr => ∃ (k : Nat) (A1 : Option Addr) (c1 : Nat), k ≤ n ∧ i = .int .i64 k ∧ (numsO l e (xs.take k)).1.length ≤ l.length + 9 * k ∧ Hid (OutAt wr p A1 c1 (numsO l e (xs.take k)).1 (numsO l e (xs.take k)).2) ∧ Hid (OutStep p A w A1 wr))
    (fun _ i _ => n - (intOf i).toNat)
  case atStart => exact ⟨0, A, c, by omega, rfl, by simp [numsO], HI, OutStep.refl _ _ _⟩
  case round =>
    obtain ⟨k, A1, c1, hk, rfl, hlen, H1, H2⟩ := hrel
    by_cases hlt : k < n
    · obtain ⟨x, hxk⟩ : ∃ x, xs[k]? = some x := ⟨xs[k]'(by rw [HN.out]; exact hlt), List.getElem?_eq_getElem _⟩
      obtain ⟨b, off, rfl, hb, hs, hc⟩ := HX.out (by rw [List.length_map, HN.out]; omega)
      have hcx : wr.cell? ⟨b, off + k, none⟩ = some (.int .i64 x) := (H2.out.1.cell hb hs).trans (hc k _ (by rw [List.getElem?_map, hxk]; rfl))
      have hxb := HB.out x (List.mem_of_getElem? hxk)
      have H3 := Lib.hid (take_next hxk)
      generalize hst : numsO l e (xs.take k) = st at *
      have HST := Lib.hid hst
      clear hst hc hs hb
      go_wp2_with (go_at_call 40; refine (outnum_any p A1 c1 _ _ _ _ H1.out (by omega) hxb).mono ?_; rintro e w1 ⟨rfl, A2, c2, h1, hs1⟩)
      go_roundw
      case rel =>
        have e1 : numsO l e (xs.take (k + 1)) = numO st.1 st.2 x := by rw [H3.out, numsO_snoc, HST.out]
        refine ⟨k + 1, A2, c2, by omega, by go_num, ?_, ?_, H2.out.trans hs1⟩
        · rw [e1]; have := numO_len st.1 st.2 x hxb; omega
        · show OutAt _ _ _ _ _ _
          rw [e1]; exact h1
      case measure => simp [intOf]; omega
    · go_wp2
      go_ret
      have hkn : k = n := by omega
      have hfin := H1.out
      rw [List.take_of_length_le (by rw [HN.out]; omega)] at hfin
      exact ⟨rfl, A1, c1, hfin, H2.out⟩

set_option maxHeartbeats 400000 in
theorem outfail_bad (p : Nat) (A : Option Addr) (c : Nat) (l : List UInt8) (e f : Int) (w : World) (h : OutAt w p A c l e) (he : e ≠ 0) :
    Calls Try.prog 41 #[.pointer (some ⟨p, 0, none⟩), .int .i64 f] w fun r w' => r = .returned (.tuple #[]) ∧ w = w' := by
  have HI := Lib.hid h
  clear h
  go_enter Try.func41, Try.ntmps41
  go_wp2_with (go_at_call 42; refine (outopen_bad p A c l e _ HI.out he).mono ?_; rintro e w1 ⟨rfl, rfl⟩)
  go_end0
  exact ⟨rfl, rfl⟩

theorem byteO_len (l : List UInt8) (e n : Int) : (byteO l e n).1.length ≤ l.length + 1 := by
  unfold byteO
  split
  · split <;> simp
  · simp

/-- What Byte makes of it. -/
def bytesO (l : List UInt8) (e : Int) (xs : List Int) : List UInt8 × Int := xs.foldl (fun st n => byteO st.1 st.2 n) (l, e)
theorem bytesO_snoc (l : List UInt8) (e : Int) (xs : List Int) (x : Int) : bytesO l e (xs ++ [x]) = byteO (bytesO l e xs).1 (bytesO l e xs).2 x := by simp [bytesO]

theorem u8_wrap {x : Int} (h1 : 0 ≤ x) (h2 : x ≤ 255) : x = ((UInt8.ofNat x.toNat).toNat : Int) := by
  rw [toNat_ofNat (by omega)]; omega

set_option maxRecDepth 100000 in
set_option maxHeartbeats 1600000 in
theorem outByte_any (p : Nat) (A : Option Addr) (c : Nat) (l : List UInt8) (e : Int) (B : Option Addr) (n cap : Nat) (xs : List Int) (w : World) (h : OutAt w p A c l e) (hx : SliceAt w B (xs.map (Value.int .i64)) (fun k => k = p ∨ blk A = some k))
    (hn : xs.length = n) (hl : l.length + n ≤ 1099511627776) :
    Calls Try.prog 16 #[.pointer (some ⟨p, 0, none⟩), .slice B n cap] w fun r w' => r = .returned (.pointer (some ⟨p, 0, none⟩)) ∧ OutTo p A w (bytesO l e xs) w' := by
  have HI := Lib.hid h
  have HX := Lib.hid hx
  have HN := Lib.hid hn
  obtain ⟨i0, hi, hz0, hz1, hz2⟩ := info_parts byte_info
  clear h hx hn
  have hsm : n ≤ 9223372036854775807 := by omega
  go_enter Try.func16, Try.ntmps16
  go_wp2_with fail
  go_loopw [6, 9] (fun _ i wr => ∃ (k : Nat) (A1 : Option Addr) (c1 : Nat), k ≤ n ∧ i = .int .i64 k ∧ (bytesO l e (xs.take k)).1.length ≤ l.length + k ∧ Hid (OutAt wr p A1 c1 (bytesO l e (xs.take k)).1 (bytesO l e (xs.take k)).2) ∧ Hid (OutStep p A w A1 wr))
    (fun _ i _ => n - (intOf i).toNat)
  case atStart => exact ⟨0, A, c, by omega, rfl, by simp [bytesO], HI, OutStep.refl _ _ _⟩
  case round =>
    obtain ⟨k, A1, c1, hk, rfl, hlen, H1, H2⟩ := hrel
    by_cases hlt : k < n
    · obtain ⟨x, hxk⟩ : ∃ x, xs[k]? = some x := ⟨xs[k]'(by rw [HN.out]; exact hlt), List.getElem?_eq_getElem _⟩
      obtain ⟨b, off, rfl, hb, hs, hc⟩ := HX.out (by rw [List.length_map, HN.out]; omega)
      have hcx : wr.cell? ⟨b, off + k, none⟩ = some (.int .i64 x) := (H2.out.1.cell hb hs).trans (hc k _ (by rw [List.getElem?_map, hxk]; rfl))
      have e1 : bytesO l e (xs.take (k + 1)) = byteO (bytesO l e (xs.take k)).1 (bytesO l e (xs.take k)).2 x := by rw [take_next hxk, bytesO_snoc]
      have H3 := Lib.hid e1
      obtain ⟨m, f, hst⟩ : ∃ m f, bytesO l e (xs.take k) = (m, f) := ⟨_, _, rfl⟩
      rw [hst] at H1 H3 hlen
      simp only at H1 H3 hlen
      clear hst hc hs hb e1 hxk
      by_cases hf : f = 0
      · subst hf
        by_cases hx0 : 0 ≤ x ∧ x ≤ 255
        · obtain ⟨hx0, hx1⟩ := hx0
          have c0 := H1.out.c0
          have hown := Lib.hid H1.out.2
          go_wp2_with (first | (go_at_call 42; refine (outopen_ok p A1 c1 m _ H1.out).mono ?_; rintro e w1 ⟨rfl, rfl⟩) | (at_builtin; refine wpList_append_own_at _ rfl (.tmp 27) (.tmp 30) 26 rfl 0 5 i0 (.int .u8 0) 1 1 Try.underlying26 hi hz0 hz1 hz2 rfl (by decide) (.slice A1 m.length c1) m.length (Lib.byteCells m) rfl (hown.out.alloc _) ⟨wr.heap.size, 0, none⟩ 1 1 _ rfl rfl (cell_one_new _ _ _) ?d2 ?d3 ?d4 ?d5 ?_))
          case d2 => intro u hu; simp at hu; subst hu; rfl
          case d3 => unfold maxLen; omega
          case d4 => omega
          case d5 => omega
          · intro v' w1 hown' hgrow _ hat
            obtain ⟨A2, c2, rfl, _⟩ := own_form hown'
            have HP := Lib.hid (out_push H1.out (b := UInt8.ofNat x.toNat) (u8_wrap hx0 hx1) hown' hgrow (by simpa using hat))
            have hm1 := out_mid H1.out hgrow
            have d0 := cell_at hm1 0
            have f0 := free_at hm1 0
            clear hown' hgrow hat c0 hm1
            go_wp2
            go_roundw
            case rel =>
              obtain ⟨q1, q2⟩ := HP.out
              have e2 : byteO m 0 x = (m ++ [UInt8.ofNat x.toNat], 0) := by rw [byteO, if_pos rfl, if_neg (by omega)]
              refine ⟨k + 1, A2, c2, by omega, by go_num, ?_, ?_, H2.out.trans q2⟩
              · rw [H3.out, e2]; simp; omega
              · show OutAt _ _ _ _ _ _
                rw [H3.out, e2]; exact q1
            case measure => simp [intOf]; omega
        · have e2 : byteO m 0 x = ([], 1) := by rw [byteO, if_pos rfl, if_pos (by omega)]
          have H4 := Lib.hid e2
          clear e2
          have hcase : x < 0 ∨ 255 < x := by omega
          rcases hcase with hx0 | hx0
          all_goals
            go_wp2_with (first | (go_at_call 42; refine (outopen_bad p _ _ _ 1 _ (by assumption) (by decide)).mono ?_; rintro e w2 ⟨rfl, rfl⟩) | (go_at_call 41; refine (outfail_any p A1 c1 m 1 _ H1.out).mono ?_; rintro e w1 ⟨rfl, A2, c2, h1, hs1⟩))
            go_roundw
            case rel =>
              refine ⟨k + 1, A2, c2, by omega, by go_num, ?_, ?_, H2.out.trans hs1⟩
              · rw [H3.out, H4.out]; simp
              · show OutAt _ _ _ _ _ _
                rw [H3.out, H4.out]; exact h1
            case measure => simp [intOf]; omega
      · have e2 : byteO m f x = (m, f) := by rw [byteO, if_neg hf]
        have H4 := Lib.hid e2
        clear e2
        go_wp2_with (first | (go_at_call 42; refine (outopen_bad p A1 c1 m f _ H1.out hf).mono ?_; rintro e w2 ⟨rfl, rfl⟩) | (go_at_call 41; refine (outfail_bad p A1 c1 m f 1 _ H1.out hf).mono ?_; rintro e w1 ⟨rfl, rfl⟩))
        all_goals
          go_roundw
          case rel =>
            refine ⟨k + 1, A1, c1, by omega, by go_num, ?_, ?_, H2.out⟩
            · rw [H3.out, H4.out]; simp; omega
            · show OutAt _ _ _ _ _ _
              rw [H3.out, H4.out]; exact H1.out
          case measure => simp [intOf]; omega
    · go_wp2
      go_ret
      have hkn : k = n := by omega
      have hfin := H1.out
      rw [List.take_of_length_le (by rw [HN.out]; omega)] at hfin
      exact ⟨rfl, A1, c1, hfin, H2.out⟩

/-- What Raw makes of it. -/
def rawsO (l : List UInt8) (e : Int) (xs : List ByteArray) : List UInt8 × Int := xs.foldl (fun st s => rawO st.1 st.2 s.data.toList) (l, e)
theorem rawsO_snoc (l : List UInt8) (e : Int) (xs : List ByteArray) (x : ByteArray) : rawsO l e (xs ++ [x]) = rawO (rawsO l e xs).1 (rawsO l e xs).2 x.data.toList := by simp [rawsO]
/-- What Text makes of it. -/
def textO (l : List UInt8) (e : Int) (s : ByteArray) : List UInt8 × Int := rawO (numO l e s.size).1 (numO l e s.size).2 s.data.toList
def textsO (l : List UInt8) (e : Int) (xs : List ByteArray) : List UInt8 × Int := xs.foldl (fun st s => textO st.1 st.2 s) (l, e)
theorem textsO_snoc (l : List UInt8) (e : Int) (xs : List ByteArray) (x : ByteArray) : textsO l e (xs ++ [x]) = textO (textsO l e xs).1 (textsO l e xs).2 x := by simp [textsO]

/-- How many bytes texts have. -/
def sum (xs : List ByteArray) : Nat := (xs.map (·.size)).foldr (· + ·) 0
theorem sum_snoc (xs : List ByteArray) (x : ByteArray) : sum (xs ++ [x]) = sum xs + x.size := by
  induction xs with
  | nil => simp [sum]
  | cons y r ih => simp only [sum, List.cons_append, List.map_cons, List.foldr_cons] at ih ⊢; omega
theorem sum_take (xs : List ByteArray) (k : Nat) : sum (xs.take k) ≤ sum xs := by
  induction xs generalizing k with
  | nil => simp
  | cons y r ih =>
    cases k with
    | zero => simp [sum]
    | succ k => have := ih k; simp only [sum, List.take_succ_cons, List.map_cons, List.foldr_cons] at this ⊢; omega

theorem rawO_len (l : List UInt8) (e : Int) (s : ByteArray) : (rawO l e s.data.toList).1.length ≤ l.length + s.size := by
  have := Lib.size_eq s
  unfold rawO
  split <;> simp <;> omega
theorem textO_len (l : List UInt8) (e : Int) (s : ByteArray) (hs : s.size ≤ 9223372036854775807) : (textO l e s).1.length ≤ l.length + 9 + s.size := by
  have h1 := numO_len l e s.size (by omega)
  have h2 := rawO_len (numO l e s.size).1 (numO l e s.size).2 s
  unfold textO
  omega

set_option maxRecDepth 100000 in
set_option maxHeartbeats 800000 in
theorem outRaw_any (p : Nat) (A : Option Addr) (c : Nat) (l : List UInt8) (e : Int) (B : Option Addr) (n cap : Nat) (xs : List ByteArray) (w : World) (h : OutAt w p A c l e) (hx : SliceAt w B (xs.map Value.string) (fun k => k = p ∨ blk A = some k))
    (hn : xs.length = n) (hn2 : n ≤ 1099511627776) (hl : l.length + sum xs ≤ 1099511627776) :
    Calls Try.prog 19 #[.pointer (some ⟨p, 0, none⟩), .slice B n cap] w fun r w' => r = .returned (.pointer (some ⟨p, 0, none⟩)) ∧ OutTo p A w (rawsO l e xs) w' := by
  have HI := Lib.hid h
  have HX := Lib.hid hx
  have HN := Lib.hid hn
  clear h hx hn
  go_enter Try.func19, Try.ntmps19
  go_wp2_with fail
  go_loopw [6, 9] (fun _ i wr => ∃ (k : Nat) (A1 : Option Addr) (c1 : Nat), k ≤ n ∧ i = .int .i64 k ∧ (rawsO l e (xs.take k)).1.length ≤ l.length + sum (xs.take k) ∧ Hid (OutAt wr p A1 c1 (rawsO l e (xs.take k)).1 (rawsO l e (xs.take k)).2) ∧ Hid (OutStep p A w A1 wr))
    (fun _ i _ => n - (intOf i).toNat)
  case atStart => exact ⟨0, A, c, by omega, rfl, by simp [rawsO], HI, OutStep.refl _ _ _⟩
  case round =>
    obtain ⟨k, A1, c1, hk, rfl, hlen, H1, H2⟩ := hrel
    by_cases hlt : k < n
    · obtain ⟨x, hxk⟩ : ∃ x, xs[k]? = some x := ⟨xs[k]'(by rw [HN.out]; exact hlt), List.getElem?_eq_getElem _⟩
      obtain ⟨b, off, rfl, hb, hs, hc⟩ := HX.out (by rw [List.length_map, HN.out]; omega)
      have hcx : wr.cell? ⟨b, off + k, none⟩ = some (.string x) := (H2.out.1.cell hb hs).trans (hc k _ (by rw [List.getElem?_map, hxk]; rfl))
      have e1 : rawsO l e (xs.take (k + 1)) = rawO (rawsO l e (xs.take k)).1 (rawsO l e (xs.take k)).2 x.data.toList := by rw [take_next hxk, rawsO_snoc]
      have hsum : sum (xs.take (k + 1)) = sum (xs.take k) + x.size := by rw [take_next hxk, sum_snoc]
      have hsl := sum_take xs (k + 1)
      have H3 := Lib.hid e1
      have H5 := Lib.hid hsum
      have hbd : sum (xs.take k) + x.size ≤ sum xs := by omega
      obtain ⟨m, f, hst⟩ : ∃ m f, rawsO l e (xs.take k) = (m, f) := ⟨_, _, rfl⟩
      rw [hst] at H1 H3 hlen
      simp only at H1 H3 hlen
      clear hst hc hs hb e1 hxk hsum hsl
      go_wp2_with (go_at_call 43; refine (outraw_any p A1 c1 _ _ _ _ H1.out (by omega)).mono ?_; rintro e w1 ⟨rfl, A2, c2, h1, hs1⟩)
      go_roundw
      case rel =>
        refine ⟨k + 1, A2, c2, by omega, by go_num, ?_, ?_, H2.out.trans hs1⟩
        · rw [H3.out, H5.out]; have := rawO_len m f x; omega
        · show OutAt _ _ _ _ _ _
          rw [H3.out]; exact h1
      case measure => simp [intOf]; omega
    · go_wp2
      go_ret
      have hkn : k = n := by omega
      have hfin := H1.out
      rw [List.take_of_length_le (by rw [HN.out]; omega)] at hfin
      exact ⟨rfl, A1, c1, hfin, H2.out⟩

set_option maxRecDepth 100000 in
set_option maxHeartbeats 800000 in
theorem outText_any (p : Nat) (A : Option Addr) (c : Nat) (l : List UInt8) (e : Int) (B : Option Addr) (n cap : Nat) (xs : List ByteArray) (w : World) (h : OutAt w p A c l e) (hx : SliceAt w B (xs.map Value.string) (fun k => k = p ∨ blk A = some k))
    (hn : xs.length = n) (hl : l.length + sum xs + 9 * n ≤ 1099511627776) :
    Calls Try.prog 17 #[.pointer (some ⟨p, 0, none⟩), .slice B n cap] w fun r w' => r = .returned (.pointer (some ⟨p, 0, none⟩)) ∧ OutTo p A w (textsO l e xs) w' := by
  have HI := Lib.hid h
  have HX := Lib.hid hx
  have HN := Lib.hid hn
  clear h hx hn
  go_enter Try.func17, Try.ntmps17
  go_wp2_with fail
  go_loopw [6, 9] (fun _ i wr => ∃ (k : Nat) (A1 : Option Addr) (c1 : Nat), k ≤ n ∧ i = .int .i64 k ∧ (textsO l e (xs.take k)).1.length ≤ l.length + sum (xs.take k) + 9 * k ∧ Hid (OutAt wr p A1 c1 (textsO l e (xs.take k)).1 (textsO l e (xs.take k)).2) ∧ Hid (OutStep p A w A1 wr))
    (fun _ i _ => n - (intOf i).toNat)
  case atStart => exact ⟨0, A, c, by omega, rfl, by simp [textsO], HI, OutStep.refl _ _ _⟩
  case round =>
    obtain ⟨k, A1, c1, hk, rfl, hlen, H1, H2⟩ := hrel
    by_cases hlt : k < n
    · obtain ⟨x, hxk⟩ : ∃ x, xs[k]? = some x := ⟨xs[k]'(by rw [HN.out]; exact hlt), List.getElem?_eq_getElem _⟩
      obtain ⟨b, off, rfl, hb, hs, hc⟩ := HX.out (by rw [List.length_map, HN.out]; omega)
      have hcx : wr.cell? ⟨b, off + k, none⟩ = some (.string x) := (H2.out.1.cell hb hs).trans (hc k _ (by rw [List.getElem?_map, hxk]; rfl))
      have e1 : textsO l e (xs.take (k + 1)) = textO (textsO l e (xs.take k)).1 (textsO l e (xs.take k)).2 x := by rw [take_next hxk, textsO_snoc]
      have hsum : sum (xs.take (k + 1)) = sum (xs.take k) + x.size := by rw [take_next hxk, sum_snoc]
      have hsl := sum_take xs (k + 1)
      have H3 := Lib.hid e1
      have H5 := Lib.hid hsum
      have hbd : sum (xs.take k) + x.size ≤ sum xs := by omega
      obtain ⟨m, f, hst⟩ : ∃ m f, textsO l e (xs.take k) = (m, f) := ⟨_, _, rfl⟩
      rw [hst] at H1 H3 hlen
      simp only at H1 H3 hlen
      have hnl := numO_len m f x.size (by omega)
      clear hst hc hs hb e1 hxk hsum hsl
      go_wp2_with (first | (go_at_call 40; refine (outnum_any p A1 c1 _ _ _ _ H1.out (by omega) (by omega)).mono ?_; rintro e w1 ⟨rfl, A2, c2, h1, hs1⟩) | (go_at_call 43; refine (outraw_any p A2 c2 _ _ _ _ h1 (by omega)).mono ?_; rintro e w2 ⟨rfl, A3, c3, h2, hs2⟩))
      go_roundw
      case rel =>
        refine ⟨k + 1, A3, c3, by omega, by go_num, ?_, ?_, (H2.out.trans hs1).trans hs2⟩
        · rw [H3.out, H5.out]; have := textO_len m f x (by omega); omega
        · show OutAt _ _ _ _ _ _
          rw [H3.out]; exact h2
      case measure => simp [intOf]; omega
    · go_wp2
      go_ret
      have hkn : k = n := by omega
      have hfin := H1.out
      rw [List.take_of_length_le (by rw [HN.out]; omega)] at hfin
      exact ⟨rfl, A1, c1, hfin, H2.out⟩

end Go.Proofs.Ytlinmnlfcboicaa
