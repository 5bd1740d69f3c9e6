/- pontoonbook.Book: ints: marks, what is alike. Own work. -/
import Derived.Test.YthmogbldfecckaaBkMark
import Derived.Test.YthmogbldfecckaaBkSameI
namespace Go.Proofs.Ythmogbldfecckaa
set_option linter.unusedVariables false
set_option linter.unusedSimpArgs false
open Go.RowKit

def markI (i k : Nat) : Int := -1000000 * (i : Int) - (k : Int) - 7
def mkInts (i k : Nat) : List Value := [.int .i64 (markI i k)]
theorem mkshape_Ints (i k : Nat) : ∃ m, mkInts i k = [.int .i64 m] := ⟨_, rfl⟩
theorem mkok_Ints : MarkOk 1 mkInts := ⟨by decide, fun _ _ => rfl, fun _ _ u hu => by simp [mkInts] at hu; subst hu; rfl⟩
theorem info_Ints : (Try.prog.info? 3).map (fun i => (i.zero, i.size, i.bytes)) = some (some (.int .i64 0), 1, 8) := int_info

set_option maxRecDepth 100000 in
set_option maxHeartbeats 800000 in
theorem marks_Ints (i f n : Nat) (w : World) (hi : i ≤ 1000000) (hf : f + n ≤ 1000000) :
    Calls Try.prog 72 #[.int .i64 i, .int .i64 f, .int .i64 n] w fun e w' => ∃ v, e = .returned v ∧ w'.ownsRow w.heap.size 3 1 v n (marksZ mkInts i f n) ∧ Below w.heap.size w w' := by
  obtain ⟨i0, hi0, hz0, hz1, hz2⟩ := info_parts int_info
  go_enter Try.func72, Try.ntmps72
  go_wp2_with fail
  go_loopw [7, 8] (fun v x wr => ∃ k : Nat, k ≤ n ∧ x = .int .i64 ((f + k : Nat) : Int) ∧ Hid (wr.ownsRow w.heap.size 3 1 v k (marksZ mkInts i f k)) ∧ Hid (Below w.heap.size w wr)) (fun _ x _ => f + n - (intOf x).toNat)
  case atStart => exact ⟨0, Nat.zero_le _, rfl, World.ownsRow_nil _ _ _ _, Below.refl _ _⟩
  case round =>
    obtain ⟨k, hk, rfl, HO, HB⟩ := hrel
    by_cases hlt : k < n
    · have hfk : f + k ≤ 1000000 := by omega
      have hs1 : w.heap.size ≤ wr.heap.size := HB.out.size
      obtain ⟨m, hm⟩ : ∃ m, markI i (f + k) = m := ⟨_, rfl⟩
      have hw : -1000000 * (i : Int) - ((f : Int) + (k : Int)) - 7 = m := by rw [← hm]; simp [markI]
      have HMM := Lib.hid hm
      clear hm
      go_wp2_with (at_builtin; refine wpList_own_at _ rfl (.tmp 17) (.tmp 23) 39 rfl w.heap.size 3 i0 (.int .i64 0) 1 8 Try.underlying39 hi0 hz0 hz1 hz2 rfl (by decide) _ k (marksZ mkInts i f k) rfl (own_keep HO.out ((Keep.refl (fun _ => False) wr).alloc _) (fun _ _ x => x)) ⟨wr.heap.size, 0, none⟩ 1 1 [.int .i64 m] rfl rfl (cells_new wr [.int .i64 m] _ _ rfl) (by intro u hu; simp at hu; subst hu; rfl) ?c3 ?c4 ?c5 ?_)
      case c3 => unfold maxLen; omega
      case c4 => omega
      case c5 => simp; omega
      · intro v' w2 hown hgrow _
        have HO2 : Hid (w2.ownsRow w.heap.size 3 1 v' (k + 1) (marksZ mkInts i f (k + 1))) := by
          show World.ownsRow _ _ _ _ _ _ _
          rw [marksZ_succ, mkInts, HMM.out]
          exact hown
        have HB2 : Hid (Below w.heap.size w w2) := Lib.hid ((HB.out.alloc hs1 _).trans (hgrow.below (by simp; omega) (fun q hq e => by have := (HO.out.lt q e).1; omega)))
        clear hown hgrow
        go_wp2_with fail
        go_roundw
        case rel => exact ⟨k + 1, by omega, by go_num, HO2, HB2⟩
        case measure => simp [intOf]; omega
    · have e : k = n := by omega
      have HO2 : Hid (wr.ownsRow w.heap.size 3 1 u7 n (marksZ mkInts i f n)) := by
        show World.ownsRow _ _ _ _ _ _ _
        rw [← e]; exact HO.out
      clear e HO
      go_wp2_with fail
      go_ret
      exact ⟨_, rfl, HO2.out, HB.out⟩

/-- Two lists of ints are alike. -/
def SmInts (rd : Nat → Prop) (w : World) (us vs : List Value) : Prop := ∃ xs : List Int, us = xs.map (Value.int .i64) ∧ vs = xs.map (Value.int .i64)
theorem smkept_Ints (rd : Nat → Prop) : SmKept (SmInts rd) rd := fun _ _ _ _ _ _ _ h => h
theorem marks_is_Ints (i f n : Nat) : marksZ mkInts i f n = ((List.range n).map fun j => markI i (f + j)).map (Value.int .i64) := by
  induction n with
  | zero => rfl
  | succ n ih => rw [marksZ_succ, ih]; simp [List.range_succ, mkInts]
theorem smmark_Ints (rd : Nat → Prop) (w : World) (i n : Nat) : SmInts rd w (marksZ mkInts i 0 n) (marksZ mkInts i 0 n) := ⟨_, marks_is_Ints i 0 n, marks_is_Ints i 0 n⟩
theorem same'_Ints (rd : Nat → Prop) (A B : Option Addr) (n c d : Nat) (us vs : List Value) (w : World) (hA : Src w A (n * 1) us) (hB : Src w B (n * 1) vs) (h : SmInts rd w us vs) (hn : n ≤ 1099511627776) :
    Calls Try.prog 16 #[.slice A n c, .slice B n d] w fun e w' => e = .returned (.bool true) ∧ ∃ k, w' = w.drewN k := by
  obtain ⟨xs, rfl, rfl⟩ := h
  rw [Nat.mul_one] at hA hB
  exact sameI_Ints A B n c d xs w hA hB hn

end Go.Proofs.Ythmogbldfecckaa
