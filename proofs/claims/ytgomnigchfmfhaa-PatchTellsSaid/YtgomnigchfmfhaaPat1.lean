/- patch: flag, isPlace, isWrong, sameSize, the functions of slices. Own work. -/
import Derived.Test.YtgomnigchfmfhaaPatM
import Derived.Test.YtgomnigchfmfhaaGridS
import Derived.Test.YtgomnigchfmfhaaCellA
import Derived.Deep.QuietTactic
import Derived.BigQuiet
namespace Go.Proofs.Ytgomnigchfmfhaa
set_option linter.unusedVariables false
set_option linter.unusedSimpArgs false
open Go.RowKit

/-- A screen as a value: its cells lie at A. -/
def Scr.v (s : Scr) (A : Option Addr) (c : Nat) : Value := .agg #[.int .i64 s.W, .int .i64 s.H, .slice A s.n c, .int .i64 s.X, .int .i64 s.Y, .bool s.hid]
def Scr.cs (s : Scr) (A : Option Addr) (c : Nat) : Array Value := #[.int .i64 s.W, .int .i64 s.H, .slice A s.n c, .int .i64 s.X, .int .i64 s.Y, .bool s.hid]
/-- Its cells lie there. -/
def Scr.at' (s : Scr) (w : World) (A : Option Addr) : Prop := Src w A (s.n * 6) (flatF s.F s.n)
theorem Scr.at'.keep {s : Scr} {w w' : World} {A : Option Addr} (h : s.at' w A) (k : Keep (fun _ => False) w w') : s.at' w' A := Src.keep h k

theorem patch_flag (b : Bool) (w : World) :
    Calls Try.prog 23 #[.bool b] w fun e w' => e = .returned (.int .i64 (if b = true then 1 else 0)) ∧ w' = w := by
  cases b
  all_goals
    go_enter Try.func23, Try.ntmps23
    go_wp2_with fail
    go_ret
    exact ⟨rfl, rfl⟩
theorem patch_isPlace (n m : Int) (w : World) :
    Calls Try.prog 30 #[.int .i64 n, .int .i64 m] w fun e w' => e = .returned (.bool (decide (0 ≤ n ∧ n < m))) ∧ w' = w := by
  by_cases h1 : n ≥ 0
  · by_cases h2 : n < m
    · rw [show decide (0 ≤ n ∧ n < m) = true from decide_eq_true ⟨h1, h2⟩]
      go_enter Try.func30, Try.ntmps30
      go_wp2_with fail
      go_ret
      exact ⟨rfl, rfl⟩
    · rw [show decide (0 ≤ n ∧ n < m) = false from decide_eq_false (fun e => h2 e.2)]
      go_enter Try.func30, Try.ntmps30
      go_wp2_with fail
      go_ret
      exact ⟨rfl, rfl⟩
  · rw [show decide (0 ≤ n ∧ n < m) = false from decide_eq_false (fun e => h1 e.1)]
    go_enter Try.func30, Try.ntmps30
    go_wp2_with fail
    go_ret
    exact ⟨rfl, rfl⟩
theorem patch_isWrong (c : CellM) (w : World) :
    Calls Try.prog 32 #[c.v] w fun e w' => e = .returned (.bool (!decide (okC c))) ∧ Below w.heap.size w w' := by
  obtain ⟨r, a⟩ := c
  have HV := Lib.hid (fun V => cell_valid a V (decide a.ok) rfl)
  simp only [CellM.v, At.v] at HV ⊢
  by_cases h1 : r < 0
  · rw [show decide (okC ⟨r, a⟩) = false from decide_eq_false (fun e => by have := e.1; simp only at this; omega)]
    go_enter Try.func32, Try.ntmps32
    go_wp2_with fail
    go_ret
    exact ⟨rfl, below_box ..⟩
  · by_cases h2 : r > 1114111
    · rw [show decide (okC ⟨r, a⟩) = false from decide_eq_false (fun e => by have := e.1; simp only at this; omega)]
      go_enter Try.func32, Try.ntmps32
      go_wp2_with fail
      go_ret
      exact ⟨rfl, below_box ..⟩
    · have hd : decide (okC ⟨r, a⟩) = decide a.ok := by
        by_cases e : a.ok
        · rw [decide_eq_true e, decide_eq_true (show okC ⟨r, a⟩ from ⟨⟨by show 0 ≤ r; omega, by show r ≤ 1114111; omega⟩, e⟩)]
        · rw [decide_eq_false e, decide_eq_false (fun x : okC ⟨r, a⟩ => e x.2)]
      rw [hd]
      generalize decide a.ok = b at HV
      clear hd
      go_enter Try.func32, Try.ntmps32
      go_wp2_with fail
      refine (HV.out _).mono ?_
      rintro e w1 ⟨rfl, hb⟩
      have HB : Hid (Below w.heap.size w w1) := Lib.hid ((below_box w _).trans (hb.mono (by simp)))
      clear hb HV
      cases b
      all_goals
        go_wp2_with fail
        go_ret
        exact ⟨rfl, HB.out⟩
theorem patch_sameSize (a b : Scr) (A B : Option Addr) (c d : Nat) (w : World) :
    Calls Try.prog 33 #[a.v A c, b.v B d] w fun e w' => e = .returned (.bool (sizeB a b)) ∧ Below w.heap.size w w' := by
  obtain ⟨W, H, n, F, X, Y, hi⟩ := a
  obtain ⟨W', H', n', F', X', Y', hi'⟩ := b
  simp only [Scr.v, sizeB]
  by_cases h1 : W = W'
  · subst h1
    by_cases h2 : H = H'
    · subst h2
      rw [show decide (W = W ∧ H = H) = true from decide_eq_true ⟨rfl, rfl⟩]
      have e1 : (W == W) = true := by simp
      have e2 : (H == H) = true := by simp
      go_enter Try.func33, Try.ntmps33
      go_wp2_with fail
      go_ret
      exact ⟨rfl, ((Below.refl _ w).alloc (Nat.le_refl _) _).alloc (by simp) _⟩
    · rw [show decide (W = W ∧ H = H') = false from decide_eq_false (fun e => h2 e.2)]
      have e1 : (W == W) = true := by simp
      have e2 : (H == H') = false := by simpa using h2
      go_enter Try.func33, Try.ntmps33
      go_wp2_with fail
      go_ret
      exact ⟨rfl, ((Below.refl _ w).alloc (Nat.le_refl _) _).alloc (by simp) _⟩
  · rw [show decide (W = W' ∧ H = H') = false from decide_eq_false (fun e => h1 e.1)]
    have e1 : (W == W') = false := by simpa using h1
    go_enter Try.func33, Try.ntmps33
    go_wp2_with fail
    go_ret
    exact ⟨rfl, ((Below.refl _ w).alloc (Nat.le_refl _) _).alloc (by simp) _⟩

end Go.Proofs.Ytgomnigchfmfhaa
