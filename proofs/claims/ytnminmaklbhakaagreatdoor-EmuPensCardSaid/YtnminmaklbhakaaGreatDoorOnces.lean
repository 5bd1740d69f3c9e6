/- sync.Once, in one goroutine: Do, the first time and later, whatever it calls. Own work. -/
import Derived.Test.YtnminmaklbhakaaGreatDoorLocks
import Derived.Test.YtnminmaklbhakaaGreatDoorBase
import Derived.Tactics
import Derived.Tactics2
import Derived.Defers
import Derived.Laws.Pointers
import Derived.Laws.LoneSync
import Derived.RegionTactic
import Derived.RegionCalls
import Derived.ChangeAlike
set_option linter.unusedVariables false
set_option linter.unusedSimpArgs false
namespace Go.Proofs.YtnminmaklbhakaaGreatDoor
set_option linter.unusedVariables false
open Go.RowKit Go.MuLone

theorem run_not (P : Program) : ∀ (x : Bool) (w : World), (Op.unary .not (.bool x)).run P w = .ok (.bool (!x)) w := fun _ _ => rfl
theorem run_makeFunc (P : Program) : ∀ (fn : Fn) (first cap : Array Value) (w : World), (Instr.makeFunc fn first cap).run P w = .ok (.func fn first cap) w := fun _ _ _ _ => rfl

set_option maxHeartbeats 400000 in
/-- (*atomic.Bool).Load: not yet, or already. -/
theorem bool_load0 (b off : Nat) (w : World) (hc : w.cell? ⟨b, off, none⟩ = some (.int .u32 0)) :
    Calls Tryz.prog 74 #[.pointer (some ⟨b, off, none⟩)] w fun e w' => e = .returned (.bool false) ∧ w = w' := by
  have h1 := run_call_load (P := Tryz.prog) Tryz.func109 (by kernel_rfl) (by kernel_rfl) (by kernel_rfl) .u32 (by kernel_rfl) hc
  go_enter Tryz.func74, Tryz.ntmps74
  go_wp2
  go_ret
  exact ⟨rfl, rfl⟩

set_option maxHeartbeats 400000 in
theorem bool_load1 (b off : Nat) (w : World) (hc : w.cell? ⟨b, off, none⟩ = some (.int .u32 1)) :
    Calls Tryz.prog 74 #[.pointer (some ⟨b, off, none⟩)] w fun e w' => e = .returned (.bool true) ∧ w = w' := by
  have h1 := run_call_load (P := Tryz.prog) Tryz.func109 (by kernel_rfl) (by kernel_rfl) (by kernel_rfl) .u32 (by kernel_rfl) hc
  go_enter Tryz.func74, Tryz.ntmps74
  go_wp2
  go_ret
  exact ⟨rfl, rfl⟩

/-- '(*sync/atomic.Bool).Store(true)', as a deferred call. -/
theorem store_deferred (b off : Nat) (x : Value) (u : FrameMode) (w : World) (hc : w.cell? ⟨b, off, none⟩ = some x) (hz : w.frozen? ⟨b, off, none⟩ = false) :
    CallsD Tryz.prog 112 #[.pointer (some ⟨b, off, none⟩), .bool true] u w fun e u' w' => u' = u ∧ (e = .returned (.tuple #[]) ∧ w' = w.drew.setCell ⟨b, off, none⟩ (.int .u32 1)) := by
  have hc' : w.drew.cell? ⟨b, off, none⟩ = some x := by go_simp
  have hz' : w.drew.frozen? ⟨b, off, none⟩ = false := by go_simp
  have hst := run_call_store (P := Tryz.prog) Tryz.func137 (by kernel_rfl) (by kernel_rfl) (by kernel_rfl) (by kernel_rfl) (k := .u32) (y := 1) hc' hz'
  go_enter_d Tryz.func112, Tryz.ntmps112
  go_wp2
  go_region_calls
  all_goals (go_end0; exact ⟨rfl, rfl⟩)

/-- What a Once's cells must be behind what it called: not yet done; held. -/
def OnceHeld (b off : Nat) (w : World) : Prop :=
  w.cell? ⟨b, off, none⟩ = some (.int .u32 0) ∧ w.frozen? ⟨b, off, none⟩ = false ∧ w.cell? ⟨b, off + 1, none⟩ = some (.int .i32 1) ∧ w.frozen? ⟨b, off + 1, none⟩ = false

/-- A Once that may be called: fresh (0), or done (1); its lock is free. -/
def OnceAt (b off : Nat) (d : Int) (w : World) : Prop :=
  w.cell? ⟨b, off, none⟩ = some (.int .u32 d) ∧ w.frozen? ⟨b, off, none⟩ = false ∧ w.cell? ⟨b, off + 1, none⟩ = some (.int .i32 0) ∧ w.frozen? ⟨b, off + 1, none⟩ = false

/-- The world behind Do, the first time: w2 is the one behind what was called. -/
def onceDone (b off : Nat) (w2 : World) : World := (w2.drew.setCell ⟨b, off, none⟩ (.int .u32 1)).setCell ⟨b, off + 1, none⟩ (.int .i32 0)

theorem OnceHeld.done {b off : Nat} {w : World} (h : OnceHeld b off w) : OnceAt b off 1 (onceDone b off w) := by
  obtain ⟨h1, h2, h3, h4⟩ := h
  refine ⟨?_, by simp [onceDone, h2], ?_, by simp [onceDone, h4]⟩
  · exact (World.cell?_setCell_other _ ⟨b, off + 1, none⟩ ⟨b, off, none⟩ _ (by simp)).trans (World.cell?_setCell_same w.drew ⟨b, off, none⟩ _ h1)
  · exact World.cell?_setCell_same _ ⟨b, off + 1, none⟩ _ ((World.cell?_setCell_other _ ⟨b, off, none⟩ ⟨b, off + 1, none⟩ _ (by simp)).trans h3)

theorem keep_done (b off : Nat) (w : World) : Keep (· = b) w (onceDone b off w) :=
  Keep.own (Keep.own ((Keep.refl _ w).drew) off _) (off + 1) _

theorem OnceAt.keep {S : Nat → Prop} {w w' : World} {b off : Nat} {d : Int} (h : OnceAt b off d w) (k : Keep S w w') (hn : ¬ S b) : OnceAt b off d w' := by
  obtain ⟨h1, h2, h3, h4⟩ := h
  have hb := World.block_lt_of_cell? w _ h1
  exact ⟨(k.cell (p := ⟨b, off, none⟩) hb hn).trans h1, (k.frozen (p := ⟨b, off, none⟩) hb hn).trans h2, (k.cell (p := ⟨b, off + 1, none⟩) hb hn).trans h3, (k.frozen (p := ⟨b, off + 1, none⟩) hb hn).trans h4⟩

theorem OnceAt.held {w : World} {b off : Nat} (h : OnceAt b off 0 w) : OnceHeld b off (w.setCell ⟨b, off + 1, none⟩ (.int .i32 1)) := by
  obtain ⟨h1, h2, h3, h4⟩ := h
  exact ⟨(World.cell?_setCell_other _ ⟨b, off + 1, none⟩ ⟨b, off, none⟩ _ (by simp)).trans h1, by simp [h2], World.cell?_setCell_same w _ _ h3, by simp [h4]⟩

set_option maxRecDepth 100000 in
set_option maxHeartbeats 1600000 in
/-- doSlow, not yet done: the lock is taken; the function is called; then the two deferred calls. -/
theorem slow_first (b off F : Nat) (caps : Array Value) (R : World → Prop) (w : World) (h : OnceAt b off 0 w) (hen : ∀ w, (callFunc F caps).run Tryz.prog w = .ok (.enter F caps) w)
    (hcl : Calls Tryz.prog F caps (w.setCell ⟨b, off + 1, none⟩ (.int .i32 1)) fun e w' => e = .returned (.tuple #[]) ∧ R w') (hR : ∀ w', R w' → OnceHeld b off w') :
    Calls Tryz.prog 75 #[.pointer (some ⟨b, off, none⟩), .func (.func F) #[] caps] w fun e w' => e = .returned (.tuple #[]) ∧ ∃ w2, R w2 ∧ w' = onceDone b off w2 := by
  have hnot := run_not Tryz.prog
  have H := Lib.hid h
  have HC := Lib.hid hcl
  have HR := Lib.hid hR
  clear h hcl hR
  go_enter_defers Tryz.func75, Tryz.ntmps75
  go_wp2_with fail
  refine (lock_free muLib ⟨b, off + 1, none⟩ _ H.out.2.2.1 H.out.2.2.2).mono ?_
  rintro e w' ⟨rfl, rfl⟩
  go_wp2_with fail
  refine (bool_load0 b off _ H.out.held.1).mono ?_
  rintro e w' ⟨rfl, rfl⟩
  go_wp2_with fail
  refine HC.out.mono ?_
  rintro e w2 ⟨rfl, hr⟩
  have HH := Lib.hid (HR.out _ hr)
  have HW := Lib.hid hr
  clear hr
  go_wp2_with fail
  refine leaves_cons (f := 112) (args := #[.pointer (some ⟨b, off, none⟩), .bool true]) (by simp) (by simp [go_sem]) ?_
  refine (store_deferred b off (.int .u32 0) .returning _ HH.out.1 HH.out.2.1).mono ?_
  rintro e u' w'' ⟨rfl, rfl, rfl⟩
  refine leaves_cons (f := 111) (args := #[.pointer (some ⟨b, off + 1, none⟩)]) (by simp [settle]) (by simp [go_sem]) ?_
  refine (unlock_deferred muLib ⟨b, off + 1, none⟩ _ _ ?_ (by simpa using HH.out.2.2.2)).mono ?_
  · exact (World.cell?_setCell_other _ ⟨b, off, none⟩ ⟨b, off + 1, none⟩ _ (by simp)).trans HH.out.2.2.1
  rintro e u' w'' ⟨rfl, rfl, rfl⟩
  exact ⟨_, results_none rfl _ _ _, rfl, w2, HW.out, rfl⟩

set_option maxRecDepth 100000 in
set_option maxHeartbeats 1600000 in
theorem do_first (b off F : Nat) (caps : Array Value) (R : World → Prop) (w : World) (h : OnceAt b off 0 w) (hen : ∀ w, (callFunc F caps).run Tryz.prog w = .ok (.enter F caps) w)
    (hcl : Calls Tryz.prog F caps (w.setCell ⟨b, off + 1, none⟩ (.int .i32 1)) fun e w' => e = .returned (.tuple #[]) ∧ R w') (hR : ∀ w', R w' → OnceHeld b off w') :
    Calls Tryz.prog 55 #[.pointer (some ⟨b, off, none⟩), .func (.func F) #[] caps] w fun e w' => e = .returned (.tuple #[]) ∧ ∃ w2, R w2 ∧ w' = onceDone b off w2 := by
  have hnot := run_not Tryz.prog
  have H := Lib.hid h
  have HS := Lib.hid (slow_first b off F caps R w h hen hcl hR)
  clear h hcl hR hen
  go_enter Tryz.func55, Tryz.ntmps55
  go_wp2_with fail
  refine (bool_load0 b off _ H.out.1).mono ?_
  rintro e w' ⟨rfl, rfl⟩
  go_wp2_with fail
  refine HS.out.mono ?_
  rintro e w1 ⟨rfl, hp⟩
  have HP := Lib.hid hp
  clear hp
  go_wp2_with fail
  go_end0
  exact ⟨rfl, HP.out⟩

set_option maxHeartbeats 400000 in
theorem do_done (b off : Nat) (fv : Value) (w : World) (h : OnceAt b off 1 w) :
    Calls Tryz.prog 55 #[.pointer (some ⟨b, off, none⟩), fv] w fun e w' => e = .returned (.tuple #[]) ∧ w = w' := by
  have hnot := run_not Tryz.prog
  have H := Lib.hid h
  clear h
  go_enter Tryz.func55, Tryz.ntmps55
  go_wp2_with fail
  refine (bool_load1 b off _ H.out.1).mono ?_
  rintro e w' ⟨rfl, rfl⟩
  go_wp2_with fail
  go_end0
  exact ⟨rfl, rfl⟩

end Go.Proofs.YtnminmaklbhakaaGreatDoor
