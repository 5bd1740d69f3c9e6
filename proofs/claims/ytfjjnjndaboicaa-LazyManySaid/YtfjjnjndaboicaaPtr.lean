/- sync/atomic.Pointer[int]: Load, Store; atomic.Bool's Store as a plain call. Own work. -/
import Derived.Test.YtfjjnjndaboicaaOnce
import Derived.Test.YtfjjnjndaboicaaInfoI
import Derived.Lib.Builder
namespace Go.Proofs.Ytfjjnjndaboicaa
set_option linter.unusedVariables false
open Go.RowKit

/-- sync/atomic.LoadPointer: what the cell holds. -/
theorem run_call_load_ptr {P : Program} {f : FuncId} {fn : Func} (hf : P.funcs[f]? = some fn) (hname : (fn.name == "runtime.NumGoroutine") = false) (hb : fn.body.isNone = true) (hn : Extern.findNext fn = none)
    (he : Extern.find fn = some (Extern.Atomic.loadT .ptr)) {a : Addr} {x : Option Addr} {w : World} (hc : w.cell? a = some (.pointer x)) :
    (callFunc f #[.pointer (some a)]).run P w = .ok (.value (.pointer x)) w := by
  rw [run_callFunc_extern hf hname hb hn he]
  change (Sem.run P (do Extern.Atomic.read .ptr (← asAddr (.pointer (some a)))) w).andThen _ = _
  simp [Extern.Atomic.read, asAddr, hc, Result.andThen]

/-- sync/atomic.StorePointer: the pointer is stored. -/
theorem run_call_store_ptr {P : Program} {f : FuncId} {fn : Func} (hf : P.funcs[f]? = some fn) (hname : (fn.name == "runtime.NumGoroutine") = false) (hb : fn.body.isNone = true) (hn : Extern.findNext fn = none)
    (he : Extern.find fn = some Extern.Atomic.storeT) {a : Addr} {y : Option Addr} {u : Value} {w : World} (hc : w.cell? a = some u) (hz : w.frozen? a = false) :
    (callFunc f #[.pointer (some a), .pointer y]).run P w = .ok (.value (.tuple #[])) (w.setCell a (.pointer y)) := by
  rw [run_callFunc_extern hf hname hb hn he]
  change (Sem.run P (do
    store (← asAddr (.pointer (some a))) (.pointer y) .atomic
    pure Extern.Atomic.none_) w).andThen _ = _
  simp [asAddr, hc, hz, run_store P w a (.pointer y) .atomic rfl, Result.andThen, Extern.Atomic.none_]

/-- A block of its own with one number. -/
def IntBox (w : World) (q : Nat) (n : Int) : Prop := w.heap[q]? = some (.cells #[.int .i64 n] 3 (0, 0))

set_option maxHeartbeats 400000 in
theorem ptr_load_none (b off : Nat) (w : World) (hc : w.cell? ⟨b, off, none⟩ = some (.pointer none)) :
    Calls Try.prog 21 #[.pointer (some ⟨b, off, none⟩)] w fun e w' => e = .returned (.pointer none) ∧ w = w' := by
  have h1 := run_call_load_ptr (P := Try.prog) Try.func29 (by kernel_rfl) (by kernel_rfl) (by kernel_rfl) (by kernel_rfl) hc
  have h2 : (convert 46 44 (.pointer none)).run Try.prog w = .ok (.pointer none) w := by kernel_rfl
  go_enter Try.func21, Try.ntmps21
  go_wp2
  go_ret
  exact ⟨rfl, rfl⟩

set_option maxHeartbeats 400000 in
theorem ptr_load_some (b off q : Nat) (n : Int) (w : World) (hc : w.cell? ⟨b, off, none⟩ = some (.pointer (some ⟨q, 0, none⟩))) (hq : IntBox w q n) :
    Calls Try.prog 21 #[.pointer (some ⟨b, off, none⟩)] w fun e w' => e = .returned (.pointer (some ⟨q, 0, none⟩)) ∧ w = w' := by
  have h1 := run_call_load_ptr (P := Try.prog) Try.func29 (by kernel_rfl) (by kernel_rfl) (by kernel_rfl) (by kernel_rfl) hc
  have hsh : w.shape? q = some (3, 1) := by unfold IntBox at hq; simp [World.shape?, hq]
  obtain ⟨j, hj, _⟩ := Option.map_eq_some_iff.1 int_info
  have h2 := Lib.run_from_unsafe (P := Try.prog) w (src := 46) (dst := 44) (u := 3) ⟨q, 0, none⟩ (by kernel_rfl) (by kernel_rfl) hj hsh (by kernel_rfl)
  clear hj
  go_enter Try.func21, Try.ntmps21
  go_wp2
  go_ret
  exact ⟨rfl, rfl⟩

set_option maxHeartbeats 400000 in
theorem ptr_store (b off q : Nat) (n : Int) (u : Value) (w : World) (hc : w.cell? ⟨b, off, none⟩ = some u) (hz : w.frozen? ⟨b, off, none⟩ = false) (hq : IntBox w q n) :
    Calls Try.prog 23 #[.pointer (some ⟨b, off, none⟩), .pointer (some ⟨q, 0, none⟩)] w fun e w' => e = .returned (.tuple #[]) ∧ w' = w.setCell ⟨b, off, none⟩ (.pointer (some ⟨q, 0, none⟩)) := by
  have h1 := run_call_store_ptr (P := Try.prog) Try.func30 (by kernel_rfl) (by kernel_rfl) (by kernel_rfl) (by kernel_rfl) (y := some ⟨q, 0, none⟩) hc hz
  have hcq : w.cell? ⟨q, 0, none⟩ = some (.int .i64 n) := cell_at hq 0
  have h2 := run_convert_to_unsafe (P := Try.prog) (src := 44) (dst := 46) (t := 3) (by kernel_rfl) (by kernel_rfl) (by kernel_rfl) hcq
  go_enter Try.func23, Try.ntmps23
  go_wp2
  go_end0
  exact ⟨rfl, rfl⟩

set_option maxHeartbeats 400000 in
theorem bool_store (b off : Nat) (u : Value) (w : World) (hc : w.cell? ⟨b, off, none⟩ = some u) (hz : w.frozen? ⟨b, off, none⟩ = false) :
    Calls Try.prog 19 #[.pointer (some ⟨b, off, none⟩), .bool true] w fun e w' => e = .returned (.tuple #[]) ∧ w' = w.drew.setCell ⟨b, off, none⟩ (.int .u32 1) := by
  have hc' : w.drew.cell? ⟨b, off, none⟩ = some u := by go_simp
  have hz' : w.drew.frozen? ⟨b, off, none⟩ = false := by go_simp
  have hst := run_call_store (P := Try.prog) Try.func26 (by kernel_rfl) (by kernel_rfl) (by kernel_rfl) (by kernel_rfl) (k := .u32) (y := 1) hc' hz'
  go_enter Try.func19, Try.ntmps19
  go_wp2
  go_region_calls
  all_goals (go_end0; exact ⟨rfl, rfl⟩)

end Go.Proofs.Ytfjjnjndaboicaa
