/- sync.Mutex in this translation: its numbers. By program (locks.py). -/
import Derived.Test.YtnnkgdggkinblaaRows
import Derived.Conc.MuLone
import Derived.KernelRfl
namespace Go.Proofs.Ytnnkgdggkinblaa
abbrev muLink : Go.Conc.Locks.MuLink := { lock := 33, unlock := 34, ilock := 42, iunlock := 43, lockSlow := 50, unlockSlow := 53, disable := 46, enable := 48, acquire := 49, relMerge := 51, cas32 := 47, add32 := 52, tMutex := 34, tIMutex := 32, tPMutex := 88, tPIMutex := 92, tPI32 := 94, tUP := 96, tNoCopy := 26, tU32 := 28 }
theorem muLib : Go.Conc.Locks.MuLib Try.prog muLink :=
  ⟨Try.func33, Try.func34, Try.func42, Try.func43, Try.func46, Try.func48, Try.func49, Try.func51, Try.func47, Try.func52, Try.underlying32, Try.runUnderlying32, Try.sizeOf32, Try.isAgg32, Try.zeroValue32, Try.underlying34, Try.runUnderlying34, Try.sizeOf34, Try.isAgg34, Try.zeroValue34, Try.underlying88, Try.runUnderlying88, Try.sizeOf88, Try.isAgg88, Try.zeroValue88, Try.underlying92, Try.runUnderlying92, Try.sizeOf92, Try.isAgg92, Try.zeroValue92, Try.underlying94, Try.runUnderlying94, Try.sizeOf94, Try.isAgg94, Try.zeroValue94, Try.underlying96, Try.runUnderlying96, Try.sizeOf96, Try.isAgg96, Try.zeroValue96, Try.underlying26, Try.runUnderlying26, Try.sizeOf26, Try.isAgg26, Try.zeroValue26, Try.underlying21, Try.runUnderlying21, Try.sizeOf21, Try.isAgg21, Try.zeroValue21, (by kernel_rfl)⟩
end Go.Proofs.Ytnnkgdggkinblaa
