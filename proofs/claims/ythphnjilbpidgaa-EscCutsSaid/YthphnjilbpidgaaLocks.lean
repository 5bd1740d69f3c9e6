/- sync.Mutex in this translation: its numbers. By program (locks.py). -/
import Derived.Test.YthphnjilbpidgaaRows
import Derived.Conc.MuLone
import Derived.KernelRfl
namespace Go.Proofs.Ythphnjilbpidgaa
abbrev muLink : Go.Conc.Locks.MuLink := { lock := 48, unlock := 49, ilock := 54, iunlock := 55, lockSlow := 67, unlockSlow := 70, disable := 63, enable := 65, acquire := 66, relMerge := 68, cas32 := 64, add32 := 69, tMutex := 66, tIMutex := 64, tPMutex := 105, tPIMutex := 110, tPI32 := 112, tUP := 114, tNoCopy := 58, tU32 := 60 }
theorem muLib : Go.Conc.Locks.MuLib Try.prog muLink :=
  ⟨Try.func48, Try.func49, Try.func54, Try.func55, Try.func63, Try.func65, Try.func66, Try.func68, Try.func64, Try.func69, Try.underlying64, Try.runUnderlying64, Try.sizeOf64, Try.isAgg64, Try.zeroValue64, Try.underlying66, Try.runUnderlying66, Try.sizeOf66, Try.isAgg66, Try.zeroValue66, Try.underlying105, Try.runUnderlying105, Try.sizeOf105, Try.isAgg105, Try.zeroValue105, Try.underlying110, Try.runUnderlying110, Try.sizeOf110, Try.isAgg110, Try.zeroValue110, Try.underlying112, Try.runUnderlying112, Try.sizeOf112, Try.isAgg112, Try.zeroValue112, Try.underlying114, Try.runUnderlying114, Try.sizeOf114, Try.isAgg114, Try.zeroValue114, Try.underlying58, Try.runUnderlying58, Try.sizeOf58, Try.isAgg58, Try.zeroValue58, Try.underlying21, Try.runUnderlying21, Try.sizeOf21, Try.isAgg21, Try.zeroValue21, (by kernel_rfl)⟩
end Go.Proofs.Ythphnjilbpidgaa
