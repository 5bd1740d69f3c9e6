/- sync.Mutex in this translation: its numbers. By program (locks.py). -/
import Derived.Test.YtmkgcmnimpkmjaaRows
import Derived.Conc.MuLone
import Derived.KernelRfl
namespace Go.Proofs.Ytmkgcmnimpkmjaa
abbrev muLink : Go.Conc.Locks.MuLink := { lock := 59, unlock := 60, ilock := 72, iunlock := 73, lockSlow := 89, unlockSlow := 92, disable := 85, enable := 87, acquire := 88, relMerge := 90, cas32 := 86, add32 := 91, tMutex := 70, tIMutex := 68, tPMutex := 128, tPIMutex := 138, tPI32 := 140, tUP := 142, tNoCopy := 62, tU32 := 64 }
theorem muLib : Go.Conc.Locks.MuLib Try.prog muLink :=
  ⟨Try.func59, Try.func60, Try.func72, Try.func73, Try.func85, Try.func87, Try.func88, Try.func90, Try.func86, Try.func91, Try.underlying68, Try.runUnderlying68, Try.sizeOf68, Try.isAgg68, Try.zeroValue68, Try.underlying70, Try.runUnderlying70, Try.sizeOf70, Try.isAgg70, Try.zeroValue70, Try.underlying128, Try.runUnderlying128, Try.sizeOf128, Try.isAgg128, Try.zeroValue128, Try.underlying138, Try.runUnderlying138, Try.sizeOf138, Try.isAgg138, Try.zeroValue138, Try.underlying140, Try.runUnderlying140, Try.sizeOf140, Try.isAgg140, Try.zeroValue140, Try.underlying142, Try.runUnderlying142, Try.sizeOf142, Try.isAgg142, Try.zeroValue142, Try.underlying62, Try.runUnderlying62, Try.sizeOf62, Try.isAgg62, Try.zeroValue62, Try.underlying21, Try.runUnderlying21, Try.sizeOf21, Try.isAgg21, Try.zeroValue21, (by kernel_rfl)⟩
end Go.Proofs.Ytmkgcmnimpkmjaa
