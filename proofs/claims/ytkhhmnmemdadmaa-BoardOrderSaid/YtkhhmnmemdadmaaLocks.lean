/- sync.Mutex in this translation: its numbers. By program (locks.py). -/
import Derived.Test.YtkhhmnmemdadmaaRows
import Derived.Conc.MuLone
import Derived.KernelRfl
namespace Go.Proofs.Ytkhhmnmemdadmaa
abbrev muLink : Go.Conc.Locks.MuLink := { lock := 26, unlock := 27, ilock := 35, iunlock := 36, lockSlow := 46, unlockSlow := 49, disable := 42, enable := 44, acquire := 45, relMerge := 47, cas32 := 43, add32 := 48, tMutex := 52, tIMutex := 50, tPMutex := 78, tPIMutex := 82, tPI32 := 84, tUP := 86, tNoCopy := 45, tU32 := 46 }
theorem muLib : Go.Conc.Locks.MuLib Try.prog muLink :=
  ⟨Try.func26, Try.func27, Try.func35, Try.func36, Try.func42, Try.func44, Try.func45, Try.func47, Try.func43, Try.func48, Try.underlying50, Try.runUnderlying50, Try.sizeOf50, Try.isAgg50, Try.zeroValue50, Try.underlying52, Try.runUnderlying52, Try.sizeOf52, Try.isAgg52, Try.zeroValue52, Try.underlying78, Try.runUnderlying78, Try.sizeOf78, Try.isAgg78, Try.zeroValue78, Try.underlying82, Try.runUnderlying82, Try.sizeOf82, Try.isAgg82, Try.zeroValue82, Try.underlying84, Try.runUnderlying84, Try.sizeOf84, Try.isAgg84, Try.zeroValue84, Try.underlying86, Try.runUnderlying86, Try.sizeOf86, Try.isAgg86, Try.zeroValue86, Try.underlying45, Try.runUnderlying45, Try.sizeOf45, Try.isAgg45, Try.zeroValue45, Try.underlying21, Try.runUnderlying21, Try.sizeOf21, Try.isAgg21, Try.zeroValue21, (by kernel_rfl)⟩
end Go.Proofs.Ytkhhmnmemdadmaa
