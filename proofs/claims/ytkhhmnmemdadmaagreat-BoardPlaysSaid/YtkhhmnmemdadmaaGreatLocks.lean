/- sync.Mutex in this translation: its numbers. By program (locks.py). -/
import Derived.Test.YtkhhmnmemdadmaaGreatRows
import Derived.Conc.MuLone
import Derived.KernelRfl
namespace Go.Proofs.YtkhhmnmemdadmaaGreat
abbrev muLink : Go.Conc.Locks.MuLink := { lock := 15, unlock := 16, ilock := 60, iunlock := 61, lockSlow := 90, unlockSlow := 93, disable := 86, enable := 88, acquire := 89, relMerge := 91, cas32 := 87, add32 := 92, tMutex := 35, tIMutex := 33, tPMutex := 97, tPIMutex := 138, tPI32 := 140, tUP := 142, tNoCopy := 27, tU32 := 29 }
theorem muLib : Go.Conc.Locks.MuLib Tryz.prog muLink :=
  ⟨Tryz.func15, Tryz.func16, Tryz.func60, Tryz.func61, Tryz.func86, Tryz.func88, Tryz.func89, Tryz.func91, Tryz.func87, Tryz.func92, Tryz.underlying33, Tryz.runUnderlying33, Tryz.sizeOf33, Tryz.isAgg33, Tryz.zeroValue33, Tryz.underlying35, Tryz.runUnderlying35, Tryz.sizeOf35, Tryz.isAgg35, Tryz.zeroValue35, Tryz.underlying97, Tryz.runUnderlying97, Tryz.sizeOf97, Tryz.isAgg97, Tryz.zeroValue97, Tryz.underlying138, Tryz.runUnderlying138, Tryz.sizeOf138, Tryz.isAgg138, Tryz.zeroValue138, Tryz.underlying140, Tryz.runUnderlying140, Tryz.sizeOf140, Tryz.isAgg140, Tryz.zeroValue140, Tryz.underlying142, Tryz.runUnderlying142, Tryz.sizeOf142, Tryz.isAgg142, Tryz.zeroValue142, Tryz.underlying27, Tryz.runUnderlying27, Tryz.sizeOf27, Tryz.isAgg27, Tryz.zeroValue27, Tryz.underlying21, Tryz.runUnderlying21, Tryz.sizeOf21, Tryz.isAgg21, Tryz.zeroValue21, (by kernel_rfl)⟩
end Go.Proofs.YtkhhmnmemdadmaaGreat
