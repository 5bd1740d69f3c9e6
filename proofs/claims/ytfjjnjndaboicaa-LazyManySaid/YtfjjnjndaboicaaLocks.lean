/- sync.Mutex in this translation: its numbers. By program (locks.py). -/
import Derived.Test.YtfjjnjndaboicaaRows
import Derived.Conc.MuLone
import Derived.KernelRfl
namespace Go.Proofs.Ytfjjnjndaboicaa
abbrev muLink : Go.Conc.Locks.MuLink := { lock := 31, unlock := 32, ilock := 33, iunlock := 34, lockSlow := 39, unlockSlow := 42, disable := 35, enable := 37, acquire := 38, relMerge := 40, cas32 := 36, add32 := 41, tMutex := 34, tIMutex := 32, tPMutex := 71, tPIMutex := 72, tPI32 := 74, tUP := 46, tNoCopy := 26, tU32 := 28 }
theorem muLib : Go.Conc.Locks.MuLib Try.prog muLink :=
  ⟨Try.func31, Try.func32, Try.func33, Try.func34, Try.func35, Try.func37, Try.func38, Try.func40, Try.func36, Try.func41, Try.underlying32, Try.runUnderlying32, Try.sizeOf32, Try.isAgg32, Try.zeroValue32, Try.underlying34, Try.runUnderlying34, Try.sizeOf34, Try.isAgg34, Try.zeroValue34, Try.underlying71, Try.runUnderlying71, Try.sizeOf71, Try.isAgg71, Try.zeroValue71, Try.underlying72, Try.runUnderlying72, Try.sizeOf72, Try.isAgg72, Try.zeroValue72, Try.underlying74, Try.runUnderlying74, Try.sizeOf74, Try.isAgg74, Try.zeroValue74, Try.underlying46, Try.runUnderlying46, Try.sizeOf46, Try.isAgg46, Try.zeroValue46, Try.underlying26, Try.runUnderlying26, Try.sizeOf26, Try.isAgg26, Try.zeroValue26, Try.underlying21, Try.runUnderlying21, Try.sizeOf21, Try.isAgg21, Try.zeroValue21, (by kernel_rfl)⟩
end Go.Proofs.Ytfjjnjndaboicaa
