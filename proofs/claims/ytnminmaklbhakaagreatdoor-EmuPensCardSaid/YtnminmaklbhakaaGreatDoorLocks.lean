/- sync.Mutex in this translation: its numbers. By program (locks.py). -/
import Derived.Test.YtnminmaklbhakaaGreatDoorRows
import Derived.Conc.MuLone
import Derived.KernelRfl
namespace Go.Proofs.YtnminmaklbhakaaGreatDoor
abbrev muLink : Go.Conc.Locks.MuLink := { lock := 110, unlock := 111, ilock := 135, iunlock := 136, lockSlow := 150, unlockSlow := 153, disable := 146, enable := 148, acquire := 149, relMerge := 151, cas32 := 147, add32 := 152, tMutex := 112, tIMutex := 110, tPMutex := 182, tPIMutex := 188, tPI32 := 190, tUP := 142, tNoCopy := 104, tU32 := 106 }
theorem muLib : Go.Conc.Locks.MuLib Tryz.prog muLink :=
  ⟨Tryz.func110, Tryz.func111, Tryz.func135, Tryz.func136, Tryz.func146, Tryz.func148, Tryz.func149, Tryz.func151, Tryz.func147, Tryz.func152, Tryz.underlying110, Tryz.runUnderlying110, Tryz.sizeOf110, Tryz.isAgg110, Tryz.zeroValue110, Tryz.underlying112, Tryz.runUnderlying112, Tryz.sizeOf112, Tryz.isAgg112, Tryz.zeroValue112, Tryz.underlying182, Tryz.runUnderlying182, Tryz.sizeOf182, Tryz.isAgg182, Tryz.zeroValue182, Tryz.underlying188, Tryz.runUnderlying188, Tryz.sizeOf188, Tryz.isAgg188, Tryz.zeroValue188, Tryz.underlying190, Tryz.runUnderlying190, Tryz.sizeOf190, Tryz.isAgg190, Tryz.zeroValue190, Tryz.underlying142, Tryz.runUnderlying142, Tryz.sizeOf142, Tryz.isAgg142, Tryz.zeroValue142, Tryz.underlying104, Tryz.runUnderlying104, Tryz.sizeOf104, Tryz.isAgg104, Tryz.zeroValue104, Tryz.underlying21, Tryz.runUnderlying21, Tryz.sizeOf21, Tryz.isAgg21, Tryz.zeroValue21, (by kernel_rfl)⟩
end Go.Proofs.YtnminmaklbhakaaGreatDoor
