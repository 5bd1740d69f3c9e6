/- sync.Mutex in this translation: its numbers. By program (locks.py). -/
import Derived.Test.YtmlceohmjkaadaaGreatDoorRows
import Derived.Conc.MuLone
import Derived.KernelRfl
namespace Go.Proofs.YtmlceohmjkaadaaGreatDoor
abbrev muLink : Go.Conc.Locks.MuLink := { lock := 121, unlock := 122, ilock := 145, iunlock := 146, lockSlow := 160, unlockSlow := 163, disable := 156, enable := 158, acquire := 159, relMerge := 161, cas32 := 157, add32 := 162, tMutex := 115, tIMutex := 113, tPMutex := 193, tPIMutex := 199, tPI32 := 201, tUP := 153, tNoCopy := 107, tU32 := 109 }
theorem muLib : Go.Conc.Locks.MuLib Tryz.prog muLink :=
  ⟨Tryz.func121, Tryz.func122, Tryz.func145, Tryz.func146, Tryz.func156, Tryz.func158, Tryz.func159, Tryz.func161, Tryz.func157, Tryz.func162, Tryz.underlying113, Tryz.runUnderlying113, Tryz.sizeOf113, Tryz.isAgg113, Tryz.zeroValue113, Tryz.underlying115, Tryz.runUnderlying115, Tryz.sizeOf115, Tryz.isAgg115, Tryz.zeroValue115, Tryz.underlying193, Tryz.runUnderlying193, Tryz.sizeOf193, Tryz.isAgg193, Tryz.zeroValue193, Tryz.underlying199, Tryz.runUnderlying199, Tryz.sizeOf199, Tryz.isAgg199, Tryz.zeroValue199, Tryz.underlying201, Tryz.runUnderlying201, Tryz.sizeOf201, Tryz.isAgg201, Tryz.zeroValue201, Tryz.underlying153, Tryz.runUnderlying153, Tryz.sizeOf153, Tryz.isAgg153, Tryz.zeroValue153, Tryz.underlying107, Tryz.runUnderlying107, Tryz.sizeOf107, Tryz.isAgg107, Tryz.zeroValue107, Tryz.underlying21, Tryz.runUnderlying21, Tryz.sizeOf21, Tryz.isAgg21, Tryz.zeroValue21, (by kernel_rfl)⟩
end Go.Proofs.YtmlceohmjkaadaaGreatDoor
