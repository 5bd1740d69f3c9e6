/- sync.Mutex in this translation: its numbers. By program (locks.py). -/
import Derived.Test.YtpmnbfifpenlkaaGreatDoorRows
import Derived.Conc.MuLone
import Derived.KernelRfl
namespace Go.Proofs.YtpmnbfifpenlkaaGreatDoor
abbrev muLink : Go.Conc.Locks.MuLink := { lock := 118, unlock := 119, ilock := 143, iunlock := 144, lockSlow := 158, unlockSlow := 161, disable := 154, enable := 156, acquire := 157, relMerge := 159, cas32 := 155, add32 := 160, tMutex := 111, tIMutex := 109, tPMutex := 188, tPIMutex := 194, tPI32 := 196, tUP := 149, tNoCopy := 103, tU32 := 105 }
theorem muLib : Go.Conc.Locks.MuLib Tryz.prog muLink :=
  ⟨Tryz.func118, Tryz.func119, Tryz.func143, Tryz.func144, Tryz.func154, Tryz.func156, Tryz.func157, Tryz.func159, Tryz.func155, Tryz.func160, Tryz.underlying109, Tryz.runUnderlying109, Tryz.sizeOf109, Tryz.isAgg109, Tryz.zeroValue109, Tryz.underlying111, Tryz.runUnderlying111, Tryz.sizeOf111, Tryz.isAgg111, Tryz.zeroValue111, Tryz.underlying188, Tryz.runUnderlying188, Tryz.sizeOf188, Tryz.isAgg188, Tryz.zeroValue188, Tryz.underlying194, Tryz.runUnderlying194, Tryz.sizeOf194, Tryz.isAgg194, Tryz.zeroValue194, Tryz.underlying196, Tryz.runUnderlying196, Tryz.sizeOf196, Tryz.isAgg196, Tryz.zeroValue196, Tryz.underlying149, Tryz.runUnderlying149, Tryz.sizeOf149, Tryz.isAgg149, Tryz.zeroValue149, Tryz.underlying103, Tryz.runUnderlying103, Tryz.sizeOf103, Tryz.isAgg103, Tryz.zeroValue103, Tryz.underlying21, Tryz.runUnderlying21, Tryz.sizeOf21, Tryz.isAgg21, Tryz.zeroValue21, (by kernel_rfl)⟩
end Go.Proofs.YtpmnbfifpenlkaaGreatDoor
