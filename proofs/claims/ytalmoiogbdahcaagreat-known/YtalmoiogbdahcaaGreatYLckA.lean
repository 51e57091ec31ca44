import Derived.Test.YtalmoiogbdahcaaGreatProg
import Derived.Conc.RwLib
import Derived.Conc.MuLone
import Derived.KernelRfl
namespace Go.Proofs.YtalmoiogbdahcaaGreat
set_option maxRecDepth 100000
set_option maxHeartbeats 8000000
abbrev Tryz.muLink : Go.Conc.Locks.MuLink := { lock := 51, unlock := 52, ilock := 95, iunlock := 96, lockSlow := 148, unlockSlow := 151, disable := 144, enable := 146, acquire := 147, relMerge := 149, cas32 := 145, add32 := 150, tMutex := 95, tIMutex := 93, tPMutex := 145, tPIMutex := 196, tPI32 := 198, tUP := 200, tNoCopy := 90, tU32 := 91 }
theorem Tryz.muLib : Go.Conc.Locks.MuLib Tryz.prog Tryz.muLink :=
 ⟨Tryz.func51, Tryz.func52, Tryz.func95, Tryz.func96, Tryz.func144, Tryz.func146, Tryz.func147, Tryz.func149, Tryz.func145, Tryz.func150, Tryz.underlying93, Tryz.runUnderlying93, Tryz.sizeOf93, Tryz.isAgg93, Tryz.zeroValue93, Tryz.underlying95, Tryz.runUnderlying95, Tryz.sizeOf95, Tryz.isAgg95, Tryz.zeroValue95, Tryz.underlying145, Tryz.runUnderlying145, Tryz.sizeOf145, Tryz.isAgg145, Tryz.zeroValue145, Tryz.underlying196, Tryz.runUnderlying196, Tryz.sizeOf196, Tryz.isAgg196, Tryz.zeroValue196, Tryz.underlying198, Tryz.runUnderlying198, Tryz.sizeOf198, Tryz.isAgg198, Tryz.zeroValue198, Tryz.underlying200, Tryz.runUnderlying200, Tryz.sizeOf200, Tryz.isAgg200, Tryz.zeroValue200, Tryz.underlying90, Tryz.runUnderlying90, Tryz.sizeOf90, Tryz.isAgg90, Tryz.zeroValue90, Tryz.underlying21, Tryz.runUnderlying21, Tryz.sizeOf21, Tryz.isAgg21, Tryz.zeroValue21, (by kernel_rfl)⟩
end Go.Proofs.YtalmoiogbdahcaaGreat
