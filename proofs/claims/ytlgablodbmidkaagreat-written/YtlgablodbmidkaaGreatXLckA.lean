import Derived.Test.YtlgablodbmidkaaGreatProg
import Derived.Conc.RwLib
import Derived.Conc.MuLone
import Derived.KernelRfl

/- The numbers under which this program holds the lock's functions and types. -/
namespace Go.Proofs.YtlgablodbmidkaaGreat
abbrev Tryz.muLink : Go.Conc.Locks.MuLink := { lock := 38, unlock := 39, ilock := 70, iunlock := 71, lockSlow := 119, unlockSlow := 122, disable := 115, enable := 117, acquire := 118, relMerge := 120, cas32 := 116, add32 := 121, tMutex := 83, tIMutex := 81, tPMutex := 125, tPIMutex := 172, tPI32 := 174, tUP := 176, tNoCopy := 78, tU32 := 79 }
theorem Tryz.muLib : Go.Conc.Locks.MuLib Tryz.prog Tryz.muLink :=
  ⟨Tryz.func38, Tryz.func39, Tryz.func70, Tryz.func71, Tryz.func115, Tryz.func117, Tryz.func118, Tryz.func120, Tryz.func116, Tryz.func121, Tryz.underlying81, Tryz.runUnderlying81, Tryz.sizeOf81, Tryz.isAgg81, Tryz.zeroValue81, Tryz.underlying83, Tryz.runUnderlying83, Tryz.sizeOf83, Tryz.isAgg83, Tryz.zeroValue83, Tryz.underlying125, Tryz.runUnderlying125, Tryz.sizeOf125, Tryz.isAgg125, Tryz.zeroValue125, Tryz.underlying172, Tryz.runUnderlying172, Tryz.sizeOf172, Tryz.isAgg172, Tryz.zeroValue172, Tryz.underlying174, Tryz.runUnderlying174, Tryz.sizeOf174, Tryz.isAgg174, Tryz.zeroValue174, Tryz.underlying176, Tryz.runUnderlying176, Tryz.sizeOf176, Tryz.isAgg176, Tryz.zeroValue176, Tryz.underlying78, Tryz.runUnderlying78, Tryz.sizeOf78, Tryz.isAgg78, Tryz.zeroValue78, Tryz.underlying21, Tryz.runUnderlying21, Tryz.sizeOf21, Tryz.isAgg21, Tryz.zeroValue21, (by kernel_rfl)⟩
end Go.Proofs.YtlgablodbmidkaaGreat
