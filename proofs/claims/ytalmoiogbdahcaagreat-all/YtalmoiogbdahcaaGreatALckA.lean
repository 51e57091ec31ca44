import Derived.Test.YtalmoiogbdahcaaGreatProg
import Derived.Conc.RwLib
import Derived.Conc.MuLone
open Go.Proofs.Tryz
namespace Go.Proofs.YtalmoiogbdahcaaGreat
set_option maxRecDepth 100000
set_option maxHeartbeats 8000000
abbrev Tryz.muLink:Go.Conc.Locks.MuLink:={lock:=51,unlock:=52,ilock:=95,iunlock:=96,lockSlow:=148,unlockSlow:=151,disable:=144,enable:=146,acquire:=147,relMerge:=149,cas32:=145,add32:=150,tMutex:=95,tIMutex:=93,tPMutex:=145,tPIMutex:=196,tPI32:=198,tUP:=200,tNoCopy:=90,tU32:=91}
theorem Tryz.muLib:Go.Conc.Locks.MuLib prog Tryz.muLink:=
 ⟨func51,func52,func95,func96,func144,func146,func147,func149,func145,func150,underlying93,runUnderlying93,sizeOf93,isAgg93,zeroValue93,underlying95,runUnderlying95,sizeOf95,isAgg95,zeroValue95,underlying145,runUnderlying145,sizeOf145,isAgg145,zeroValue145,underlying196,runUnderlying196,sizeOf196,isAgg196,zeroValue196,underlying198,runUnderlying198,sizeOf198,isAgg198,zeroValue198,underlying200,runUnderlying200,sizeOf200,isAgg200,zeroValue200,underlying90,runUnderlying90,sizeOf90,isAgg90,zeroValue90,underlying21,runUnderlying21,sizeOf21,isAgg21,zeroValue21,(by kernel_rfl)⟩
