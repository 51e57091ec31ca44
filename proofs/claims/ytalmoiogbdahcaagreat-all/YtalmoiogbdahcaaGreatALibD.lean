import Derived.Shelf.Spec.SlicesInsertGrow
import Derived.Shelf.Slices.Delete
import Derived.Test.YtalmoiogbdahcaaGreatChecked
open Go.Proofs.Tryz
namespace Go.Proofs.YtalmoiogbdahcaaGreat
set_option maxRecDepth 100000
set_option maxHeartbeats 8000000
open Go.Shelf
def Tryz.lays22_ren:Go.Shelf.Ren:=⟨fun|22=>101|29=>156|30=>157|36=>195|17=>217|n=>n,fun|24=>28|9=>9|3=>3|4=>4|0=>0|n=>n,fun|n=>n⟩
theorem Tryz.lays22:Go.Proofs.Lays2.n22 prog Tryz.lays22_ren:={
 mixed:=by kernel_rfl
 f17:=func217.trans (congrArg some (by kernel_rfl))
 f22:=func101.trans (congrArg some (by kernel_rfl))
 f29:=func156.trans (congrArg some (by kernel_rfl))
 f30:=func157.trans (congrArg some (by kernel_rfl))
 f36:=func195.trans (congrArg some (by kernel_rfl))
 t0:=underlying0
 a0:=isAgg0
 z0:=sizeOf0
 v0:=zeroValue0
 t3:=underlying3
 a3:=isAgg3
 z3:=sizeOf3
 v3:=zeroValue3
 t4:=underlying4
 a4:=isAgg4
 z4:=sizeOf4
 v4:=zeroValue4
 t9:=underlying9
 a9:=isAgg9
 z9:=sizeOf9
 v9:=zeroValue9
 t24:=underlying28
 a24:=isAgg28
 z24:=sizeOf28
 v24:=zeroValue28
 i9:=by kernel_rfl}
def Tryz.lays24_ren:Go.Shelf.Ren:=⟨fun|24=>103|n=>n,fun|24=>28|9=>9|3=>3|4=>4|0=>0|n=>n,fun|n=>n⟩
theorem Tryz.lays24:Go.Proofs.Lays2.n24 prog Tryz.lays24_ren:={
 mixed:=by kernel_rfl
 f24:=func103.trans (congrArg some (by kernel_rfl))
 t0:=underlying0
 a0:=isAgg0
 z0:=sizeOf0
 v0:=zeroValue0
 t3:=underlying3
 a3:=isAgg3
 z3:=sizeOf3
 v3:=zeroValue3
 t4:=underlying4
 a4:=isAgg4
 z4:=sizeOf4
 v4:=zeroValue4
 t9:=underlying9
 a9:=isAgg9
 z9:=sizeOf9
 v9:=zeroValue9
 t24:=underlying28
 a24:=isAgg28
 z24:=sizeOf28
 v24:=zeroValue28
 i9:=by kernel_rfl}
