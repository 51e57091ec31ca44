import Derived.Test.YtalmoiogbdahcaaGreatTSetA
import Derived.Test.YtalmoiogbdahcaaGreatTGhG
import Derived.Test.YtalmoiogbdahcaaGreatYRefH
import Derived.Test.YtalmoiogbdahcaaGreatYTieC0
namespace Go.Proofs.YtalmoiogbdahcaaGreat
set_option maxRecDepth 100000
set_option maxHeartbeats 8000000
open Go.RowKit
def groupB : ByteArray := ⟨#[103, 114, 111, 117, 112]⟩
def memberB : ByteArray := ⟨#[109, 101, 109, 98, 101, 114]⟩
def docB : ByteArray := ⟨#[100, 111, 99]⟩
def ownerB : ByteArray := ⟨#[111, 119, 110, 101, 114]⟩
def parentB : ByteArray := ⟨#[112, 97, 114, 101, 110, 116]⟩
def readerB : ByteArray := ⟨#[114, 101, 97, 100, 101, 114]⟩
def userB : ByteArray := ⟨#[117, 115, 101, 114]⟩
def zB : ByteArray := ⟨#[122]⟩
def krules : List ByteArray := [⟨#[103, 114, 111, 117, 112, 35, 109, 101, 109, 98, 101, 114, 61, 116, 104, 105, 115]⟩, ⟨#[100, 111, 99, 35, 111, 119, 110, 101, 114, 61, 116, 104, 105, 115]⟩, ⟨#[100, 111, 99, 35, 112, 97, 114, 101, 110, 116, 61, 116, 104, 105, 115]⟩, ⟨#[100, 111, 99, 35, 114, 101, 97, 100, 101, 114, 61, 116, 104, 105, 115, 124, 111, 119, 110, 101, 114, 124, 112, 97, 114, 101, 110, 116, 45, 62, 114, 101, 97, 100, 101, 114]⟩, ⟨#[100, 111, 99, 35, 116, 114, 117, 115, 116, 101, 100, 61, 116, 104, 105, 115]⟩, ⟨#[100, 111, 99, 35, 101, 100, 105, 116, 111, 114, 61, 114, 101, 97, 100, 101, 114, 38, 116, 114, 117, 115, 116, 101, 100]⟩, ⟨#[100, 111, 99, 35, 98, 111, 116, 104, 61, 40, 111, 119, 110, 101, 114, 124, 116, 114, 117, 115, 116, 101, 100, 41, 38, 40, 116, 104, 105, 115, 124, 114, 101, 97, 100, 101, 114, 41]⟩]
def thisW : WayT := .mk 0 noneB noneB []
set_option maxRecDepth 100000
theorem kr_member (n : ByteArray) : ruleN krules ⟨groupB, n, memberB⟩ = thisW := by kernel_rfl
theorem kr_reader (n : ByteArray) : ruleN krules ⟨docB, n, readerB⟩ = .mk 3 noneB noneB [thisW, .mk 1 noneB ownerB [], .mk 2 parentB readerB []] := by kernel_rfl
theorem krules_ok : openErr krules = none := by decide +kernel
theorem krules_len : krules.length = 7 := rfl
theorem krules_any (w : World) : Calls Tryz.prog 38 #[] w fun e w' => e = .returned (.slice (some ⟨w.heap.size, 0, none⟩) 7 7) /\ RowAt w' w.heap.size krules /\ Below w.heap.size w w' := by
 go_enter Tryz.func38, Tryz.ntmps38
 go_wp2
 go_ret
 exact ⟨rfl, alloc_new w (strV krules) _, (Below.refl _ _).alloc (Nat.le_refl _) _⟩
end Go.Proofs.YtalmoiogbdahcaaGreat
