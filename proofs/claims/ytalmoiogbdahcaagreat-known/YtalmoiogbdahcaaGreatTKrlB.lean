import Derived.Test.YtalmoiogbdahcaaGreatTSetA
import Derived.Test.YtalmoiogbdahcaaGreatTKrlA
import Derived.Test.YtalmoiogbdahcaaGreatTKepA
namespace Go.Proofs.YtalmoiogbdahcaaGreat
set_option maxRecDepth 100000
set_option maxHeartbeats 8000000
open Go.RowKit
def kPre (k : Nat) : ByteArray := if k <= 3 then ⟨#[103, 114, 111, 117, 112, 58]⟩ else ⟨#[100, 111, 99, 58]⟩
def kMid (k : Nat) : ByteArray :=
 if k <= 1 then ⟨#[35, 109, 101, 109, 98, 101, 114, 64, 117, 115, 101, 114, 58]⟩ else if k <= 3 then ⟨#[35, 109, 101, 109, 98, 101, 114, 64, 103, 114, 111, 117, 112, 58]⟩ else if k = 4 then ⟨#[35, 112, 97, 114, 101, 110, 116, 64, 100, 111, 99, 58]⟩ else if k = 5 then ⟨#[35, 114, 101, 97, 100, 101, 114, 64, 103, 114, 111, 117, 112, 58]⟩ else if k = 6 then ⟨#[35, 111, 119, 110, 101, 114, 64, 117, 115, 101, 114, 58]⟩ else if k = 7 then ⟨#[35, 116, 114, 117, 115, 116, 101, 100, 64, 103, 114, 111, 117, 112, 58]⟩ else ⟨#[35, 98, 111, 116, 104, 64, 117, 115, 101, 114, 58]⟩
def kEnd (k : Nat) : ByteArray := if k = 2 \/ k = 3 \/ k = 5 \/ k = 7 then ⟨#[35, 109, 101, 109, 98, 101, 114]⟩ else ⟨#[]⟩
def kT (k a b : Nat) : ByteArray := kPre k ++ letS a ++ kMid k ++ letS b ++ kEnd k
end Go.Proofs.YtalmoiogbdahcaaGreat
