import Derived.Test.YtalmoiogbdahcaaGreatZKrlA
import Derived.Test.YtalmoiogbdahcaaGreatYRefH
import Derived.Test.YtalmoiogbdahcaaGreatZLawP
import Derived.Test.YtalmoiogbdahcaaGreatYTieC0
namespace Go.Proofs.YtalmoiogbdahcaaGreat
set_option maxRecDepth 100000
set_option maxHeartbeats 8000000
open Go.RowKit
def editorB : ByteArray := ⟨#[101, 100, 105, 116, 111, 114]⟩
set_option maxRecDepth 100000
end Go.Proofs.YtalmoiogbdahcaaGreat
