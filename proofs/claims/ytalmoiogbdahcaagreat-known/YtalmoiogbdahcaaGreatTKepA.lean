import Derived.Test.YtalmoiogbdahcaaGreatTSetA
import Derived.Test.YtalmoiogbdahcaaGreatYRefE
import Derived.Test.YtalmoiogbdahcaaGreatYLawA
import Derived.Laws.IdiomStrings
namespace Go.Proofs.YtalmoiogbdahcaaGreat
set_option maxRecDepth 100000
set_option maxHeartbeats 8000000
open Go.RowKit
theorem kPick_any (c n : Int) (w : World) (h1 : -9223372036854775808 <= c) (h2 : c <= 9223372036854775807) (h3 : 0 < n) (h4 : n <= 9223372036854775807) :
  Calls Tryz.prog 17 #[.int .i64 c, .int .i64 n] w fun e w' => e = .returned (.int .i64 (pickN c n)) /\ w' = w := by
 by_cases h : c < 0
 ·go_enter Tryz.func17, Tryz.ntmps17
  go_wp2
  go_ret
  refine ⟨ret_int ?_, rfl⟩
  unfold pickN
  rw [if_pos h, ← Int.tmod_eq_emod_of_nonneg (by omega), Int.neg_tmod]
 ·go_enter Tryz.func17, Tryz.ntmps17
  go_wp2
  go_ret
  refine ⟨ret_int ?_, rfl⟩
  unfold pickN
  rw [if_neg (by omega)]
def letS (n : Nat) : ByteArray := ⟨#[(97 + n % 4).toUInt8]⟩
end Go.Proofs.YtalmoiogbdahcaaGreat
