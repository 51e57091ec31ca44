import Derived.Test.YtalmoiogbdahcaaGreatTSetA
import Derived.Test.YtalmoiogbdahcaaGreatTGhG
import Derived.ProofKit
import Derived.SizedLaws
import Derived.Deep.Slices
namespace Go.Proofs.YtalmoiogbdahcaaGreat
set_option maxRecDepth 100000
set_option maxHeartbeats 8000000
open Go.ChangeShapes Go.WideShapes Go.ChangeAt Go.RowKit Go.Deep
section
variable {H : Type} {enc : TypeId × Value -> H} {W : World}
theorem int_open {fuel : Nat} {v : Value} {y : DataW H × List MemPlace} (h : DataW.trod enc Tryz.prog W 0 (fun _ => true) true fuel 3 [v] = some y) : ∃ n, v = .int .i64 n /\ -9223372036854775808 <= n /\ n <= 9223372036854775807 := by
 obtain ⟨n, hcs, -, hwf⟩ := DataW.trod_int Tryz.underlying3 h
 injection hcs with hcs
 refine ⟨n, hcs, ?_⟩
 simp only [Lit.wf, Bool.and_eq_true, decide_eq_true_eq] at hwf
 obtain ⟨h1, h2⟩ := hwf
 have m1 : IntKind.i64.min = -9223372036854775808 := by kernel_rfl
 have m2 : IntKind.i64.max = 9223372036854775807 := by kernel_rfl
 exact ⟨m1 ▸ h1, m2 ▸ h2⟩
instance : Inhabited OpR := ⟨⟨0, 0, 0, 0, ByteArray.empty, .slice none 0 0, []⟩⟩
end
end Go.Proofs.YtalmoiogbdahcaaGreat
