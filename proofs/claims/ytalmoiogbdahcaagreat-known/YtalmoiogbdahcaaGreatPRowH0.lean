import Derived.Test.YtalmoiogbdahcaaGreatPKrlB
import Derived.Test.YtalmoiogbdahcaaGreatPKepB
import Derived.Test.YtalmoiogbdahcaaGreatTRowA
import Derived.ChangeSlices
namespace Go.Proofs.YtalmoiogbdahcaaGreat
set_option maxRecDepth 100000
set_option maxHeartbeats 8000000
open Go.ChangeShapes Go.WideShapes Go.ChangeAt Go.RowKit Go.Deep
section
variable {H : Type} {enc : TypeId × Value -> H} {W : World}
theorem ints_open {fuel : Nat} {v : Value} {x : DataW H × List MemPlace} (h : DataW.trod enc Tryz.prog W 0 (fun _ => true) true fuel 25 [v] = some x) :
  ∃ cs, IntsAt W v cs /\ (∀ c ∈ cs, -9223372036854775808 <= c /\ c <= 9223372036854775807) /\ cs.length <= 9223372036854775807 := by
 rcases open_ints Tryz.underlying25 Tryz.underlying3 Tryz.rIntCells h with ⟨hcs, -⟩ | ⟨a, len, cap, zs, hcs, -, hl, hm, hz, -, hcell, hwf⟩
 ·injection hcs with hcs
  exact ⟨[], Or.inl ⟨⟨none, 0, hcs⟩, rfl⟩, fun c hc => absurd hc List.not_mem_nil, Nat.zero_le _⟩
 ·injection hcs with hcs
  subst hcs
  simp only [if_true] at hz
  have hbd : ∀ c ∈ zs, -9223372036854775808 <= c /\ c <= 9223372036854775807 := by
   intro c hc
   have hw := hwf c hc
   simp only [Lit.wf, Bool.and_eq_true, decide_eq_true_eq] at hw
   have m1 : IntKind.i64.min = -9223372036854775808 := by kernel_rfl
   have m2 : IntKind.i64.max = 9223372036854775807 := by kernel_rfl
   exact ⟨m1 ▸ hw.1, m2 ▸ hw.2⟩
  refine ⟨zs.take len, ?_, fun c hc => hbd c (List.mem_of_mem_take hc), ?_⟩
  ·rcases Nat.eq_zero_or_pos len with h0 | h0
   ·subst h0
    exact Or.inl ⟨⟨_, cap, rfl⟩, by simp⟩
   ·obtain ⟨b, off, spot⟩ := a
    have hspot : spot = none := by simpa [Addr.add] using World.cell?_spot (hcell 0 (by omega))
    subst hspot
    have hcell' : ∀ j, j < zs.length -> W.cell? ⟨b, off + j, none⟩ = some (.int .i64 (zs.getD j 0)) := fun j hj => by rw [← add_plain]; exact hcell j hj
    refine Or.inr ⟨b, off, cap, by rw [List.length_take, Nat.min_eq_left (by omega)], cell_lt (hcell' 0 (by omega)), fun i c hc => ?_⟩
    rw [List.getElem?_take] at hc
    split at hc
    ·have hi : i < zs.length := (List.getElem?_eq_some_iff.1 hc).1
     rw [hcell' i hi, List.getD, hc]; rfl
    ·cases hc
  ·rw [List.length_take]
   unfold maxLen at hm
   omega
end
end Go.Proofs.YtalmoiogbdahcaaGreat
