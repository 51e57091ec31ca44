/- PROVED: 'gatehousekeep.Timed' returns true at every three numbers that can be handed to it. No condition. -/
import Derived.Test.YtalmoiogbdahcaaGreatTSetA
import Derived.Test.YtalmoiogbdahcaaGreatTRowA
import Derived.Test.YtalmoiogbdahcaaGreatTKrlB
import Derived.Test.YtalmoiogbdahcaaGreatTAskA
import Derived.Test.YtalmoiogbdahcaaGreatTKrlC
import Derived.Test.YtalmoiogbdahcaaGreatTTimD
import Derived.Test.YtalmoiogbdahcaaGreatYTieF
import Derived.Test.YtalmoiogbdahcaaGreatYTieP
import Derived.Test.YtalmoiogbdahcaaGreatYTieD2
import Derived.Test.YtalmoiogbdahcaaGreatRows
import Derived.Lib.RowBridge
import Derived.ChangeSlices
import Derived.Maps.AppendAt
namespace Go.Proofs.YtalmoiogbdahcaaGreat
set_option maxRecDepth 100000
set_option maxHeartbeats 8000000
open Go.ChangeShapes Go.WideShapes Go.ChangeAt Go.RowKit Go.Deep
theorem Tryz.tOwn : ownKnob Tryz.prog.godebug = none := by kernel_rfl
theorem Tryz.tLaidOut : laidOutB Tryz.prog = true := by kernel_rfl
theorem tway_timed : TWayC := by
 intro U w lo tb L S f who xs h hr x kx hk hrr
 exact tiesWay_any h hr kx hk hrr
theorem timed_lifted (os : Os) (started : os.Started) (H : Type) (enc : TypeId × Value -> H) :
  ReturnsInHanded {} Tryz.checked os 11 .any (Rows.timedSpec.pre6 enc Tryz.prog Tryz.f11 Rows.timedRow.domain false) (Rows.timedSpec.post enc Tryz.prog Tryz.f11 false true false false) := by
 refine returnsInHanded_of_change_sized (C := Tryz.checked) Tryz.tOwn started (by kernel_rfl) Tryz.func11
  (ChangeSpec.witness6 (enc := enc) (C := Tryz.checked) false ⟨#[], #[.int .i64 0, .int .i64 0, .int .i64 0], []⟩ 8 (by kernel_rfl) (by kernel_rfl) (by kernel_rfl) (by kernel_rfl)) ?_
 intro W base args ds gs before hval0 hW _ _ _
 have hval : ∀ (j : Nat) t v, Tryz.f11.params[j]? = some t -> args[j]? = some v -> Value.okWide Tryz.prog W .any base t v := hval0
 have hW' := hW
 obtain ⟨p, q, hA0, hV, rfl, _, _⟩ := hW
 have hA : DataW.TrodAll enc Tryz.prog W 0 (fun _ => true) true Tryz.f11.params.toList args.toList ds p := hA0
 rw [Tryz.params11] at hA hval
 obtain ⟨v0, v2, v1, d0, d2, d1, p0, p2, p1, rfl, rfl, rfl, h0, h2, h1⟩ := trodAll_three hA
 obtain ⟨rfl, rfl⟩ := trodVars_none hV
 obtain ⟨n0, rfl⟩ := okWide_int Tryz.underlying3 (hval 0 3 v0 rfl rfl)
 obtain ⟨n2, rfl⟩ := okWide_int Tryz.underlying3 (hval 1 3 v2 rfl rfl)
 obtain ⟨n1, rfl⟩ := okWide_int Tryz.underlying3 (hval 2 3 v1 rfl rfl)
 have h0k := h0
 have h1k := h1
 have h2k := h2
 obtain ⟨fuel, hf⟩ := h0
 obtain ⟨fuel2, hf2⟩ := h2
 clear hA0 hval0
 simp only [List.append_nil] at hW'
 have hlt0 : ∀ y ∈ p0, y.block < W.heap.size := fun y hy => by simpa using hW'.lt y (by simp [hy])
 have hlt2 : ∀ y ∈ p2, y.block < W.heap.size := fun y hy => by simpa using hW'.lt y (by simp [hy])
 have hlt1 : ∀ y ∈ p1, y.block < W.heap.size := fun y hy => by simpa using hW'.lt y (by simp [hy])
 have hargs0 : ∀ W' : World, Below W.heap.size W W' -> DataW.Trod enc Tryz.prog W' 0 (fun b => decide (b < W.heap.size)) true 3 (.int .i64 n0) d0 p0 :=
  fun W' hb => Below.trod Tryz.tLaidOut (by kernel_rfl) (of_decide_eq_true (by kernel_rfl)) h0k hb hlt0
 have hargs1 : ∀ W' : World, Below W.heap.size W W' -> DataW.Trod enc Tryz.prog W' 0 (fun b => decide (b < W.heap.size)) true 3 (.int .i64 n1) d1 p1 :=
  fun W' hb => Below.trod Tryz.tLaidOut (by kernel_rfl) (of_decide_eq_true (by kernel_rfl)) h1k hb hlt1
 have hargs2 : ∀ W' : World, Below W.heap.size W W' -> DataW.Trod enc Tryz.prog W' 0 (fun b => decide (b < W.heap.size)) true 3 (.int .i64 n2) d2 p2 :=
  fun W' hb => Below.trod Tryz.tLaidOut (by kernel_rfl) (of_decide_eq_true (by kernel_rfl)) h2k hb hlt2
 obtain ⟨m0, hm0, ha1, ha2⟩ := int_open hf
 injection hm0 with _ hm0
 subst hm0
 obtain ⟨m2, hm2, hb1, hb2⟩ := int_open hf2
 injection hm2 with _ hm2
 subst hm2
 refine (timed_any tiesNode_any tway_timed W _ _ n1 ha1 ha2 hb1 hb2).mono fun e W' ⟨he, hb⟩ => ?_
 subst he
 refine ⟨_, rfl, _, _, _, [], _, [], hW', trodAll_mk1 (shut_bool Tryz.underlying4 true), trodAll_mk3 (hargs0 W' hb) (hargs2 W' hb) (hargs1 W' hb), rfl, hb.frame _, fun h => by cases h⟩
theorem timed_holds : Rows.TimedSaid :=
 OpenClaim.holds_of_wide 11 Tryz.f11 rfl rfl rfl rfl rfl rfl rfl ⟨rfl, rfl, rfl, rfl, rfl⟩ rfl rfl rfl rfl rfl (by kernel_rfl) Tryz.func11 (by kernel_rfl)
  (of_decide_eq_true (by kernel_rfl)) (by unfold Func.isWrapper; first | (rw [if_pos (by decide +kernel)]; kernel_rfl) | (rw [if_neg (by decide +kernel)]; exact ⟨rfl, rfl⟩))
  (fun os started H enc _ => timed_lifted os started H enc)
#print axioms timed_holds
end Go.Proofs.YtalmoiogbdahcaaGreat
