/- PROVED: 'gatehousekeep.Known' returns true at every number that can be handed to it. No condition. -/
import Derived.Test.YtalmoiogbdahcaaGreatNKnA
import Derived.Test.YtalmoiogbdahcaaGreatYTieF
import Derived.Test.YtalmoiogbdahcaaGreatYTieP
import Derived.Test.YtalmoiogbdahcaaGreatYTieD2
import Derived.Test.YtalmoiogbdahcaaGreatPRowH0
import Derived.Test.YtalmoiogbdahcaaGreatRows
import Derived.Lib.RowBridge
namespace Go.Proofs.YtalmoiogbdahcaaGreat
set_option maxRecDepth 100000
set_option maxHeartbeats 8000000
open Go.ChangeShapes Go.WideShapes Go.ChangeAt Go.RowKit Go.Deep
theorem Tryz.kOwn : ownKnob Tryz.prog.godebug = none := by kernel_rfl
theorem Tryz.kLaidOut : laidOutB Tryz.prog = true := by kernel_rfl
theorem tway_known : TWayC := by
 intro U w lo tb L S f who xs h hr x kx hk hrr
 exact tiesWay_any h hr kx hk hrr
theorem known_lifted (os : Os) (started : os.Started) (H : Type) (enc : TypeId × Value -> H) :
  ReturnsInHanded {} Tryz.checked os 9 .any (Rows.knownSpec.pre6 enc Tryz.prog Tryz.f9 Rows.knownRow.domain false) (Rows.knownSpec.post enc Tryz.prog Tryz.f9 false true false false) := by
 refine returnsInHanded_of_change_sized (C := Tryz.checked) Tryz.kOwn started (by kernel_rfl) Tryz.func9
  (ChangeSpec.witness6 (enc := enc) (C := Tryz.checked) false ⟨#[], #[.int .i64 0], []⟩ 8 (by kernel_rfl) (by kernel_rfl) (by kernel_rfl) (by kernel_rfl)) ?_
 intro W base args ds gs before hval0 hW _ _ _
 have hval : ∀ (j : Nat) t v, Tryz.f9.params[j]? = some t -> args[j]? = some v -> Value.okWide Tryz.prog W .any base t v := hval0
 have hW' := hW
 obtain ⟨p, q, hA0, hV, rfl, _, _⟩ := hW
 have hA : DataW.TrodAll enc Tryz.prog W 0 (fun _ => true) true Tryz.f9.params.toList args.toList ds p := hA0
 rw [Tryz.params9] at hA hval
 obtain ⟨v0, d0, rfl, rfl, h0⟩ := trodAll_one hA
 obtain ⟨rfl, rfl⟩ := trodVars_none hV
 obtain ⟨n0, rfl⟩ := okWide_int Tryz.underlying3 (hval 0 3 v0 rfl rfl)
 have h0k := h0
 obtain ⟨fuel, hf⟩ := h0
 clear hA0 hval0
 simp only [List.append_nil] at hW'
 have hlt0 : ∀ y ∈ p, y.block < W.heap.size := fun y hy => by simpa using hW'.lt y (by simp [hy])
 have hargs0 : ∀ W' : World, Below W.heap.size W W' -> DataW.Trod enc Tryz.prog W' 0 (fun b => decide (b < W.heap.size)) true 3 (.int .i64 n0) d0 p :=
  fun W' hb => Below.trod Tryz.kLaidOut (by kernel_rfl) (of_decide_eq_true (by kernel_rfl)) h0k hb hlt0
 obtain ⟨m0, hm0, ha1, ha2⟩ := int_open hf
 injection hm0 with _ hm0
 subst hm0
 refine (known_any tiesNode_any tway_known W _ ha1 ha2).mono fun e W' ⟨he, hb⟩ => ?_
 subst he
 refine ⟨_, rfl, _, _, _, [], _, [], hW', trodAll_mk1 (shut_bool Tryz.underlying4 true), trodAll_mk1 (hargs0 W' hb), rfl, hb.frame _, fun h => by cases h⟩
theorem known_holds : Rows.KnownSaid :=
 OpenClaim.holds_of_wide 9 Tryz.f9 rfl rfl rfl rfl rfl rfl rfl ⟨rfl, rfl, rfl, rfl, rfl⟩ rfl rfl rfl rfl rfl (by kernel_rfl) Tryz.func9 (by kernel_rfl)
  (of_decide_eq_true (by kernel_rfl)) (by unfold Func.isWrapper; first | (rw [if_pos (by decide +kernel)]; kernel_rfl) | (rw [if_neg (by decide +kernel)]; exact ⟨rfl, rfl⟩))
  (fun os started H enc _ => known_lifted os started H enc)
#print axioms known_holds
end Go.Proofs.YtalmoiogbdahcaaGreat
