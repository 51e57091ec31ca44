/- PROVED: 'gatehousekeep.Alone' returns true at every two lists of numbers and every number that can be handed to it, and leaves the lists as they were. No condition. -/
import Derived.Test.YtalmoiogbdahcaaGreatSKepB
import Derived.Test.YtalmoiogbdahcaaGreatYTieF
import Derived.Test.YtalmoiogbdahcaaGreatYTieP
import Derived.Test.YtalmoiogbdahcaaGreatYTieD2
import Derived.Test.YtalmoiogbdahcaaGreatRows
import Derived.Lib.RowBridge
namespace Go.Proofs.YtalmoiogbdahcaaGreat
set_option maxRecDepth 100000
set_option maxHeartbeats 8000000
open Go.ChangeShapes Go.WideShapes Go.ChangeAt Go.RowKit Go.Deep
theorem Tryz.aOwn : ownKnob Tryz.prog.godebug = none := by kernel_rfl
theorem Tryz.aLaidOut : laidOutB Tryz.prog = true := by kernel_rfl
theorem tway_alone : TWayC := by
 intro U w lo tb L S f who xs h hr x kx hk hrr
 exact tiesWay_any h hr kx hk hrr
theorem alone_lifted (os : Os) (started : os.Started) (H : Type) (enc : TypeId × Value -> H) :
  ReturnsInHanded {} Tryz.checked os 10 .any (Rows.aloneSpec.pre6 enc Tryz.prog Tryz.f10 Rows.aloneRow.domain false) (Rows.aloneSpec.post enc Tryz.prog Tryz.f10 false true false false) := by
 refine returnsInHanded_of_change_sized (C := Tryz.checked) Tryz.aOwn started (by kernel_rfl) Tryz.func10
  (ChangeSpec.witness6 (enc := enc) (C := Tryz.checked) false ⟨#[], #[.slice none 0 0, .int .i64 0, .slice none 0 0], []⟩ 8 (by kernel_rfl) (by kernel_rfl) (by kernel_rfl) (by kernel_rfl)) ?_
 intro W base args ds gs before hval0 hW _ _ _
 have hval : ∀ (j : Nat) t v, Tryz.f10.params[j]? = some t -> args[j]? = some v -> Value.okWide Tryz.prog W .any base t v := hval0
 have hW' := hW
 obtain ⟨p, q, hA0, hV, rfl, _, _⟩ := hW
 have hA : DataW.TrodAll enc Tryz.prog W 0 (fun _ => true) true Tryz.f10.params.toList args.toList ds p := hA0
 rw [Tryz.params10] at hA hval
 obtain ⟨v0, v1, v2, d0, d1, d2, p0, p1, p2, rfl, rfl, rfl, h0, h1, h2⟩ := trodAll_three hA
 obtain ⟨rfl, rfl⟩ := trodVars_none hV
 obtain ⟨a0, len, cap, rfl⟩ := okWide_slice Tryz.underlying25 (hval 0 25 v0 rfl rfl)
 obtain ⟨a2, len2, cap2, rfl⟩ := okWide_slice Tryz.underlying25 (hval 2 25 v2 rfl rfl)
 obtain ⟨n1, rfl⟩ := okWide_int Tryz.underlying3 (hval 1 3 v1 rfl rfl)
 have h0k := h0
 have h1k := h1
 have h2k := h2
 obtain ⟨fuel, hf⟩ := h0
 obtain ⟨fuel1, hf1⟩ := h1
 obtain ⟨fuel2, hf2⟩ := h2
 clear hA0 hval0
 simp only [List.append_nil] at hW'
 have hlt0 : ∀ y ∈ p0, y.block < W.heap.size := fun y hy => by simpa using hW'.lt y (by simp [hy])
 have hlt2 : ∀ y ∈ p2, y.block < W.heap.size := fun y hy => by simpa using hW'.lt y (by simp [hy])
 have hlt1 : ∀ y ∈ p1, y.block < W.heap.size := fun y hy => by simpa using hW'.lt y (by simp [hy])
 have hargs0 : ∀ W' : World, Below W.heap.size W W' -> DataW.Trod enc Tryz.prog W' 0 (fun b => decide (b < W.heap.size)) true 25 (.slice a0 len cap) d0 p0 :=
  fun W' hb => Below.trod Tryz.aLaidOut (by kernel_rfl) (of_decide_eq_true (by kernel_rfl)) h0k hb hlt0
 have hargs1 : ∀ W' : World, Below W.heap.size W W' -> DataW.Trod enc Tryz.prog W' 0 (fun b => decide (b < W.heap.size)) true 3 (.int .i64 n1) d1 p1 :=
  fun W' hb => Below.trod Tryz.aLaidOut (by kernel_rfl) (of_decide_eq_true (by kernel_rfl)) h1k hb hlt1
 have hargs2 : ∀ W' : World, Below W.heap.size W W' -> DataW.Trod enc Tryz.prog W' 0 (fun b => decide (b < W.heap.size)) true 25 (.slice a2 len2 cap2) d2 p2 :=
  fun W' hb => Below.trod Tryz.aLaidOut (by kernel_rfl) (of_decide_eq_true (by kernel_rfl)) h2k hb hlt2
 obtain ⟨cs, hc1, hc2, hc3⟩ := ints_open hf
 obtain ⟨cs2, hd1, hd2, hd3⟩ := ints_open hf2
 obtain ⟨n, hne, hn1, hn2⟩ := int_open hf1
 injection hne with _ hne
 subst hne
 refine (alone_any tiesNode_any tway_alone hc1 hc2 hc3 _ hn1 hn2 hd1 hd2 hd3).mono fun e W' ⟨he, hb⟩ => ?_
 subst he
 refine ⟨_, rfl, _, _, _, [], _, [], hW', trodAll_mk1 (shut_bool Tryz.underlying4 true), trodAll_mk3 (hargs0 W' hb) (hargs1 W' hb) (hargs2 W' hb), rfl, hb.frame _, fun h => by cases h⟩
theorem alone_holds : Rows.AloneSaid :=
 OpenClaim.holds_of_wide 10 Tryz.f10 rfl rfl rfl rfl rfl rfl rfl ⟨rfl, rfl, rfl, rfl, rfl⟩ rfl rfl rfl rfl rfl (by kernel_rfl) Tryz.func10 (by kernel_rfl)
  (of_decide_eq_true (by kernel_rfl)) (by unfold Func.isWrapper; first | (rw [if_pos (by decide +kernel)]; kernel_rfl) | (rw [if_neg (by decide +kernel)]; exact ⟨rfl, rfl⟩))
  (fun os started H enc _ => alone_lifted os started H enc)
#print axioms alone_holds
end Go.Proofs.YtalmoiogbdahcaaGreat
