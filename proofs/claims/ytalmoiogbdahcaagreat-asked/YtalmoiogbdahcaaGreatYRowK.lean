/- PROVED: 'gatehouselaw.Asked' returns true at every script that can be handed to it, and leaves the script as it was. No condition. -/
import Derived.Test.YtalmoiogbdahcaaGreatYLawP
import Derived.Test.YtalmoiogbdahcaaGreatYTieF
import Derived.Test.YtalmoiogbdahcaaGreatYTieP
import Derived.Test.YtalmoiogbdahcaaGreatYStpE
import Derived.Test.YtalmoiogbdahcaaGreatYRowB
import Derived.Test.YtalmoiogbdahcaaGreatYWhzA
import Derived.Test.YtalmoiogbdahcaaGreatYTieD2
import Derived.Test.YtalmoiogbdahcaaGreatRows
import Derived.Lib.RowBridge
namespace Go.Proofs.YtalmoiogbdahcaaGreat
set_option maxRecDepth 100000
set_option maxHeartbeats 8000000
open Go.ChangeShapes Go.WideShapes Go.ChangeAt Go.RowKit Go.Deep
theorem asked_any (W : World) (x : Option Addr) (n c : Nat) (h : Calls Tryz.prog 13 #[.slice x n c, .int .i64 6] W fun e w' => e = .returned (.bool true) /\ Below W.heap.size W w') :
  Calls Tryz.prog 4 #[.slice x n c] W fun e w' => e = .returned (.bool true) /\ Below W.heap.size W w' := by
 have HP : Hid (Calls Tryz.prog 13 #[.slice x n c, .int .i64 6] W fun e w' => e = .returned (.bool true) /\ Below W.heap.size W w') := h
 clear h
 go_enter Tryz.func4, Tryz.ntmps4
 go_wp2_with (go_at_call 13; refine HP.out.mono ?_; rintro e w' ⟨rfl, hb⟩)
 go_ret
 exact ⟨rfl, hb⟩
theorem Tryz.aOwn : ownKnob Tryz.prog.godebug = none := by kernel_rfl
theorem Tryz.aLaidOut : laidOutB Tryz.prog = true := by kernel_rfl
theorem tway_all : TWayC := by
 intro U w lo tb L S f who xs h hr x kx hk hrr
 exact tiesWay_any h hr kx hk hrr
theorem asked_lifted (os : Os) (started : os.Started) (H : Type) (enc : TypeId × Value -> H) :
  ReturnsInHanded {} Tryz.checked os 4 .any (Rows.askedSpec.pre6 enc Tryz.prog Tryz.f4 Rows.askedRow.domain false) (Rows.askedSpec.post enc Tryz.prog Tryz.f4 false true false false) := by
 refine returnsInHanded_of_change_sized (C := Tryz.checked) Tryz.aOwn started (by kernel_rfl) Tryz.func4
  (ChangeSpec.witness6 (enc := enc) (C := Tryz.checked) false ⟨#[], #[.slice none 0 0], []⟩ 8 (by kernel_rfl) (by kernel_rfl) (by kernel_rfl) (by kernel_rfl)) ?_
 intro W base args ds gs before hval0 hW _ hsz0 _
 have hsz : (DataW.weightsEach Tryz.prog (Tryz.f4.params.toList ++ Rows.askedSpec.plain.varTypes Tryz.prog) (ds ++ gs)).all (· <= reachBytes) = true := hsz0
 clear hsz0
 have hval : ∀ (j : Nat) t v, Tryz.f4.params[j]? = some t -> args[j]? = some v -> Value.okWide Tryz.prog W .any base t v := hval0
 have hW' := hW
 obtain ⟨p, q, hA0, hV, rfl, _, _⟩ := hW
 have hA : DataW.TrodAll enc Tryz.prog W 0 (fun _ => true) true Tryz.f4.params.toList args.toList ds p := hA0
 rw [Tryz.params4] at hA hval hsz
 obtain ⟨v0, d0, rfl, rfl, h0⟩ := trodAll_one hA
 obtain ⟨rfl, rfl⟩ := trodVars_none hV
 obtain ⟨a0, len, cap, rfl⟩ := okWide_slice Tryz.underlying22 (hval 0 22 v0 rfl rfl)
 have h0k := h0
 obtain ⟨fuel, hf⟩ := h0
 clear hA0 hval0
 simp only [List.append_nil] at hW'
 have hlt : ∀ y ∈ p, y.block < W.heap.size := fun y hy => by simpa using hW'.lt y (by simp [hy])
 have hargs : ∀ W' : World, Below W.heap.size W W' -> DataW.Trod enc Tryz.prog W' 0 (fun b => decide (b < W.heap.size)) true 22 (.slice a0 len cap) d0 p :=
  fun W' hb => Below.trod Tryz.aLaidOut (by kernel_rfl) (of_decide_eq_true (by kernel_rfl)) h0k hb hlt
 have hw : ∀ k ∈ d0.weights Tryz.prog 22, k <= reachBytes := fun k hk => by
  have := List.all_eq_true.1 hsz k (DataW.weights_mem_each (j := 0) (t := 22) (d := d0) rfl rfl k hk)
  simpa using this
 have key : Calls Tryz.prog 13 #[.slice a0 len cap, .int .i64 6] W fun e w' => e = .returned (.bool true) /\ Below W.heap.size W w' := by
  rcases script_open2 hf hw with rfl | ⟨b, off, ops, rfl, h1, h2, h3, h4⟩
  ·exact playsZ_zero W a0 cap 6
  ·exact playsA_some tiesNode_any tway_all refWho_any refNeeds_any W b off cap len ops h2 h1 h4 h3
 refine (asked_any W a0 len cap key).mono fun e W' ⟨he, hb⟩ => ?_
 subst he
 refine ⟨_, rfl, _, _, _, [], _, [], hW', trodAll_mk1 (shut_bool Tryz.underlying4 true), trodAll_mk1 (hargs W' hb), rfl, hb.frame _, fun h => by cases h⟩
theorem asked_holds : Rows.AskedSaid :=
 OpenClaim.holds_of_wide 4 Tryz.f4 rfl rfl rfl rfl rfl rfl rfl ⟨rfl, rfl, rfl, rfl, rfl⟩ rfl rfl rfl rfl rfl (by kernel_rfl) Tryz.func4 (by kernel_rfl)
  (of_decide_eq_true (by kernel_rfl)) (by unfold Func.isWrapper; first | (rw [if_pos (by decide +kernel)]; kernel_rfl) | (rw [if_neg (by decide +kernel)]; exact ⟨rfl, rfl⟩))
  (fun os started H enc _ => asked_lifted os started H enc)
#print axioms asked_holds
end Go.Proofs.YtalmoiogbdahcaaGreat
