/- PROVED: 'gatehouselaw.All' returns true at every script that can be handed to it, and leaves the script as it was. No condition. -/
import Derived.Test.YtalmoiogbdahcaaGreatARowB
import Derived.Test.YtalmoiogbdahcaaGreatAAllXs
import Derived.Test.YtalmoiogbdahcaaGreatAWhzA
import Derived.Test.YtalmoiogbdahcaaGreatATieD2
import Derived.Test.YtalmoiogbdahcaaGreatRows
open Go.Proofs.Tryz
namespace Go.Proofs.YtalmoiogbdahcaaGreat
set_option maxRecDepth 100000
set_option maxHeartbeats 8000000
open Go.ChangeShapes Go.WideShapes Go.ChangeAt Go.RowKit Go.Deep
theorem Gm(W:World)(x:Option Addr)(n c:Nat)(h:Calls prog 13 #[.slice x n c,.int .i64 12] W λe w'=>e=.returned (.bool true)/\Below W.heap.size W w'):
  Calls prog 5 #[.slice x n c] W λe w'=>e=.returned (.bool true)/\Below W.heap.size W w':=by
 have HP:Hid (Calls prog 13 #[.slice x n c,.int .i64 12] W λe w'=>e=.returned (.bool true)/\Below W.heap.size W w'):=h;clear h;go_enter func5,ntmps5
 go_wp2_with(go_at_call 13;refine HP.out.mono ?_;rintro e w' ⟨rfl,hb⟩)
 go_ret;exact⟨rfl,hb⟩
theorem Tryz.lOwn:ownKnob prog.godebug=none:=by kernel_rfl
theorem Tryz.lLaidOut:laidOutB prog=true:=by kernel_rfl
theorem YB:xh:=by
 intro U w lo tb L S f who xs h hr x kx hk h0;exact wY h hr kx hk h0
theorem Z6(os:Os)(started:os.Started)(H:Type)(enc:TypeId×Value->H):
  ReturnsInHanded {} checked os 5 .any (Rows.allSpec.pre6 enc prog Tryz.f5 Rows.allRow.domain false) (Rows.allSpec.post enc prog Tryz.f5 false true false false):=by
 refine returnsInHanded_of_change_sized (C:=checked) Tryz.lOwn started (by kernel_rfl) func5
  (ChangeSpec.witness6 (enc:=enc) (C:=checked) false ⟨#[],#[.slice none 0 0],[]⟩ 8 (by kernel_rfl) (by kernel_rfl) (by kernel_rfl) (by kernel_rfl)) ?_
 intro W base args ds gs before h5 hW _ h7 _;have ha:(DataW.weightsEach prog (Tryz.f5.params.toList++Rows.allSpec.plain.varTypes prog) (ds++gs)).all (· <=reachBytes)=true:=h7;clear h7;have h8: ∀(j:Nat) t v,Tryz.f5.params[j]?=some t->args[j]?=some v->Value.okWide prog W .any base t v:=h5;have h9:=hW;obtain⟨p,q,hc,hV,rfl,_,_⟩:=hW;have hA:DataW.TrodAll enc prog W 0 (λ_=>true) true Tryz.f5.params.toList args.toList ds p:=hc;rw[params5]at hA h8 ha;obtain⟨v0,d0,rfl,rfl,h0⟩:=trodAll_one hA;obtain⟨rfl,rfl⟩:=trodVars_none hV;obtain⟨a0,len,cap,rfl⟩:=okWide_slice underlying22 (h8 0 22 v0 rfl rfl);have hd:=h0;obtain⟨fuel,hf⟩:=h0;clear hc h5;simp only[List.append_nil]at h9;have hg: ∀y∈p,y.block<W.heap.size:=λy hy=>by simpa using h9.lt y (by simp[hy])
 have h6: ∀W':World,Below W.heap.size W W'->DataW.Trod enc prog W' 0 (λb=>decide (b<W.heap.size)) true 22 (.slice a0 len cap) d0 p:=
  λW' hb=>Below.trod Tryz.lLaidOut (by kernel_rfl) (of_decide_eq_true (by kernel_rfl)) hd hb hg
 have hw: ∀k∈d0.weights prog 22,k<=reachBytes:=λk hk=>by
  have:=List.all_eq_true.1 ha k (DataW.weights_mem_each (j:=0) (t:=22) (d:=d0) rfl rfl k hk)
  simpa using this
 have key:Calls prog 13 #[.slice a0 len cap,.int .i64 12] W λe w'=>e=.returned (.bool true)/\Below W.heap.size W w':=by
  rcases fO hf hw with rfl|⟨b,off,ops,rfl,h1,h2,h3,h4⟩
  ·exact eQ W a0 cap 12
  ·exact eV fR YB Xg ox W b off cap len ops h2 h1 h4 h3
 refine(Gm W a0 len cap key).mono λe W' ⟨he,hb⟩=>?_;subst he;refine⟨_,rfl,_,_,_,[],_,[],h9,trodAll_mk1 (shut_bool underlying4 true),trodAll_mk1 (h6 W' hb),rfl,hb.frame _,λh=>by cases h⟩
theorem all_holds:Rows.AllSaid:=
 OpenClaim.holds_of_wide 5 Tryz.f5 rfl rfl rfl rfl rfl rfl rfl ⟨rfl,rfl,rfl,rfl,rfl⟩ rfl rfl rfl rfl rfl (by kernel_rfl) func5 (by kernel_rfl)
  (of_decide_eq_true (by kernel_rfl)) (by unfold Func.isWrapper;first|(rw[if_pos (by decide +kernel)];kernel_rfl)|(rw[if_neg (by decide +kernel)];exact⟨rfl,rfl⟩))
  (λos started H enc _=>Z6 os started H enc)
#print axioms all_holds
