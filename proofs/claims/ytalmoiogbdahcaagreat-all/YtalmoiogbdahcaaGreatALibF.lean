import Derived.Test.YtalmoiogbdahcaaGreatARefG
import Derived.Test.YtalmoiogbdahcaaGreatALibE
open Go.Proofs.Tryz
namespace Go.Proofs.YtalmoiogbdahcaaGreat
set_option maxRecDepth 100000
set_option maxHeartbeats 8000000
open Go.RowKit
theorem ZN(t:BA)(w:World):Calls prog 100 #[.slice none 0 0,.string t] w λe w'=>e=.returned (.tuple #[.int .i64 0,.bool false])/\w'=w:=by
 go_enter func100,ntmps100;go_wp2;refine wp_loop_rounds 1 ?_;rw[rounds_succ];go_wp2;exact bodyPost_ret (v:=.tuple #[.int .i64 0,.bool false]) (by simp[results,results100,go_sem]) rfl ⟨rfl,rfl⟩
def zy(xs:List BA):Prop:=xs.Pairwise λa b=>ltB a b=true
theorem j9(a b:BA):ltB a b=true↔a.data.toList<b.data.toList:=by
 unfold ltB;rw[Lib.toList_data,Lib.toList_data,bytesLess_eq];simp
theorem kK(a:BA):ltB a a=false:=by
 cases h:ltB a a
 ·rfl
 ·exact absurd ((j9 a a).1 h) (List.lt_irrefl _)
variable{a b:BA}
theorem sW{c:BA}(h1:ltB a b=true)(h2:ltB b c=true):ltB a c=true:=
 (j9 a c).2 (List.lt_trans ((j9 a b).1 h1) ((j9 b c).1 h2))
theorem Ya(h:ltB a b=true):ltB b a=false:=by
 cases e:ltB b a
 ·rfl
 ·exact absurd (sW h e) (by rw[kK];decide)
theorem cC(a b:BA):(a.toList==b.toList)=true↔a=b:=by
 rw[Lib.toList_data,Lib.toList_data,beq_iff_eq];exact⟨λh=>ByteArray.ext (Array.ext' h),λh=>by rw[h]⟩
theorem sX(h1:ltB a b=false)(h2:a≠b):gtB a b=true:=by
 have e:(a.toList==b.toList)=false:=by
  cases h:(a.toList==b.toList)
  ·rfl
  ·exact absurd ((cC a b).1 h) h2
 unfold gtB;have:Op.bytesLess a.toList b.toList=false:=h1;rw[this,e];rfl
theorem Yb(h:ltB a b=true):gtB a b=false:=by
 unfold gtB;have:Op.bytesLess a.toList b.toList=true:=h;rw[this];rfl
theorem fh(h:a≠b):neB a b=true:=by
 unfold neB;cases e:(a.toList==b.toList)
 ·rfl
 ·exact absurd ((cC a b).1 e) h
theorem fi(a:BA):gtB a a=false/\neB a a=false:=by
 have:(a.toList==a.toList)=true:=(cC a a).2 rfl;unfold gtB neB;rw[this];simp
theorem Oc(h:ltB a b=true):a≠b:=by
 intro e;subst e;rw[kK]at h;cases h
theorem fj(s:BA): ∀(A:List BA) (q:Bool×List BA),(∀x∈A,ltB x s=true)->A.foldl (qC s) q=(q.1,q.2++A):=by
 intro A
 induction A with
 |nil=>intro q _;simp
 |cons x A ih=>
  intro q h;have hx:=h x (by simp)
  rw[List.foldl_cons,ih _ (λy hy=>h y (by simp[hy]))]
  unfold qC;rw[Yb hx,fh (Oc hx)];simp
theorem mg(s:BA): ∀(C:List BA) (acc:List BA),(∀x∈C,gtB x s=true/\x≠s)->C.foldl (qC s) (false,acc)=(false,acc++C):=by
 intro C
 induction C with
 |nil=>intro acc _;simp
 |cons x C ih=>
  intro acc h;have hx:=h x (by simp)
  rw[List.foldl_cons];have e:qC s (false,acc) x=(false,acc++[x]):=by unfold qC;rw[fh hx.2];simp
  rw[e,ih _ (λy hy=>h y (by simp[hy]))]
  simp
theorem sY(s:BA)(C:List BA)(acc:List BA)(b:Bool)(h: ∀x∈C,gtB x s=true/\x≠s):
  (C.foldl (qC s) (b,acc)).2++(if(C.foldl (qC s) (b,acc)).1 then[s]else[])=acc++(if b then[s]else[])++C:=by
 cases b
 ·rw[mg s C acc h];simp
 ·cases C with
  |nil=>simp
  |cons x C=>
   have hx:=h x (by simp)
   rw[List.foldl_cons];have e:qC s (true,acc) x=(false,acc++[s]++[x]):=by unfold qC;rw[hx.1,fh hx.2];simp
   rw[e,mg s C _ (λy hy=>h y (by simp[hy]))]
   simp
variable{i:Nat}{t:BA}{xs:List BA}
theorem sZ(h:vT xs t i): ∀x∈xs.take i,ltB x t=true:=by
 intro x hx;obtain⟨k,hk⟩:=OX.1 hx;have h0:k<i:=by have:=(OE.1 hk).1;rw[OQ]at this;omega
 rw[OJ h0]at hk;exact h.2.1 k x h0 hk
theorem oU(hs:zy xs){j:Nat}{x y:BA}(h0:i<j)(hx:xs[i]?=some x)(hy:xs[j]?=some y):ltB x y=true:=by
 have h1:=OE.1 hx;have h2:=OE.1 hy;obtain⟨a1,a2⟩:=h1;obtain⟨b1,b2⟩:=h2;rw[←a2,←b2];exact List.pairwise_iff_getElem.1 hs i j a1 b1 h0
theorem mh(hs:zy xs)(t:BA):G0 xs t:=by
 intro i j x y h0 hx hy h;by_cases e:i=j
 ·subst e;rw[hx]at hy;injection hy with hy;subst hy;exact h
 ·exact sW (oU hs (by omega) hx hy) h
theorem lF(hs:zy xs)(h:vT xs t i):
  (xs[i]?=some t/\xs=xs.take i++t::xs.drop (i+1)/\ ∀x∈xs.drop (i+1),gtB x t=true/\x≠t)\/(xs[i]?≠some t/\ ∀x∈xs.drop i,gtB x t=true/\x≠t):=by
 by_cases e:xs[i]?=some t
 ·left
  obtain⟨hi,he⟩:=OE.1 e;refine⟨e,?_,?_⟩
  ·have:=(O6 i xs).symm
   rw[List.drop_eq_getElem_cons hi,he]at this;exact this
  ·intro x hx
   obtain⟨k,hk⟩:=OX.1 hx;rw[OB]at hk;have h3:=oU hs (by omega) e hk
   have h0:x≠t:=λe'=>by rw[e']at h3;rw[kK]at h3;cases h3
   exact⟨sX (Ya h3) h0,h0⟩
 ·right
  refine⟨e,λx hx=>?_⟩;obtain⟨k,hk⟩:=OX.1 hx;rw[OB]at hk;have h4:=h.2.2 (i+k) x (by omega) hk
  have h0:x≠t:=by
   intro e';subst e';cases k with
   |zero=>exact e hk
   |succ k=>
    have h5:i<xs.length:=by have:=(OE.1 hk).1;omega
    obtain⟨y,hy⟩: ∃y,xs[i]?=some y:=⟨_,OC h5⟩;have h1:=oU hs (by omega) hy hk
    have h2:=h.2.2 i y (Uc _) hy;rw[h1]at h2;cases h2
  exact⟨sX h4 h0,h0⟩
theorem gz(hs:zy xs)(h:vT xs t i)(b:Bool):
  yN xs t b=if xs[i]?=some t then(if b then xs else jW xs i)else(if b then jV xs i t else xs):=by
 have h0:=sZ h;rcases lF hs h with⟨h1,h2,h3⟩|⟨h1,h2⟩
 ·rw[if_pos h1]
  have hw:yN xs t b=xs.take i++(if b then[t]else[])++xs.drop (i+1):=by
   conv=>lhs;rw[h2]
   unfold yN;rw[List.foldl_append,fj t _ _ h0,List.foldl_cons];have e:qC t (b,xs.take i) t=(b,xs.take i):=by
    unfold qC;rw[(fi t).1,(fi t).2];simp
   dsimp only;rw[List.nil_append,e];exact sY t _ _ b h3
  rw[hw];cases b
  ·simp[jW]
  ·simp only[if_true]
   rw[Ov];exact h2.symm
 ·rw[if_neg h1]
  have hw:yN xs t b=xs.take i++(if b then[t]else[])++xs.drop i:=by
   conv=>lhs;rw[←O6 i xs]
   unfold yN;rw[List.foldl_append,fj t _ _ h0];have:=sY t (xs.drop i) (xs.take i) b h2
   simpa using this
  rw[hw];cases b
  ·simp
  ·simp[jV]
theorem dM(hs:zy xs)(h:vT xs t i)(b:Bool):zy (yN xs t b):=by
 rw[gz hs h b];have h0:=sZ h;split
 ·cases b
  ·exact hs.sublist (by
    show(jW xs i).Sublist xs
    unfold jW
    conv=>rhs;rw[←O6 i xs]
    refine List.Sublist.append (List.Sublist.refl _) ?_;rw[←Ow];exact List.drop_sublist _ _)
  ·exact hs
 ·rename_i h5
  cases b
  ·exact hs
  ·rcases lF hs h with⟨h1,-,-⟩|⟨-,h2⟩
   ·exact absurd h1 h5
   ·show zy (jV xs i t)
    unfold jV zy;have hp:(xs.take i++xs.drop i).Pairwise λa b=>ltB a b=true:=by rw[O6];exact hs
    rw[List.pairwise_append]at hp;rw[List.pairwise_append];have h4: ∀x∈xs.drop i,ltB t x=true:=by
     intro x hx;obtain⟨k,hk⟩:=OX.1 hx;have:=(h2 x hx);have h6: ¬x.data.toList<t.data.toList:=by
      intro e;have:=(j9 x t).2 e;have g:=Yb this;rw[(h2 x hx).1]at g;cases g
     rw[j9];rcases List.le_total t.data.toList x.data.toList with h3|h3
     ·rcases Decidable.em (t.data.toList<x.data.toList)with h'|h'
      ·exact h'
      ·exfalso
       apply this.2;refine ByteArray.ext (Array.ext' ?_);exact List.le_antisymm (List.not_lt.1 h') h3
     ·exfalso
      apply this.2;exact ByteArray.ext (Array.ext' (List.le_antisymm h3 (List.not_lt.1 h6)))
    refine⟨hp.1,?_,?_⟩
    ·rw[O5];exact⟨h4,hp.2.1⟩
    ·intro a ha b hb
     rcases OT.1 hb with rfl|hb
     ·exact h0 a ha
     ·exact hp.2.2 a ha b hb
theorem gC(hs:zy xs)(t:BA): ∃i,vT xs t i:=by
 refine⟨(xs.takeWhile λx=>ltB x t).length,?_,?_,?_⟩
 ·exact(List.takeWhile_sublist _).length_le
 ·intro k x hk hx
  have hm:x∈xs.takeWhile λx=>ltB x t:=by
   have h1:(xs.takeWhile λx=>ltB x t)[k]?=some x:=by
    rw[←hx]
    conv=>rhs;rw[←List.takeWhile_append_dropWhile (p:=λx=>ltB x t) (l:=xs)]
    rw[Oz hk]
   exact OZ h1
  have ha:=List.all_takeWhile (p:=λx=>ltB x t) (l:=xs);rw[List.all_eq_true]at ha;exact ha x hm
 ·intro k x hk hx
  cases h:ltB x t
  ·rfl
  ·exfalso
   have h0: ∀j y,j<=k->xs[j]?=some y->ltB y t=true:=λj y hj hy=>mh hs t j k y x hj hy hx h;have h3:=(OE.1 hx).1;have hn:(xs.takeWhile λx=>ltB x t).length<xs.length:=by omega
   obtain⟨y,hy⟩: ∃y,xs[(xs.takeWhile λx=>ltB x t).length]?=some y:=⟨_,OC hn⟩;have h2:=h0 _ y hk hy;have hd:(xs.dropWhile λx=>ltB x t).head?=some y:=by
    rw[←hy]
    conv=>rhs;lhs;rw[←List.takeWhile_append_dropWhile (p:=λx=>ltB x t) (l:=xs)]
    rw[OA (Uc _),Uk,List.head?_eq_getElem?]
   have:=List.head?_dropWhile_not (λx=>ltB x t) xs;rw[hd]at this;simp[h2]at this
