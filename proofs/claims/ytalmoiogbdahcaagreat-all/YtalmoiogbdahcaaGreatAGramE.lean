import Derived.Test.YtalmoiogbdahcaaGreatAGramC
import Derived.Test.YtalmoiogbdahcaaGreatAWrdL
open Go.Proofs.Tryz
namespace Go.Proofs.YtalmoiogbdahcaaGreat
set_option maxRecDepth 100000
set_option maxHeartbeats 8000000
open Go.RowKit
theorem iK(s m:BA):qP s m=true↔ ∃r,s.data.toList=m.data.toList++r:=by
 unfold qP;rw[Lib.toList_data,Lib.toList_data,yD,Bool.and_eq_true,decide_eq_true_eq,beq_iff_eq,zC s,zC m]
 constructor
 ·rintro⟨-,h⟩
  refine⟨s.data.toList.drop m.data.toList.length,?_⟩;have e:=O6 m.data.toList.length s.data.toList;rw[h]at e;exact e.symm
 ·rintro⟨r,h⟩
  rw[h];simp
theorem iL(q:Rd)(m:BA)(r:List UInt8)(h:q.rest.data.toList=m.data.toList++r):qP q.rest m=true/\q.sees m={q with rest:=mk r}:=by
 have hp:=(iK q.rest m).2 ⟨r,h⟩;refine⟨hp,?_⟩;unfold Rd.sees;rw[hp];have e:q.rest.extract m.size q.rest.size=mk r:=yB (by rw[xO,h,zC,List.drop_left])
 show{q with rest:=q.rest.extract m.size q.rest.size}=_
 rw[e]
theorem cY(s m:BA)(h: ¬ ∃r,s.data.toList=m.data.toList++r):qP s m=false:=by
 cases hp:qP s m
 ·rfl
 ·exact absurd ((iK s m).1 hp) h
theorem uJ(a:List UInt8):uR (mk a)=true↔a=yn:=by
 unfold uR;rw[Lib.toList_data,qA,beq_iff_eq];rfl
theorem p9(q:Rd)(h:q.failed=true):q.relation.failed=true:=by
 unfold Rd.relation;split
 ·rfl
 ·exact yS q h
theorem bU(q:Rd)(h:q.failed=true):(xW q).2.failed=true:=by
 unfold xW;split
 ·exact yS q h
 ·split
  ·exact p9 _ (jF _ _ (yS q h))
  ·exact yS q h
variable{one:Rd->WayT×Rd}
theorem mH(ho: ∀q,q.failed=true->(one q).2.failed=true)(m:BA): ∀n acc q,q.failed=true->(zM one m n acc q).2.failed=true:=by
 intro n
 induction n with
 |zero=>intro acc q h;exact h
 |succ n ih=>
  intro acc q h;rw[zM];split
  ·exact ih _ _ (ho _ (jF _ _ h))
  ·exact h
theorem XZ(ho: ∀q,q.failed=true->(one q).2.failed=true)(q:Rd)(h:q.failed=true):(x7 one q).2.failed=true:=mH ho _ _ _ _ (ho q h)
theorem bV: ∀d q,q.failed=true->(qv d q).2.failed=true:=by
 intro d
 induction d with
 |zero=>
  intro q h;rw[qv];split
  ·rfl
  ·exact bU q h
 |succ d ih=>
  intro q h;rw[qv];split
  ·exact iG _ _ (XZ ih _ (jF _ _ h))
  ·exact bU q h
def ly(b:List UInt8):Prop:=b=[]\/ ∃c r,b=c::r/\(c=41\/c=124\/c=38)
variable{b:List UInt8}
theorem oK(h:ly b):r9 b:=by
 rcases h with rfl|⟨c,r,rfl,h⟩
 ·exact Or.inl rfl
 ·exact Or.inr ⟨c,r,rfl,by rcases h with rfl|rfl|rfl<;>decide⟩
theorem K1(h:ly b){c:UInt8}(hc:c≠41/\c≠124/\c≠38)(r:List UInt8):b≠c::r:=by
 rintro rfl;rcases h with h|⟨c',r',h,h2⟩
 ·cases h
 ·injection h with h _
  subst h;rcases h2 with h2|h2|h2
  ·exact hc.1 h2
  ·exact hc.2.1 h2
  ·exact hc.2.2 h2
variable{q:Rd}
theorem mI{l:List UInt8}(h:q.rest.data.toList=l++b)(hl: ∃c r,l=c::r/\c≠40):qP q.rest opB=false:=by
 obtain⟨c,r,rfl,hc⟩:=hl;refine cY _ _ ?_;rintro⟨x,hx⟩;rw[h]at hx;simp[opB]at hx;exact hc hx.1
theorem sQ{a:List UInt8}(h:qx a=true): ∃c r,a=c::r/\c≠40:=by
 obtain⟨c,r,rfl⟩:=Qw (iX h);exact⟨c,r,rfl,(jj h c (by simp)).1⟩
theorem cv{d:Nat}(h:qP q.rest opB=false):qv d q=xW q:=by
 cases d<;>rw[qv,h]<;>rfl
def Ob(d:Nat)(l:List UInt8)(ts:List WayT):Prop:= ∀q b,q.rest.data.toList=l++b->ly b-> ∃t,ts=[t]/\qv d q=(t,{q with rest:=mk b})
def Kz(d:Nat)(op:UInt8)(l:List UInt8)(ts:List WayT):Prop:= ∀q b,q.rest.data.toList=l++b->ly b-> ∃t0 r0,qv d q=(t0,{q with rest:=mk r0})/\((ts=[t0]/\r0=b)\/(2<=ts.length/\ ∃r',r0=op::r'))/\
 ∀n,r0.length<=n-> ∃m,b.length<=m/\zM (qv d) {data:= #[op]} n [t0] {q with rest:=mk r0}=zM (qv d) {data:= #[op]} m ts {q with rest:=mk b}
theorem Gr.opok{d op l ts}(h:Gr true d op l ts)(hl:2<=ts.length):op=124\/op=38:=by
 cases h with
 |one _ _ _ _ h1=>have:=h1.len.2 rfl;omega
 |more _ _ _ _ ts t h1 h2 h3=>exact h1
theorem zE(l:List UInt8):(mk l).size=l.length:=by rw[zC,qA]
theorem sR{d op l ts}(h:Gr true d op l ts)(hs:Kz d op l ts)(q:Rd)(b:List UInt8)(hq:q.rest.data.toList=l++b)(hb:b=[]\/ ∃r,b=41::r):
  x7 (qv d) q=(jO op ts,{q with rest:=mk b}):=by
 have hg:ly b:=by
  rcases hb with rfl|⟨r,rfl⟩
  ·exact Or.inl rfl
  ·exact Or.inr ⟨41,r,rfl,Or.inl rfl⟩
 have h4: ∀c:UInt8,(c=124\/c=38)->qP (mk b) {data:= #[c]}=false:=λc hc=>by
  refine cY _ _ ?_;rintro⟨x,hx⟩;rw[qA]at hx;rcases hb with rfl|⟨r,rfl⟩
  ·simp at hx
  ·simp at hx;rcases hc with rfl|rfl<;>exact absurd hx.1 (by decide)
 obtain⟨t0,r0,h1,h2,h3⟩:=hs q b hq hg;rcases h2 with⟨rfl,rfl⟩|⟨hl,r',rfl⟩
 ·have hA:qP (mk r0) yF=false:=h4 38 (Or.inr rfl)
  have hB:qP (mk r0) uY=false:=h4 124 (Or.inl rfl);have hp: ∀n acc,zM (qv d) uY n acc {q with rest:=mk r0}=(acc,{q with rest:=mk r0}):=λn acc=>by
   cases n with
   |zero=>rfl
   |succ n=>rw[zM,if_neg (by show¬qP (mk r0) uY=true;rw[hB];decide)]
  unfold x7 uE jI dW;rw[h1];dsimp only;rw[hA];simp only[Bool.false_eq_true,if_false,hp]
  rfl
 ·obtain⟨m,hm,hp⟩:=h3 (mk (op::r')).size (by rw[zE];exact Uc _)
  have h6:=h.opok hl;have h0:zM (qv d) {data:= #[op]} m ts {q with rest:=mk b}=(ts,{q with rest:=mk b}):=by
   cases m with
   |zero=>rfl
   |succ m=>rw[zM,if_neg (by show¬qP (mk b) _=true;rw[h4 op h6];decide)]
  have hj: ∀is:Int,u6 is ts=.mk is qk qk ts:=λis=>by
   match ts,hl with
   |_::_::_,_=>rfl
  have h7:jO op ts=.mk (if op=38 then 4 else 3) qk qk ts:=by
   match ts,hl with
   |_::_::_,_=>rfl
  unfold x7 uE jI dW;rw[h1];dsimp only;rw[h7];rcases h6 with rfl|rfl
  ·have hA:qP (mk (124::r')) yF=false:=by
    refine cY _ _ ?_;rintro⟨x,hx⟩;simp[yF,qA]at hx
   rw[hA];simp only[Bool.false_eq_true,if_false];have h5:zM (qv d) uY _ _ _=_:=hp.trans h0;rw[h5];dsimp only;rw[hj];rfl
  ·have hA:qP (mk (38::r')) yF=true:=(iK _ _).2 ⟨r',rfl⟩
   rw[hA];simp only[if_true];have h5:zM (qv d) yF _ _ _=_:=hp.trans h0;rw[h5];dsimp only;rw[hj]
theorem Gr.prog{b d op l ts}(h:Gr b d op l ts):(b=false->Ob d l ts)/\(b=true->Kz d op l ts):=by
 induction h with
 |this d op=>
  refine⟨λ_ q b hq hb=>⟨_,rfl,?_⟩,λe=>by cases e⟩
  rw[cv (mI hq ⟨116,_,rfl,by decide⟩)]
  obtain⟨h1,h2⟩:=jt q yn b hq (by decide) (oK hb)
  unfold xW;rw[h1,(uJ yn).2 rfl,h2];rfl
 |rel d op a h1 h2=>
  refine⟨λ_ q b hq hb=>⟨_,rfl,?_⟩,λe=>by cases e⟩
  rw[cv (mI hq (sQ h1))];obtain⟨g1,g2⟩:=jt q a b hq h1 (oK hb);have ht:uR (mk a)=false:=by
   cases e:uR (mk a)
   ·rfl
   ·exact absurd ((uJ a).1 e) h2
  have hp:qP (mk b) iZ=false:=by
   refine cY _ _ ?_;rintro⟨x,hx⟩;rw[qA]at hx;exact K1 hb (c:=45) (by decide) _ hx
  unfold xW;rw[g1,ht,g2];simp only[Bool.false_eq_true,if_false,hp]
 |arrow d op a b' h1 h2 h3 h4=>
  refine⟨λ_ q b hq hb=>⟨_,rfl,?_⟩,λe=>by cases e⟩
  rw[cv (mI (l:=a) (b:=45::62::b'++b) (by rw[hq];simp) (sQ h1))]
  obtain⟨g1,g2⟩:=jt q a (45::62::b'++b) (by rw[hq];simp) h1 (Or.inr ⟨45,_,rfl,by decide⟩)
  have ht:uR (mk a)=false:=by
   cases e:uR (mk a)
   ·rfl
   ·exact absurd ((uJ a).1 e) h3
  have h5:uR (mk b')=false:=by
   cases e:uR (mk b')
   ·rfl
   ·exact absurd ((uJ b').1 e) h4
  obtain⟨s1,s2⟩:=iL {q with rest:=mk (45::62::b'++b)} iZ (b'++b) rfl;obtain⟨k1,k2⟩:=jt {q with rest:=mk (b'++b)} b' b (qA _) h2 (oK hb);have hr:Rd.relation {q with rest:=mk (b'++b)}={q with rest:=mk b}:=by
   unfold Rd.relation;rw[k1,h5,k2];rfl
  unfold xW;rw[g1,ht,g2];simp only[Bool.false_eq_true,if_false];rw[if_pos s1,s2,hr];exact congrArg (λt=>(WayT.mk 2 (mk a) t [],_)) k1
 |br d op op' l ts h1 ih=>
  refine⟨λ_ q b hq hb=>⟨_,rfl,?_⟩,λe=>by cases e⟩
  obtain⟨s1,s2⟩:=iL q opB (l++41::b) (by rw[hq];simp[opB])
  have hw:=sR h1 (ih.2 rfl) q.opened (41::b) (by unfold Rd.opened;rw[s2,qA]) (Or.inr ⟨b,rfl⟩)
  rw[qv,if_pos s1,hw];show(jO op' ts,{(Rd.mk (mk (41::b)) q.opened.opn q.opened.failed).must clB with opn:=q.opn})=_
  have hm:(Rd.mk (mk (41::b)) q.opened.opn q.opened.failed).must clB=Rd.mk (mk b) q.opened.opn q.opened.failed:=ju _ 41 b (qA _);rw[hm];dsimp only;have hf:q.opened.failed=q.failed:=by unfold Rd.opened;rw[s2]
  rw[hf]
 |one d op l ts h1 ih=>
  refine⟨λe=>(by cases e),λ_ q b hq hb=>?_⟩
  obtain⟨t,rfl,ht⟩:=ih.1 rfl q b hq hb;exact⟨t,b,ht,Or.inl ⟨rfl,rfl⟩,λn hn=>⟨n,hn,rfl⟩⟩
 |more d op l m ts t hop h1 h2 ih1 ih2=>
  refine⟨λe=>(by cases e),λ_ q b hq hb=>?_⟩
  obtain⟨t0,r0,g1,g2,g3⟩:=ih1.2 rfl q (op::(m++b)) (by rw[hq];simp) (Or.inr ⟨op,_,rfl,by rcases hop with h|h;exact Or.inr (Or.inl h);exact Or.inr (Or.inr h)⟩)
  have h0:=h1.len.1;refine⟨t0,r0,g1,Or.inr ⟨by simp;omega,?_⟩,λn hn=>?_⟩
  ·rcases g2 with⟨-,rfl⟩|⟨-,r',rfl⟩
   ·exact⟨_,rfl⟩
   ·exact⟨_,rfl⟩
  ·obtain⟨k,hk,hp⟩:=g3 n hn
   obtain⟨j,rfl⟩: ∃j,k=j+1:=⟨k-1,by simp at hk;omega⟩
   obtain⟨s1,s2⟩:=iL {q with rest:=mk (op::(m++b))} {data:= #[op]} (m++b) rfl;obtain⟨t',e,ht⟩:=ih2.1 rfl {q with rest:=mk (m++b)} b (qA _) hb;have et:t=t':=by injection e
   refine⟨j,by simp at hk;omega,?_⟩
   rw[hp,zM,if_pos s1,s2,ht,et]
theorem kJ{b:Bool}(h:b=false): ¬b=true:=by rw[h];decide
theorem pf(q:Rd)(h:q.relation.failed=false): ∃a b,q.rest.data.toList=a++b/\qx a=true/\a≠yn/\zk q.rest=mk a/\q.relation={q with rest:=mk b}:=by
 unfold Rd.relation at h ⊢;split at h
 ·cases h
 ·rename_i ht
  rcases vB q with e|⟨a,b,h1,h2,h3,h4⟩
  ·rw[e]at h;cases h
  ·refine⟨a,b,h1,h2,λe=>ht (by rw[h3];exact(uJ a).2 e),h3,?_⟩
   rw[if_neg ht];exact h4
theorem me(d:Nat)(q:Rd)(h:(xW q).2.failed=false): ∃l b,q.rest.data.toList=l++b/\(xW q).2={q with rest:=mk b}/\ ∀op,Gr false d op l [(xW q).1]:=by
 unfold xW at h ⊢;rcases vB q with e|⟨a,b,h1,h2,h3,h4⟩
 ·exfalso
  rw[e]at h;have hf:q.fail.failed=true:=rfl;split at h
  ·exact kJ h hf
  ·split at h
   ·exact kJ h (p9 _ (jF _ _ hf))
   ·exact kJ h hf
 ·rw[h3,h4]at h ⊢
  split
  ·rename_i ht
   have e:=(uJ a).1 ht;subst e;exact⟨yn,b,h1,rfl,λop=>.this d op⟩
  ·rename_i ht
   rw[if_neg ht]at h;have h0:a≠yn:=λe=>ht ((uJ a).2 e);split
   ·rename_i hp
    rw[if_pos hp]at h;obtain⟨r,hr⟩:=(iK _ _).1 hp;have hb:b=45::62::r:=hr;obtain⟨-,s2⟩:=iL {q with rest:=mk b} iZ r hr;rw[s2]at h ⊢;obtain⟨a2,b2,k1,k2,k3,k4,k5⟩:=pf _ h;have h5:r=a2++b2:=k1;refine⟨a++45::62::a2,b2,by rw[h1,hb,h5];simp,k5,λop=>?_⟩
    have h6:zk (mk r)=mk a2:=k4;show Gr false d op _ [.mk 2 (mk a) (zk (mk r)) []]
    rw[h6];exact .arrow d op a a2 h2 k2 h0 k3
   ·exact⟨a,b,h1,rfl,λop=>.rel d op a h2 h0⟩
theorem mf(d:Nat)(ih: ∀q,(qv d q).2.failed=false-> ∃l b,q.rest.data.toList=l++b/\(qv d q).2={q with rest:=mk b}/\ ∀op,Gr false d op l [(qv d q).1])(op:UInt8)(h2:op=124\/op=38)(s:List UInt8):
  ∀n acc (q:Rd) l,s=l++q.rest.data.toList->Gr true d op l acc->(zM (qv d) {data:= #[op]} n acc q).2.failed=false->
   ∃l' b,s=l'++b/\(zM (qv d) {data:= #[op]} n acc q).2={q with rest:=mk b}/\Gr true d op l' (zM (qv d) {data:= #[op]} n acc q).1:=by
 intro n
 induction n with
 |zero=>intro acc q l hs hg _;exact⟨l,q.rest.data.toList,hs,rfl,hg⟩
 |succ n ihn=>
  intro acc q l hs hg hf;rw[zM]at hf ⊢;split
  ·rename_i hp
   rw[if_pos hp]at hf;obtain⟨r,hr⟩:=(iK _ _).1 hp;have h3:q.rest.data.toList=op::r:=hr;obtain⟨-,s2⟩:=iL q {data:= #[op]} r hr;have h1:(qv d (q.sees {data:= #[op]})).2.failed=false:=by
    cases e:(qv d (q.sees {data:= #[op]})).2.failed
    ·rfl
    ·exact absurd (mH (bV d) _ _ _ _ e) (kJ hf)
   obtain⟨m,b,k1,k2,k3⟩:=ih _ h1;rw[s2]at k1 k2 k3 hf ⊢;have h0:r=m++b:=k1;rw[k2]at hf ⊢;exact ihn _ _ (l++op::m) (by rw[hs,h3,h0,qA];simp) (.more d op l m acc _ h2 hg (k3 op)) hf
  ·exact⟨l,q.rest.data.toList,hs,rfl,hg⟩
theorem lz(d:Nat)(ih: ∀q,(qv d q).2.failed=false-> ∃l b,q.rest.data.toList=l++b/\(qv d q).2={q with rest:=mk b}/\ ∀op,Gr false d op l [(qv d q).1])(q:Rd)(h:(x7 (qv d) q).2.failed=false):
  ∃l b op ts,q.rest.data.toList=l++b/\(x7 (qv d) q).2={q with rest:=mk b}/\(op=124\/op=38)/\Gr true d op l ts/\(x7 (qv d) q).1=jO op ts:=by
 have h1:(qv d q).2.failed=false:=by
  cases e:(qv d q).2.failed
  ·rfl
  ·exact absurd (mH (bV d) _ _ _ _ e) (kJ h)
 obtain⟨l,b,k1,k2,k3⟩:=ih q h1;have hj: ∀(ts:List WayT) (op:UInt8),(op=124\/op=38)->1<=ts.length->u6 (if op=38 then 4 else 3) ts=jO op ts:=λts op _ hl=>by
  match ts,hl with
  | [_],_=>rfl
  |_::_::_,_=>rfl
 unfold x7 uE jI dW at h ⊢;cases hA:qP (qv d q).2.rest yF
 ·rw[hA]at h
  simp only[Bool.false_eq_true,if_false]at h ⊢;obtain⟨l',b',g1,g2,g3⟩:=mf d ih 124 (Or.inl rfl) q.rest.data.toList _ [(qv d q).1] (qv d q).2 l (by rw[k2,qA];exact k1) (.one _ _ _ _ (k3 124)) h
  refine⟨l',b',124,_,g1,?_,Or.inl rfl,g3,hj _ 124 (Or.inl rfl) g3.len.1⟩;have h0:(zM (qv d) uY (qv d q).2.rest.size [(qv d q).1] (qv d q).2).2={(qv d q).2 with rest:=mk b'}:=g2;rw[h0,k2]
 ·rw[hA]at h
  simp only[if_true]at h ⊢;obtain⟨l',b',g1,g2,g3⟩:=mf d ih 38 (Or.inr rfl) q.rest.data.toList _ [(qv d q).1] (qv d q).2 l (by rw[k2,qA];exact k1) (.one _ _ _ _ (k3 38)) h
  refine⟨l',b',38,_,g1,?_,Or.inr rfl,g3,hj _ 38 (Or.inr rfl) g3.len.1⟩;have h0:(zM (qv d) yF (qv d q).2.rest.size [(qv d q).1] (qv d q).2).2={(qv d q).2 with rest:=mk b'}:=g2;rw[h0,k2]
theorem X0: ∀d q,(qv d q).2.failed=false-> ∃l b,q.rest.data.toList=l++b/\(qv d q).2={q with rest:=mk b}/\ ∀op,Gr false d op l [(qv d q).1]:=by
 intro d
 induction d with
 |zero=>
  intro q h;cases hp:qP q.rest opB
  ·rw[cv hp]at h ⊢;exact me 0 q h
  ·rw[qv,if_pos hp]at h;cases h
 |succ d ih=>
  intro q h;cases hp:qP q.rest opB
  ·rw[cv hp]at h ⊢;exact me _ q h
  ·rw[qv,if_pos hp]at h ⊢
   obtain⟨r,hr⟩:=(iK _ _).1 hp;obtain⟨-,s2⟩:=iL q opB r hr;have hw:(x7 (qv d) q.opened).2.failed=false:=by
    cases e:(x7 (qv d) q.opened).2.failed
    ·rfl
    ·exact absurd (iG _ clB e) (kJ h)
   obtain⟨l,b,op,ts,g1,g2,-,g4,g5⟩:=lz d ih _ hw;have h0:q.opened.rest.data.toList=r:=by unfold Rd.opened;rw[s2,qA]
   have h1:q.opened.failed=q.failed:=by unfold Rd.opened;rw[s2]
   rw[g2]at h;have hb: ∃x,b=41::x:=by
    refine Classical.byContradiction λhn=>?_;have hm:Rd.must {q.opened with rest:=mk b} clB=Rd.fail {q.opened with rest:=mk b}:=se _ 41 (by rintro⟨x,hx⟩;exact hn ⟨x,hx⟩)
    have h':(Rd.must {q.opened with rest:=mk b} clB).failed=false:=h;rw[hm]at h';cases h'
   obtain⟨x,rfl⟩:=hb;have hm:Rd.must {q.opened with rest:=mk (41::x)} clB={q.opened with rest:=mk x}:=ju _ 41 x (qA _);rw[h0]at g1;refine⟨40::(l++[41]),x,by rw[hr,g1];simp[opB],?_,λo=>?_⟩
   ·rw[g2,hm]
    show Rd.mk (mk x) q.opn q.opened.failed=_
    rw[h1]
   ·show Gr false (d+1) o _ [(x7 (qv d) q.opened).1]
    rw[g5];exact .br d o op l ts g4
structure RuleD(s:BA)(k rel way:List UInt8)(op:UInt8)(ts:List WayT):Prop where
 text:s.data.toList=k++35::(rel++61::way)
 hk:qx k=true
 hr:qx rel=true
 hne:rel≠yn
 hop:op=124\/op=38
 gr:Gr true 5 op way ts
variable{k rel way:List UInt8}{op:UInt8}{ts:List WayT}
theorem jl(s:BA)(h:RuleD s k rel way op ts):
  qU (rd0 s)=mk k/\zh (rd0 s)=mk rel/\xZ s=(jO op ts,rd0 (mk []))/\(xZ s).2.ended=true:=by
 have hm:yf ((35:UInt8).toNat:Int)=true:=by decide
 obtain⟨n1,n2⟩:=jt (rd0 s) k (35::(rel++61::way)) h.text h.hk (Or.inr ⟨35,_,rfl,hm⟩);have m1:(rd0 s).name.must {data:= #[35]}=rd0 (mk (rel++61::way)):=by
  rw[n2];exact ju _ 35 (rel++61::way) (qA _)
 obtain⟨r1,r2⟩:=jt (rd0 (mk (rel++61::way))) rel (61::way) (qA _) h.hr (Or.inr ⟨61,_,rfl,by decide⟩)
 have h0:uR (mk rel)=false:=by
  cases e:uR (mk rel)
  ·rfl
  ·exact absurd ((uJ rel).1 e) h.hne
 have hh:(rd0 s).head=rd0 (mk (61::way)):=by
  unfold Rd.head;rw[m1];unfold Rd.relation;rw[r1,h0,r2];rfl
 have hq:y7 s=rd0 (mk way):=by
  unfold y7;rw[hh];exact ju _ 61 way (qA _)
 have hw:xZ s=(jO op ts,rd0 (mk [])):=by
  unfold xZ;rw[hq];exact sR h.gr (h.gr.prog.2 rfl) (rd0 (mk way)) [] (by simp[rd0,qA]) (Or.inl rfl)
 refine⟨n1,?_,hw,by rw[hw];rfl⟩
 unfold zh;rw[m1];exact r1
theorem ZD(s:BA)(h:(xZ s).2.ended=true): ∃k rel way op ts,RuleD s k rel way op ts:=by
 have hf:(xZ s).2.failed=false/\(xZ s).2.rest.size=0:=by
  unfold Rd.ended at h;rw[Bool.and_eq_true,decide_eq_true_eq,Bool.not_eq_true']at h;exact⟨h.2,h.1⟩
 obtain⟨l,b,op,ts,g1,g2,g3,g4,-⟩:=lz 5 (X0 5) (y7 s) hf.1;have hb:b=[]:=by
  have:=hf.2;have e:(xZ s).2.rest=mk b:=by show(x7 (qv 5) (y7 s)).2.rest=_;rw[g2]
  rw[e,zE]at this;exact Oy this
 subst hb;have h1:(y7 s).failed=false:=by
  cases e:(y7 s).failed
  ·rfl
  ·exact absurd (XZ (bV 5) _ e) (kJ hf.1)
 have h0:(rd0 s).head.failed=false:=by
  cases e:(rd0 s).head.failed
  ·rfl
  ·exact absurd (iG _ eqB e) (kJ h1)
 obtain⟨a,b,k1,k2,k3,-,k5⟩:=pf _ h0;rcases vj (rd0 s) 35 (by decide)with⟨k,r,m1,m2,-,m4⟩|⟨-,m⟩
 ·rw[m4]at k1 k5
  have h3:r=a++b:=k1;have hh:(rd0 s).head=rd0 (mk b):=by unfold Rd.head;rw[m4];exact k5
  have h2: ∃x,b=61::x:=by
   refine Classical.byContradiction λhn=>?_;have:(rd0 s).head.must eqB=Rd.fail (rd0 s).head:=se _ 61 (by rw[hh];rintro⟨x,hx⟩;exact hn ⟨x,hx⟩)
   have h':((rd0 s).head.must eqB).failed=false:=h1;rw[this]at h';cases h'
  obtain⟨x,rfl⟩:=h2;have hq:y7 s=rd0 (mk x):=by
   unfold y7;rw[hh];exact ju _ 61 x (qA _)
  rw[hq]at g1;have h4:x=l:=by simpa[rd0,qA]using g1
  subst h4;exact⟨k,a,x,op,ts,by rw[show s.data.toList=k++35::r from m1,h3],m2,k2,k3,g3,g4⟩
 ·exact absurd (p9 _ m) (kJ h0)
theorem uh(s:BA)(h:RuleD s k rel way op ts):qT s=mk (k++35::rel)/\xr s=mk way/\(s.size<=200->xm s=true):=by
 have hx: ∀x∈k++35::rel,x≠(61:UInt8):=by
  intro x hx;simp only[OS,OT]at hx;rcases hx with h1|rfl|h1
  ·exact qZ (qJ h.hk) (by decide) x h1
  ·decide
  ·exact qZ (qJ h.hr) (by decide) x h1
 obtain⟨c1,c2,c3⟩:=jG s (k++35::rel) way 61 (by rw[h.text];simp) hx
 have hk: ∀x∈k,x≠(35:UInt8):=qZ (qJ h.hk) (by decide)
 obtain⟨d1,d2,d3⟩:=jG (mk (k++35::rel)) k rel 35 (qA _) hk;have e1:qT s=mk (k++35::rel):=c1;have e2:xr s=mk way:=c2;refine⟨e1,e2,λhs=>?_⟩;obtain⟨w1,w2⟩:=(Qx (mk way)).2 ⟨op,ts,h.hop,by rw[qA];exact h.gr⟩
 have h4:qX (mk (k++35::rel)) 35=mk k:=d1;have h0:qS (mk (k++35::rel)) 35=mk rel:=d2;have h3:yu (mk (k++35::rel)) 35=true:=d3;have h2:yu s 61=true:=c3;unfold xm;rw[e1,e2,h4,h0,h3,h2,w1,w2,show zZ (mk k)=true from h.hk,show zZ (mk rel)=true from h.hr,Up hs];have: ¬mk rel=uB:=λe=>h.hne (congrArg (λs=>s.data.toList) e);simp[this]
theorem xL(s:BA)(h:xm s=true):s.size<=200/\ ∃k rel way op ts,RuleD s k rel way op ts:=by
 unfold xm at h;simp only[Bool.and_eq_true,decide_eq_true_eq,Bool.not_eq_true']at h;obtain⟨⟨⟨⟨⟨⟨⟨h1,h2⟩,h3⟩,h4⟩,h5⟩,h6⟩,h7⟩,h8⟩:=h;refine⟨h1,?_⟩;obtain⟨op,ts,ho,hg⟩:=(Qx (xr s)).1 ⟨h7,h2⟩;have t1:=cL s 61 h3;have t2:=cL (qT s) 35 h4;refine⟨_,_,_,op,ts,?_,h5,h6,?_,ho,hg⟩
 ·have h9:s.data.toList=(qT s).data.toList++61::(xr s).data.toList:=t1
  have h0:(qT s).data.toList=(qX (qT s) 35).data.toList++35::(qS (qT s) 35).data.toList:=t2;rw[h9,h0];simp
 ·intro e
  have:qS (qT s) 35=uB:=vh e;rw[this]at h8;simp at h8
theorem oL(s:BA):yl s=xm s:=by
 rw[Bool.eq_iff_iff]
 constructor
 ·intro h
  unfold yl at h;simp only[Bool.and_eq_true,decide_eq_true_eq]at h;obtain⟨k,rel,way,op,ts,hd⟩:=ZD s h.2;exact(uh s hd).2.2 h.1
 ·intro h
  obtain⟨hs,k,rel,way,op,ts,hd⟩:=xL s h;unfold yl;rw[(jl s hd).2.2.2,Up hs];rfl
