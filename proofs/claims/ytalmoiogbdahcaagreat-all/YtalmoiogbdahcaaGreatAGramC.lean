import Derived.Test.YtalmoiogbdahcaaGreatAWrdC
import Derived.Test.YtalmoiogbdahcaaGreatARefD
open Go.Proofs.Tryz
namespace Go.Proofs.YtalmoiogbdahcaaGreat
set_option maxRecDepth 100000
set_option maxHeartbeats 8000000
open Go.RowKit
theorem u8i(c e:UInt8):((c.toNat:Int)=(e.toNat:Int))↔c=e:=by
 constructor
 ·intro h;exact UInt8.toNat_inj.1 (Int.ofNat_inj.1 h)
 ·intro h;rw[h]
theorem u40(c:UInt8):((c.toNat:Int)=40)↔c=40:=u8i c 40
theorem u41(c:UInt8):((c.toNat:Int)=41)↔c=41:=u8i c 41
theorem GQ(c:UInt8):((c.toNat:Int)=124)↔c=124:=u8i c 124
theorem u38(c:UInt8):((c.toNat:Int)=38)↔c=38:=u8i c 38
def jO(op:UInt8):List WayT->WayT
 | [t]=>t
 |ts=>.mk (if op=38 then 4 else 3) qk qk ts
inductive Gr:Bool->Nat->UInt8->List UInt8->List WayT->Prop
 |this (d op):Gr false d op yn [.mk 0 qk qk []]
 |rel (d op a):qx a=true->a≠yn->Gr false d op a [.mk 1 qk (mk a) []]
 |arrow (d op a b):qx a=true->qx b=true->a≠yn->b≠yn->Gr false d op (a++45::62::b) [.mk 2 (mk a) (mk b) []]
 |br (d op op' l ts):Gr true d op' l ts->Gr false (d+1) op (40::(l++[41])) [jO op' ts]
 |one (d op l ts):Gr false d op l ts->Gr true d op l ts
 |more (d op l m ts t):(op=124\/op=38)->Gr true d op l ts->Gr false d op m [t]->Gr true d op (l++op::m) (ts++[t])
theorem Gr.len{b d op l ts}(h:Gr b d op l ts):1<=ts.length/\(b=false->ts.length=1):=by
 induction h<;>simp_all<;>omega
theorem Gr.anyOp{d op l ts}(h:Gr false d op l ts)(op':UInt8):Gr false d op' l ts:=by
 cases h with
 |this=>exact .this _ _
 |rel _ _ _ h1 h2=>exact .rel _ _ _ h1 h2
 |arrow _ _ _ _ h1 h2 h3 h4=>exact .arrow _ _ _ _ h1 h2 h3 h4
 |br _ _ _ _ _ h1=>exact .br _ _ _ _ _ h1
theorem Gr.single{d op l ts}(h:Gr true d op l ts)(hl:ts.length=1):Gr false d op l ts:=by
 cases h with
 |one _ _ _ _ h1=>exact h1
 |more _ _ _ _ ts t h1 h2 h3=>have:=h2.len.1;simp at hl;subst hl;simp at this
def scn(q:Sc)(i:Nat):List UInt8->Sc
 | []=>q
 |c::r=>scn (q.step i c.toNat) (i+1) r
def ngt(q:Sc)(i:Nat):List UInt8->Bool
 | []=>false
 |c::r=>decide ((q.step i c.toNat).d<0)||ngt (q.step i c.toNat) (i+1) r
def dpt(m:Int)(q:Sc)(i:Nat):List UInt8->Bool
 | []=>false
 |c::r=>decide (m<(q.step i c.toNat).d)||dpt m (q.step i c.toNat) (i+1) r
def sc0:Sc:=⟨0,-1,false,false⟩
theorem ud(q:Sc)(i:Nat)(a b:List UInt8):scn q i (a++b)=scn (scn q i a) (i+a.length) b:=by
 induction a generalizing q i with
 |nil=>rfl
 |cons c a ih=>simp only[List.cons_append,scn,ih,OL];congr 1;omega
theorem kI(q:Sc)(i:Nat)(a b:List UInt8):ngt q i (a++b)=(ngt q i a||ngt (scn q i a) (i+a.length) b):=by
 induction a generalizing q i with
 |nil=>simp[ngt,scn]
 |cons c a ih=>
  simp only[List.cons_append,scn,ngt,ih,OL,Bool.or_assoc];rw[show i+1+a.length=i+(a.length+1) by omega]
theorem iq(m:Int)(q:Sc)(i:Nat)(a b:List UInt8):dpt m q i (a++b)=(dpt m q i a||dpt m (scn q i a) (i+a.length) b):=by
 induction a generalizing q i with
 |nil=>simp[dpt,scn]
 |cons c a ih=>
  simp only[List.cons_append,scn,dpt,ih,OL,Bool.or_assoc];rw[show i+1+a.length=i+(a.length+1) by omega]
theorem pZ(l:List UInt8)(k:Nat)(h:k<l.length):l.take (k+1)=l.take k++[l.getD k 0]:=by
 rw[O8 h,List.getD_eq_getElem?_getD,OC h];rfl
theorem oH(l:List UInt8)(k:Nat)(h:k<=l.length):zI l k=scn sc0 0 (l.take k):=by
 induction k with
 |zero=>rfl
 |succ k ih=>
  rw[pZ l k (by omega),ud,zI,ih (by omega),OQ,Nat.min_eq_left (by omega),Ul];rfl
theorem JA(l:List UInt8)(k:Nat)(h:k<=l.length):iy l k=ngt sc0 0 (l.take k):=by
 induction k with
 |zero=>rfl
 |succ k ih=>
  rw[iy,oH l (k+1) h,pZ l k (by omega),kI,ih (by omega),ud,OQ,Nat.min_eq_left (by omega),Ul]
  simp[ngt,scn]
theorem pe(q:Sc)(i c:Int):(q.step i c).d=q.d+(if c=40 then 1 else 0)-(if c=41 then 1 else 0):=by
 unfold Sc.step;split
 ·rename_i h;subst h;simp
 ·split
  ·simp
  ·split
   ·simp
   ·split<;>simp
theorem XW(l:List UInt8)(k:Nat):vv l k=(zI l k).d:=by
 induction k with
 |zero=>rfl
 |succ k ih=>rw[vv,zI,pe,ih]
theorem wJ(l:List UInt8)(k:Nat)(h:k<=l.length):y6 l k=dpt 5 sc0 0 (l.take k):=by
 induction k with
 |zero=>rfl
 |succ k ih=>
  rw[y6,XW,oH l (k+1) h,pZ l k (by omega),iq,ih (by omega),ud,OQ,Nat.min_eq_left (by omega),Ul]
  simp[dpt,scn]
theorem XX(m:Int)(l:List UInt8): ∀(q p:Sc) (i j:Nat),q.d=p.d->dpt m q i l=dpt m p j l:=by
 induction l with
 |nil=>intros;rfl
 |cons c l ih=>
  intro q p i j h;have e:(q.step i c.toNat).d=(p.step j c.toNat).d:=by rw[pe,pe,h]
  rw[dpt,dpt,e,ih _ _ (i+1) (j+1) e]
variable{l:List UInt8}
theorem GR{m:Int}: ∀{q p:Sc} {i j:Nat} (k:Int),p.d+k=q.d->dpt (m+k) q i l=dpt m p j l:=by
 induction l with
 |nil=>intros;rfl
 |cons c l ih=>
  intro q p i j k h;have e:(p.step j c.toNat).d+k=(q.step i c.toNat).d:=by rw[pe,pe];omega
  rw[dpt,dpt,ih k e,←e]
  congr 1
  simp
def jA(c:UInt8):Prop:=c≠40/\c≠41/\c≠124/\c≠38
variable{c:UInt8}
theorem ZB(h:jA c)(q:Sc)(i:Int):q.step i c.toNat=q:=by
 unfold Sc.step;rw[if_neg (λe=>h.1 ((u40 c).1 e)),if_neg (λe=>h.2.1 ((u41 c).1 e)),if_neg (λe=>h.2.2.1 ((GQ c).1 e.2)),if_neg (λe=>h.2.2.2 ((u38 c).1 e.2))]
theorem kf: ∀(l:List UInt8),(∀x∈l,jA x)-> ∀q i,0<=q.d->scn q i l=q/\ngt q i l=false/\ ∀m,q.d<=m->dpt m q i l=false:=by
 intro l
 induction l with
 |nil=>intros;exact⟨rfl,rfl,λ_ _=>rfl⟩
 |cons c l ih=>
  intro h q i hq;have hc:=ZB (h c (by simp)) q i
  obtain⟨h1,h2,h3⟩:=ih (λx hx=>h x (by simp[hx])) q (i+1) hq
  rw[scn,ngt,hc];refine⟨h1,by rw[h2];simp;omega,λm hm=>?_⟩
  rw[dpt,hc,h3 m hm];simp;omega
theorem GS(h:yf c.toNat=false):jA c:=by
 refine⟨?_,?_,?_,?_⟩<;>(rintro rfl;revert h;decide)
variable{a:List UInt8}
theorem jj(h:qx a=true): ∀x∈a,jA x:=λx hx=>GS (qJ h x hx)
theorem jk: ∀x∈yn,jA x:=by
 intro x hx;simp[yn]at hx;rcases hx with rfl|rfl|rfl|rfl<;>(unfold jA;decide)
theorem dI{b:List UInt8}(ha:qx a=true)(hb:qx b=true): ∀x∈a++45::62::b,jA x:=by
 intro x hx;simp only[OS,OT]at hx;rcases hx with h|rfl|rfl|h
 ·exact jj ha x h
 ·unfold jA;decide
 ·unfold jA;decide
 ·exact jj hb x h
theorem ZC(q:Sc)(i:Int):q.step i (((40:UInt8).toNat:Nat):Int)={q with d:=q.d+1}:=rfl
theorem JB(q:Sc)(i:Int):q.step i (((41:UInt8).toNat:Nat):Int)={q with d:=q.d-1}:=rfl
variable{op:UInt8}
theorem p8(h:op=124\/op=38)(q:Sc)(i:Int):(q.d≠0->q.step i op.toNat=q)/\(q.d=0->q.step i op.toNat=⟨0,i,q.o||op==124,q.n||op==38⟩):=by
 obtain⟨d,a,o,n⟩:=q;rcases h with rfl|rfl
 ·refine⟨λhd=>?_,λhd=>?_⟩
  ·exact dj d a o n i _ (by decide) (by decide) (λe=>hd e.1) (λe=>hd e.1)
  ·dsimp only at hd;subst hd;rw[show(((124:UInt8).toNat:Nat):Int)=124 by rfl,QK];simp
 ·refine⟨λhd=>?_,λhd=>?_⟩
  ·exact dj d a o n i _ (by decide) (by decide) (λe=>hd e.1) (λe=>hd e.1)
  ·dsimp only at hd;subst hd;rw[show(((38:UInt8).toNat:Nat):Int)=38 by rfl,Yt];simp
structure ScanOk(b:Bool)(d:Nat)(op:UInt8)(l:List UInt8)(ts:List WayT):Prop where
 inside: ∀(q:Sc) (i:Nat),0<q.d->scn q i l=q/\ngt q i l=false
 top: ∀(q:Sc) (i:Nat),q.d=0->ngt q i l=false/\(scn q i l).d=0/\(ts.length=1->scn q i l=q)/\(2<=ts.length->(i:Int)<=(scn q i l).a/\(scn q i l).o=(q.o||op==124)/\(scn q i l).n=(q.n||op==38))
 deep: ∀(m:Int) (q:Sc) (i:Nat),0<=q.d->q.d+(d:Int)<=m->dpt m q i l=false
theorem ScanOk.one{b:Bool}{d:Nat}{ts:List WayT}(hl:ts.length=1)(h: ∀(q:Sc) (i:Nat),0<=q.d->scn q i l=q/\ngt q i l=false/\ ∀m:Int,q.d+(d:Int)<=m->dpt m q i l=false):ScanOk b d op l ts:=by
 refine⟨λq i hq=>⟨(h q i (by omega)).1,(h q i (by omega)).2.1⟩,λq i hq=>?_,λm q i h1 h2=>(h q i h1).2.2 m h2⟩
 obtain⟨h1,h2,-⟩:=h q i (by omega)
 exact⟨h2,by rw[h1];exact hq,λ_=>h1,λe=>by omega⟩
theorem Gr.scan{b d op l ts}(h:Gr b d op l ts):ScanOk b d op l ts:=by
 induction h with
 |this=>exact .one rfl λq i hq=>⟨(kf _ jk q i hq).1,(kf _ jk q i hq).2.1,λm hm=>(kf _ jk q i hq).2.2 m (by omega)⟩
 |rel d op a h1 h2=>
  have hq:=kf _ (jj h1);exact .one rfl λq i h0=>⟨(hq q i h0).1,(hq q i h0).2.1,λm hm=>(hq q i h0).2.2 m (by omega)⟩
 |arrow d op a b h1 h2 h3 h4=>
  have hq:=kf _ (dI h1 h2);exact .one rfl λq i h0=>⟨(hq q i h0).1,(hq q i h0).2.1,λm hm=>(hq q i h0).2.2 m (by omega)⟩
 |br d op op' l ts h1 ih=>
  refine .one rfl λq i hq=>?_;have hi:=ih.inside {q with d:=q.d+1} (i+1) (by dsimp only;omega)
  have hd:=λm hm=>ih.deep m {q with d:=q.d+1} (i+1) (by dsimp only;omega) hm
  refine⟨?_,?_,λm hm=>?_⟩
  ·rw[scn,ZC,ud,hi.1,scn,scn,JB];simp
  ·rw[ngt,ZC,kI,hi.1,hi.2,ngt,ngt,JB];simp;omega
  ·rw[dpt,ZC,iq,hi.1,hd m (by dsimp only;omega),dpt,dpt,JB];simp;omega
 |one d op l ts h1 ih=>exact⟨ih.inside,ih.top,ih.deep⟩
 |more d op l m ts t hop h1 h2 ih1 ih2=>
  have h5:=h1.len.1;refine⟨λq i hq=>?_,λq i hq=>?_,λmm q i h0 hm=>?_⟩
  ·have e:=(p8 hop q ((i+l.length:Nat):Int)).1 (by omega)
   rw[ud,kI,(ih1.inside q i hq).1,(ih1.inside q i hq).2,scn,ngt,e,(ih2.inside q _ hq).1,(ih2.inside q _ hq).2];simp;omega
  ·obtain⟨g1,g2,g3,g4⟩:=ih1.top q i hq
   have e:=(p8 hop (scn q i l) ((i+l.length:Nat):Int)).2 g2;have f:=ih2.top ⟨0,((i+l.length:Nat):Int),(scn q i l).o||op==124,(scn q i l).n||op==38⟩ (i+l.length+1) rfl;have fe:=f.2.2.1 rfl;rw[ud,kI,g1,scn,ngt,e,fe,f.1];refine⟨by simp,rfl,λhl=>by simp at hl;subst hl;simp at h5,λ_=>⟨by show(i:Int)<=((i+l.length:Nat):Int);omega,?_,?_⟩⟩
   ·show((scn q i l).o||op==124)=_
    rcases Uh ts.length 2 with h|h
    ·rw[g3 (by omega)]
    ·rw[(g4 h).2.1,Bool.or_assoc,Bool.or_self]
   ·show((scn q i l).n||op==38)=_
    rcases Uh ts.length 2 with h|h
    ·rw[g3 (by omega)]
    ·rw[(g4 h).2.2,Bool.or_assoc,Bool.or_self]
  ·have hd:(scn q i l).d=q.d:=by
    rcases Int.lt_or_eq_of_le h0 with h|h
    ·rw[(ih1.inside q i h).1]
    ·rw[(ih1.top q i h.symm).2.1];exact h
   have hs:((scn q i l).step ((i+l.length:Nat):Int) op.toNat).d=q.d:=by
    rw[pe,hd];rcases hop with rfl|rfl<;>simp
   rw[iq,ih1.deep mm q i h0 hm,dpt,hs,ih2.deep mm _ _ (by rw[hs];exact h0) (by rw[hs];exact hm)]
   simp;omega
theorem zC(s:BA):s.size=s.data.toList.length:=(Array.length_toList).symm
theorem oI(s:BA):s.data.toList.take s.size=s.data.toList:=by rw[zC,List.take_length]
theorem bR(s:BA):zI s.data.toList s.size=scn sc0 0 s.data.toList:=by
 rw[oH _ _ (by rw[zC];exact Uc _),oI]
theorem Qv(s:BA):iy s.data.toList s.size=ngt sc0 0 s.data.toList:=by
 rw[JA _ _ (by rw[zC];exact Uc _),oI]
theorem JC(s:BA):y6 s.data.toList s.size=dpt 5 sc0 0 s.data.toList:=by
 rw[wJ _ _ (by rw[zC];exact Uc _),oI]
theorem md: ∀(f g:Nat) (s:BA),s.size<=f->s.size<=g->xd f s=xd g s:=by
 intro f
 induction f with
 |zero=>
  intro g s h1 h2;have hx: ∀i,yx s i=.x:=λi=>by
   unfold yx;split
   ·rfl
   ·rw[if_pos (Or.inr (Or.inr (by omega)))]
  rw[yR,yR,hx,hx]
 |succ f ih=>
  intro g s h1 h2;cases g with
  |zero=>
   have hx: ∀i,yx s i=.x:=λi=>by
    unfold yx;split
    ·rfl
    ·rw[if_pos (Or.inr (Or.inr (by omega)))]
   rw[yR,yR,hx,hx]
  |succ g=>
   rw[xd,xd];by_cases h:2<s.size
   ·rw[ih g (s.extract 1 (s.size-1)) (by simp[ByteArray.size_extract];omega) (by simp[ByteArray.size_extract];omega)]
   ·have hx: ∀i j,yx s i=yx s j:=λi j=>by
     unfold yx;rw[if_neg (c:=qR s 0=40/\qR s (s.size-1)=41/\2<s.size) (λe=>h e.2.2),if_neg (c:=qR s 0=40/\qR s (s.size-1)=41/\2<s.size) (λe=>h e.2.2)]
    exact hx _ _
theorem kg(s:BA)(h:s.size=0): ∀f,yb f s=false:=by
 have hx:qe s=.x:=by
  unfold qe;rw[yR];unfold yx;split
  ·rfl
  ·rw[if_pos (Or.inr (Or.inr h))]
 intro f;cases f<;>(rw[yb,hx];rfl)
theorem sP: ∀(f g:Nat) (s:BA),s.size<=f->s.size<=g->yb f s=yb g s:=by
 intro f
 induction f with
 |zero=>intro g s h1 h2;rw[kg s (by omega),kg s (by omega)]
 |succ f ih=>
  intro g s h1 h2;cases g with
  |zero=>rw[kg s (by omega),kg s (by omega)]
  |succ g=>
   rw[yb,yb];split
   ·rfl
   ·rename_i h
    have hs:=kQ s.size s (by
     unfold qe at h;by_cases e:(xd s.size s).is=124
     ·exact Or.inl e
     ·right
      by_cases e2:(xd s.size s).is=38
      ·exact e2
      ·exact absurd ⟨e,e2⟩ h)
    rw[ih g (qe s).A (by have:=hs.1;unfold qe;omega) (by have:=hs.1;unfold qe;omega),ih g (qe s).B (by have:=hs.2;unfold qe;omega) (by have:=hs.2;unfold qe;omega)]
theorem cW(s:BA)(h:(qe s).is=124\/(qe s).is=38):jc s=(jc (qe s).A && jc (qe s).B):=by
 have hs:=kQ s.size s h;unfold jc;obtain⟨k,hk⟩: ∃k,s.size=k+1:=⟨s.size-1,by omega⟩
 rw[hk,yb,if_neg (by rintro⟨e1,e2⟩;rcases h with h|h;exact e1 h;exact e2 h)]
 have h1:(qe s).A.size<=k:=by have:=hs.1;unfold qe;omega
 have h2:(qe s).B.size<=k:=by have:=hs.2;unfold qe;omega
 rw[sP k _ _ h1 (Uc _),sP k _ _ h2 (Uc _)]
theorem jT(s:BA)(h: ¬((qe s).is=124\/(qe s).is=38)):jc s=decide ((qe s).is≠120):=by
 have hc:(qe s).is≠124/\(qe s).is≠38:=⟨λe=>h (Or.inl e),λe=>h (Or.inr e)⟩;unfold jc;cases s.size<;>rw[yb,if_pos hc]
theorem bS{s m:BA}(h:qe s=qe m):jc s=jc m:=by
 by_cases e:(qe m).is=124\/(qe m).is=38
 ·rw[cW s (by rw[h];exact e),cW m e,h]
 ·rw[jT s (by rw[h];exact e),jT m e,h]
theorem i4(s:BA):
  (qe s).is=120\/
  (ngt sc0 0 s.data.toList=false/\(scn sc0 0 s.data.toList).d=0/\ ¬((scn sc0 0 s.data.toList).o=true/\(scn sc0 0 s.data.toList).n=true)/\
    ((0<=(scn sc0 0 s.data.toList).a/\qe s=opS s (scn sc0 0 s.data.toList).a.toNat)\/
     ((scn sc0 0 s.data.toList).a<0/\qR s 0=40/\qR s (s.size-1)=41/\2<s.size/\qe s=qe (s.extract 1 (s.size-1)))\/
     ((scn sc0 0 s.data.toList).a<0/\qe s=xB s))):=by
 unfold qe;rw[yR];unfold yx;rw[bR,Qv];split
 ·left;rfl
 ·rename_i hn
  split
  ·left;rfl
  ·rename_i hc
   right
   refine⟨by simpa using hn,Classical.not_not.1 λe=>hc (Or.inl e),λe=>hc (Or.inr (Or.inl e)),?_⟩
   split
   ·rename_i ha;left;exact⟨ha,rfl⟩
   ·rename_i ha
    split
    ·rename_i hb
     right;left
     refine⟨by omega,hb.1,hb.2.1,hb.2.2,?_⟩
     obtain⟨k,hk⟩: ∃k,s.size=k+1:=⟨s.size-1,by omega⟩
     rw[hk,lM,←hk];exact md _ _ _ (by simp[ByteArray.size_extract];omega) (Uc _)
    ·right;right;exact⟨by omega,rfl⟩
theorem rG: ∀(l:List UInt8) (q:Sc) (i:Nat),q.a<i->((scn q i l).a=q.a/\(scn q i l).o=q.o/\(scn q i l).n=q.n)\/
  ∃A op B,l=A++op::B/\(scn q i l).a=((i+A.length:Nat):Int)/\(op=124\/op=38)/\(scn q i A).d=0/\
   (scn q i l).o=((scn q i A).o||op==124)/\(scn q i l).n=((scn q i A).n||op==38):=by
 intro l
 induction l with
 |nil=>intro q i _;left;exact⟨rfl,rfl,rfl⟩
 |cons c l ih=>
  intro q i hq;have h0:((c=124\/c=38)/\q.d=0)\/((q.step i c.toNat).a=q.a/\(q.step i c.toNat).o=q.o/\(q.step i c.toNat).n=q.n):=by
   by_cases h:(c=124\/c=38)/\q.d=0
   ·exact Or.inl h
   ·right
    unfold Sc.step;split
    ·exact⟨rfl,rfl,rfl⟩
    ·split
     ·exact⟨rfl,rfl,rfl⟩
     ·split
      ·rename_i h2;exact absurd ⟨Or.inl ((GQ c).1 h2.2),h2.1⟩ h
      ·split
       ·rename_i h2;exact absurd ⟨Or.inr ((u38 c).1 h2.2),h2.1⟩ h
       ·exact⟨rfl,rfl,rfl⟩
  have h7:(q.step i c.toNat).a<((i+1:Nat):Int):=by
   rcases h0 with⟨h1,h2⟩|h
   ·rw[(p8 h1 q i).2 h2];show(i:Int)<_;omega
   ·rw[h.1];omega
  rcases ih (q.step i c.toNat) (i+1) h7 with h|⟨A,op,B,h1,h2,h3,h4,h5,h6⟩
  ·rcases h0 with⟨h1,h2⟩|hs
   ·right
    have e:=(p8 h1 q i).2 h2;refine⟨[],c,l,rfl,?_,h1,h2,?_,?_⟩
    ·rw[scn,h.1,e];simp
    ·show(scn (q.step i c.toNat) (i+1) l).o=(q.o||c==124)
     rw[h.2.1,e]
    ·show(scn (q.step i c.toNat) (i+1) l).n=(q.n||c==38)
     rw[h.2.2,e]
   ·left
    rw[scn];exact⟨h.1.trans hs.1,h.2.1.trans hs.2.1,h.2.2.trans hs.2.2⟩
  ·right
   refine⟨c::A,op,B,by rw[h1];rfl,?_,h3,?_,?_,?_⟩
   ·rw[scn,h2,OL];congr 1;omega
   ·rw[scn];exact h4
   ·exact h5
   ·exact h6
theorem kh(s:BA)(A B:List UInt8)(op:UInt8)(h:s.data.toList=A++op::B):opS s A.length=⟨op.toNat,mk A,mk B⟩:=by
 unfold opS;have e1:qR s A.length=op.toNat:=by unfold qR;rw[h];simp
 have e2:s.extract 0 A.length=mk A:=yB (by rw[yD,h,List.take_left])
 have e3:s.extract (A.length+1) s.size=mk B:=yB (by rw[xO,h,List.drop_append];simp)
 rw[e1,e2,e3]
theorem JD(s:BA)(d:Nat)(op:UInt8)(h:(xB s).is≠120): ∃t,Gr false d op s.data.toList [t]:=by
 unfold xB at h;split at h
 ·rename_i e;subst e;exact⟨_,.this d op⟩
 ·rename_i h6
  split at h
  ·rename_i hn
   exact⟨_,.rel d op _ hn (λe=>h6 (vh e))⟩
  ·unfold kp at h
   split at h
   ·exact absurd rfl h
   ·rename_i hc
    split at h
    ·exact absurd rfl h
    ·rename_i hd
     have h7:yu s (45:UInt8).toNat=true:=by
      cases e:yu s 45
      ·exact absurd (Or.inl e) hc
      ·exact e
     have h5:=cL s 45 h7;have hz:(qS s 45).data.toList=62::((qS s 45).extract 1 (qS s 45).size).data.toList:=by
      rw[xO];have h0: ¬(qS s 45).size=0:=λe=>hc (Or.inr (Or.inl e));have hb:qR (qS s 45) 0=62:=Classical.not_not.1 λe=>hc (Or.inr (Or.inr e));unfold qR at hb;rw[zC]at h0;cases hl:(qS s 45).data.toList with
      |nil=>rw[hl]at h0;exact absurd rfl h0
      |cons x r=>
       rw[hl]at hb;have:x=62:=(u8i x 62).1 (by simpa using hb)
       rw[this];rfl
     have h1:zZ (qX s 45)=true:=by
      cases e:zZ (qX s 45)
      ·exact absurd (Or.inl e) hd
      ·rfl
     have h2:zZ ((qS s 45).extract 1 (qS s 45).size)=true:=by
      cases e:zZ ((qS s 45).extract 1 (qS s 45).size)
      ·exact absurd (Or.inr (Or.inl e)) hd
      ·rfl
     have h3:(qX s 45).data.toList≠yn:=λe=>hd (Or.inr (Or.inr (Or.inl (vh e))));have h4:((qS s 45).extract 1 (qS s 45).size).data.toList≠yn:=λe=>hd (Or.inr (Or.inr (Or.inr (vh (by rw[hz,e];rfl)))))
     have key:=Gr.arrow d op _ _ h1 h2 h3 h4;rw[←hz]at key;exact⟨_,(show s.data.toList=(qX s 45).data.toList++45::(qS s 45).data.toList from h5)▸key⟩
theorem K0(s:BA)(h0:qR s 0=40)(h1:qR s (s.size-1)=41)(h2:2<s.size):s.data.toList=40::((s.extract 1 (s.size-1)).data.toList++[41]):=by
 have hx:(s.extract 1 (s.size-1)).data.toList=(s.data.toList.drop 1).take (s.size-2):=by
  rw[ByteArray.data_extract,Array.toList_extract,List.extract_eq_take_drop]
  rfl
 unfold qR at h0 h1;rw[zC]at h1 h2 hx;rw[zC,hx];cases hl:s.data.toList with
 |nil=>rw[hl]at h2;simp at h2
 |cons x r=>
  rw[hl]at h0 h1 h2;have e0:x=40:=(u8i x 40).1 (by simpa using h0)
  simp only[OL]at h1 h2 ⊢;obtain⟨k,hk⟩: ∃k,r.length=k+1:=⟨r.length-1,by omega⟩
  rw[e0,hk]
  congr 1
  show r=r.take (k+1+1-2)++[41]
  rw[show k+1+1-2=k by omega]
  have e1:r.getD k 0=41:=by
   rw[hk]at h1;have:((x::r).getD (k+1+1-1) 0)=r.getD k 0:=by rw[show k+1+1-1=k+1 by omega];rfl
   rw[this]at h1;exact(u8i _ 41).1 h1
  rw[←e1,←pZ r k (by omega),←hk,List.take_length]
theorem XY: ∀(n:Nat) (s:BA) (d:Nat),s.size<=n->jc s=true->dpt d sc0 0 s.data.toList=false-> ∃op ts,(op=124\/op=38)/\Gr true d op s.data.toList ts:=by
 intro n
 induction n with
 |zero=>intro s d hs hw;rw[jc,kg s (by omega)]at hw;cases hw
 |succ n ih=>
  intro s d hs hw hd;rcases i4 s with h|⟨hx,h0,h8,h⟩
  ·rw[jT s (by rw[h];decide),h]at hw;simp at hw
  ·rcases h with⟨ha,h2⟩|⟨ha,hm,he,hi,h2⟩|⟨ha,h2⟩
   ·rcases rG s.data.toList sc0 0 (by decide)with hk|⟨A,op,B,h1,h7,h3,hp,hO,hN⟩
    ·rw[hk.1]at ha;exact absurd ha (by decide)
    ·have h6:(scn sc0 0 s.data.toList).a.toNat=A.length:=by rw[h7];omega
     rw[h6,kh s A B op h1]at h2;have h4:(qe s).is=124\/(qe s).is=38:=by
      rw[h2];rcases h3 with rfl|rfl
      ·left;rfl
      ·right;rfl
     rw[cW s h4,h2,Bool.and_eq_true]at hw;dsimp only at hw;have hv:A.length+B.length<s.size:=by rw[zC,h1,OK,OL];omega
     have hc:(mk A).size<=n:=by rw[zC,qA];omega
     have hr:(mk B).size<=n:=by rw[zC,qA];omega
     have h9:((scn sc0 0 A).step ((0+A.length:Nat):Int) op.toNat).d=0:=by
      rw[(p8 h3 _ _).2 hp]
     rw[h1,iq,Bool.or_eq_false_iff,dpt,Bool.or_eq_false_iff]at hd;obtain⟨opA,tA,hj,gA⟩:=ih (mk A) d hc hw.1 (by rw[qA];exact hd.1)
     obtain⟨opB,tB,hy,gB⟩:=ih (mk B) d hr hw.2 (by rw[qA,←hd.2.2];exact XX _ _ _ _ _ _ h9.symm)
     rw[qA]at gA gB;have h5:scn sc0 0 s.data.toList=scn ((scn sc0 0 A).step ((0+A.length:Nat):Int) op.toNat) (0+A.length+1) B:=by rw[h1,ud,scn]
     have hq:tB.length=1:=by
      rcases Uh tB.length 2 with hl|hl
      ·have:=gB.len.1;omega
      ·exfalso
       have hk:=((gB.scan.top _ (0+A.length+1) h9).2.2.2 hl).1;rw[←h5,h7]at hk;omega
     obtain⟨t,rfl⟩: ∃t,tB=[t]:=by
      match tB,hq with
      | [t],_=>exact⟨t,rfl⟩
     have hg:=(gB.single rfl).anyOp op;have hn:Gr true d op A tA:=by
      rcases Uh tA.length 2 with hl|hl
      ·exact .one _ _ _ _ ((gA.single (by have:=gA.len.1;omega)).anyOp op)
      ·have hk:=((gA.scan.top sc0 0 rfl).2.2.2 hl).2
       have e:opA=op:=by
        rcases hj with rfl|rfl<;>rcases h3 with rfl|rfl
        ·rfl
        ·exfalso;apply h8;rw[hO,hN,hk.1,hk.2];simp
        ·exfalso;apply h8;rw[hO,hN,hk.1,hk.2];simp
        ·rfl
       rw[←e];exact gA
     rw[h1];exact⟨op,_,h3,.more _ _ _ _ _ _ h3 hn hg⟩
   ·have h1:=K0 s hm he hi
    have hb:jc (s.extract 1 (s.size-1))=true:=by rw[←bS h2];exact hw
    rw[h1,dpt,Bool.or_eq_false_iff,ZC,iq,Bool.or_eq_false_iff]at hd;have hu:1<=d:=by have:=hd.1;simp[sc0]at this;omega
    obtain⟨e,rfl⟩: ∃e,d=e+1:=⟨d-1,by omega⟩
    obtain⟨op,ts,ho,g⟩:=ih (s.extract 1 (s.size-1)) e (by simp[ByteArray.size_extract];omega) hb (by
     rw[←hd.2.1];refine(GR (m:=(e:Int)) (k:=1) ?_).symm
     rfl)
    rw[h1];exact⟨124,_,Or.inl rfl,.one _ _ _ _ (.br _ _ _ _ _ g)⟩
   ·have hf:(xB s).is≠120:=by
     rw[jT s (by rw[h2];have:=gK s;omega),h2]at hw
     simpa using hw
    obtain⟨t,ht⟩:=JD s d 124 hf;exact⟨124,_,Or.inl rfl,.one _ _ _ _ ht⟩
theorem dJ(s:BA)(h1:ngt sc0 0 s.data.toList=false)(h2:(scn sc0 0 s.data.toList).d=0)(h3: ¬((scn sc0 0 s.data.toList).o=true/\(scn sc0 0 s.data.toList).n=true))(h4:s.size≠0):
  qe s=if 0<=(scn sc0 0 s.data.toList).a then opS s (scn sc0 0 s.data.toList).a.toNat else if qR s 0=40/\qR s (s.size-1)=41/\2<s.size then qe (s.extract 1 (s.size-1))else xB s:=by
 have e:qe s=yx s (qe (s.extract 1 (s.size-1))):=by
  unfold qe;obtain⟨k,hk⟩: ∃k,s.size=k+1:=⟨s.size-1,by omega⟩
  rw[hk,xd,←hk];rw[md k _ _ (by simp[ByteArray.size_extract];omega) (Uc _)]
 rw[e];unfold yx;rw[bR,Qv,if_neg (by rw[h1];decide),if_neg (by rintro(h|h|h);exact h h2;exact h3 h;exact h4 h)]
theorem cX{b d op l ts}(h:Gr b d op l ts):l≠[]:=by
 induction h with
 |this=>decide
 |rel _ _ _ h1 _=>exact iX h1
 |arrow=>simp
 |br=>simp
 |one _ _ _ _ _ ih=>exact ih
 |more=>simp
theorem oJ{d op l ts}(h:Gr false d op l ts):qe (mk l)=if qR (mk l) 0=40/\qR (mk l) ((mk l).size-1)=41/\2<(mk l).size then qe ((mk l).extract 1 ((mk l).size-1))else xB (mk l):=by
 have hs:=h.scan.top sc0 0 rfl;have e:=hs.2.2.1 (h.len.2 rfl);rw[dJ (mk l) hs.1 hs.2.1 (by rw[qA,e];decide) (by rw[zC,qA];exact λe=>cX h (Oy e))]
 rw[qA,e,if_neg (by decide)]
theorem Oa(c:UInt8)(r:List UInt8):qR (mk (c::r)) 0=c.toNat:=rfl
theorem Qw(h:l≠[]): ∃c r,l=c::r:=by
 cases l with
 |nil=>exact absurd rfl h
 |cons c r=>exact⟨c,r,rfl⟩
theorem uT{d op l ts}(h:Gr false d op l ts)(hq: ∀x∈l,jA x):qe (mk l)=xB (mk l):=by
 rw[oJ h];obtain⟨c,r,rfl⟩:=Qw (cX h);rw[if_neg];rintro⟨e,-⟩;rw[Oa]at e;exact(hq c (by simp)).1 ((u40 c).1 e)
theorem bT{b d op l ts}(h:Gr b d op l ts):jc (mk l)=true:=by
 induction h with
 |this d op=>
  rw[jT,uT (.this d op) jk]
  ·rfl
  ·rw[uT (.this d op) jk];decide
 |rel d op a h1 h2=>
  have e:xB (mk a)=⟨114,mk a,{data:= #[]}⟩:=by
   unfold xB;rw[if_neg (λe=>h2 (by have:=congrArg (λs=>s.data.toList) e;exact this)),if_pos (show zZ (mk a)=true from h1)]
  have e2:=(uT (.rel d op a h1 h2) (jj h1)).trans e;rw[jT _ (by rw[e2];show¬((114:Int)=124\/(114:Int)=38);decide),e2];rfl
 |arrow d op a b h1 h2 h3 h4=>
  have hx: ∀x∈a,x≠(45:UInt8):=qZ (qJ h1) (by decide)
  obtain⟨c1,c2,c3⟩:=jG (mk (a++45::62::b)) a (62::b) 45 (qA _) hx;have hn: ¬zZ (mk (a++45::62::b))=true:=λe=>by
   have:=qJ (a:=a++45::62::b) e 45 (by simp)
   revert this;decide
  have e:(xB (mk (a++45::62::b))).is=97:=by
   unfold xB;rw[if_neg,if_neg hn]
   ·unfold kp
    have hd:qX (mk (a++45::62::b)) 45=mk a:=c1;have ha:qS (mk (a++45::62::b)) 45=mk (62::b):=c2;have h9:yu (mk (a++45::62::b)) 45=true:=c3;have c4:(mk (62::b)).extract 1 (mk (62::b)).size=mk b:=yB (by rw[xO];rfl)
    rw[hd,ha,h9,c4,if_neg,if_neg]
    ·rintro(h|h|h|h)
     ·rw[show zZ (mk a)=true from h1]at h;cases h
     ·rw[show zZ (mk b)=true from h2]at h;cases h
     ·exact h3 (congrArg (λs=>s.data.toList) h)
     ·have:=congrArg (λs=>s.data.toList) h
      exact h4 (by simpa[qA,iP,yn]using this)
    ·rintro(h|h|h)
     ·cases h
     ·rw[zC,qA]at h;simp at h
     ·exact h rfl
   ·intro e
    have:=congrArg (λs=>s.data.toList) e;have h7:(45:UInt8)∈uB.data.toList:=by rw[←this];simp[qA]
    revert h7;decide
  have e2:=uT (.arrow d op a b h1 h2 h3 h4) (dI h1 h2);rw[jT _ (by rw[e2,e];decide),e2,e];rfl
 |br d op op' l ts h1 ih=>
  have hb:=oJ (.br d op op' l ts h1);have hl:1<=l.length:=by
   rcases l with _|⟨c,r⟩
   ·exact absurd rfl (cX h1)
   ·simp
  have h5:(mk (40::(l++[41]))).size=l.length+2:=by rw[zC,qA];simp
  have hx:(mk (40::(l++[41]))).extract 1 ((mk (40::(l++[41]))).size-1)=mk l:=by
   refine yB ?_;rw[ByteArray.data_extract,Array.toList_extract,List.extract_eq_take_drop,qA,h5];show(l++[41]).take (l.length+2-1-1)=l
   rw[show l.length+2-1-1=l.length by omega,List.take_left]
  rw[if_pos ⟨rfl,by
   rw[h5];unfold qR;rw[qA];have:(40::(l++[41])).getD (l.length+2-1) 0=(41:UInt8):=by
    rw[show l.length+2-1=l.length+1 by omega,List.getD_cons_succ]
    simp
   rw[this];rfl,by omega⟩,hx]at hb
  rw[bS hb];exact ih
 |one d op l ts h1 ih=>exact ih
 |more d op l m ts t hop h1 h2 ih1 ih2=>
  have hs:=(Gr.more d op l m ts t hop h1 h2).scan.top sc0 0 rfl;have hc:2<=(ts++[t]).length:=by have:=h1.len.1;simp;omega
  have h6:=(hs.2.2.2 hc).2;have h8:=h1.scan.top sc0 0 rfl;have he:(scn sc0 0 (l++op::m)).a=(l.length:Nat):=by
   have e:=(p8 hop (scn sc0 0 l) ((0+l.length:Nat):Int)).2 h8.2.1;have f:=(h2.scan.top ⟨0,((0+l.length:Nat):Int),(scn sc0 0 l).o||op==124,(scn sc0 0 l).n||op==38⟩ (0+l.length+1) rfl).2.2.1 rfl;rw[ud,scn,e,f];simp
  have h0:=dJ (mk (l++op::m)) hs.1 hs.2.1 (by
   rw[qA,h6.1,h6.2];rcases hop with rfl|rfl<;>decide) (by rw[zC,qA];simp)
  rw[qA,he,if_pos (by omega),show((l.length:Nat):Int).toNat=l.length by omega,kh _ l m op (qA _)]at h0
  rw[cW _ (by rw[h0];rcases hop with rfl|rfl;exact Or.inl rfl;exact Or.inr rfl),h0,Bool.and_eq_true]
  exact⟨ih1,ih2⟩
theorem Qx(s:BA):(jc s=true/\y6 s.data.toList s.size=false)↔ ∃op ts,(op=124\/op=38)/\Gr true 5 op s.data.toList ts:=by
 rw[JC]
 constructor
 ·rintro⟨h1,h2⟩;exact XY s.size s 5 (Uc _) h1 h2
 ·rintro⟨op,ts,-,h⟩
  have hs:s=mk s.data.toList:=yB rfl;exact⟨by rw[hs];exact bT h,h.scan.deep 5 sc0 0 (by decide) (by decide)⟩
