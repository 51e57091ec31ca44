import Derived.Test.YtalmoiogbdahcaaGreatADskD
open Go.Proofs.Tryz
namespace Go.Proofs.YtalmoiogbdahcaaGreat
set_option maxRecDepth 100000
set_option maxHeartbeats 8000000
open Go.RowKit Go.Shelf
variable{D:Dk}
theorem Qp(hW:DkW D)(hl: ∀(k:Nat) (r:Rq),D.rs[k]?=some r->r.is=1->r.tk≠none)(i:Nat):DkW (xY D i):=by
 unfold xY;cases he:D.rs.findIdx? (yP D)with
 |none=>exact hW
 |some j=>
  intro a b r ha hr;have hj:=(List.findIdx?_eq_some_iff_getElem.1 he);obtain⟨h4,h2,-⟩:=hj;have h3:D.rs[j]?=some D.rs[j]:=OC h4;have h5:(D.rs[j]).is=1:=by
   unfold yP at h2;rw[Bool.and_eq_true]at h2;exact of_decide_eq_true h2.1
  have h1:(D.rs.modify j λr=>{r with is:=2})[b]?=some r:=hr;rw[pQ _ h3]at h1;by_cases e:j=b
  ·subst e
   rw[OI h4]at h1;injection h1 with h1;rw[←h1];show(D.rs[j]).tk≠none
   exact hl j _ h3 h5
  ·rw[OH e]at h1
   have h0:(D.wk.set i (some j))[a]?=some (some b):=ha;by_cases e2:i=a
   ·subst e2
    by_cases hi:i<D.wk.length
    ·rw[OI hi]at h0
     injection h0 with h0;injection h0 with h0;exact absurd h0 e
    ·rw[OD (by rw[OO];omega)]at h0;cases h0
   ·rw[OH e2]at h0
    exact hW a b r h0 h1
theorem XK(D:Dk)(i:Nat):(xY D i).wk.length=D.wk.length:=by
 unfold xY;cases D.rs.findIdx? (yP D)with
 |none=>rfl
 |some j=>show(D.wk.set i (some j)).length=_;rw[OO]
variable{Q R:Nat->Prop}{db mr wb:Nat}{ls:List Rl}{tv:Value}{w:World}{xs:List BA}
theorem DkAt.liveR(h:DkAt xs mr R db Q D tv wb ls w): ∀(k:Nat) (r:Rq),D.rs[k]?=some r->r.is=1->r.tk≠none:=by
 intro k r hr hi e;have hk:=(OE.1 hr).1;obtain⟨l,hl⟩: ∃l,ls[k]?=some l:=⟨_,OC (by rw[h.len];exact hk)⟩
 exact(h.at' k l r hl hr).live.1 e (Or.inl hi)
def pR(xs:List BA)(mr:Nat)(R:Nat->Prop)(db:Nat)(Q:Nat->Prop)(D:Dk)(i:Nat)(tv:Value)(wb:Nat)(w w':World):Prop:=
 Frm Q w w'/\ ∃D' ls',DStep xs D i D'/\DkAt xs mr R db (more Q w w') D' tv wb ls' w'
variable{w':World}
theorem XL(h:DkAt xs mr R db Q D tv wb ls w')(hR: ∀k,R k->k<w.heap.size):DkAt xs mr R db (more Q w w') D tv wb ls w':=by
 refine h.wide (λk e=>Or.inl e) (λk e=>?_) λk hk e=>?_
 ·rcases e with e|e
  ·exact h.lt k e
  ·exact e.2
 ·rcases e with e|e
  ·exact h.rq k hk e
  ·have:=hR k hk;omega
variable{D1:Dk}{i:Nat}{o:Option Nat}
theorem aY(HW:Hid xh){w1:World}(h0:DkAt xs mr R db Q D tv wb ls w)(h1:DkAt xs mr R db Q D1 tv wb ls w1)(hf:Frm Q w w1)(hW:DkW D1)(he:D1=if D.wk[i]?=some none then xY D i else D)(ho:D1.wk[i]?=some o):
  (o=none->CallsD prog 110 #[.pointer (some ⟨db,0,none⟩)] .returning w1 λe u' w'=>u'=.returning/\(e=.returned (.tuple #[])/\pR xs mr R db Q D i tv wb w w'))/\
  (∀j,o=some j-> ∃rb,wkV ls o=.pointer (some ⟨rb,0,none⟩)/\Calls prog 112 #[.pointer (some ⟨rb,0,none⟩)] w1 λe w2=>e=.returned (.tuple #[])/\Hid (CallsD prog 110 #[.pointer (some ⟨db,0,none⟩)] .returning w2 λe u' w'=>u'=.returning/\(e=.returned (.tuple #[])/\pR xs mr R db Q D i tv wb w w'))):=by
 constructor
 ·intro e
  subst e;refine(jx h1 .returning).mono ?_;rintro e u' w' ⟨hu,rfl,h4,-,h2⟩;rw[aX hW h1.ok.wj]at h2;have h3:Frm Q w w':=hf.trans h4 λk _ e=>e▸h1.wQ;exact⟨hu,rfl,h3,D1,ls,DStep.idle D1 he ho,XL h2 h0.ru.lt⟩
 ·intro j e
  subst e;have hj:=h1.ok.wj i j ho;obtain⟨l,r,hl,hr,hR⟩:=h1.get hj;obtain⟨t,ht⟩: ∃t,r.tk=some t:=by
   cases e:r.tk with
   |none=>exact absurd e (hW i j r ho hr)
   |some t=>exact⟨t,rfl⟩
  have hm:=OZ hl;refine⟨l.rb,by rw[vp,hl];rfl,?_⟩
  refine(Zr HW hR ht h1.ru λk hk e=>h1.rq k hk (h1.inQ l hm k e)).mono ?_;rintro e w2 ⟨rfl,h5,fin,r',uv',tp',hs,h7⟩;refine⟨rfl,?_⟩;have h6:=h1.upd (l':=⟨l.rb,more l.P w1 w2,uv',tp'⟩) (r':=r') hl hr rfl h5 (λk e=>e) h7;refine(jx h6 .returning).mono ?_;rintro e u' w' ⟨hu,rfl,h4,h8,h2⟩;have h3:Frm Q w w':=(hf.trans h5 λk _ e=>h1.inQ l hm k e).trans h4 λk _ e=>e▸h1.wQ;refine⟨hu,rfl,h3,_,ls.set j ⟨l.rb,more l.P w1 w2,uv',tp'⟩,DStep.work D1 he j ho r r' t fin hr ht hs,?_⟩;have h9:=hf.size;refine h2.wide (λk e=>?_) (λk e=>?_) λk hk e=>?_
  ·rcases e with e|e
   ·exact Or.inl e
   ·exact Or.inr ⟨by omega,by rw[h8];exact e.2⟩
  ·rcases e with e|e
   ·exact Ug (h0.lt k e) h3.size
   ·exact e.2
  ·rcases e with e|e
   ·exact h0.rq k hk e
   ·have:=h0.ru.lt k hk;omega
theorem Zs(HW:Hid xh)(h:DkAt xs mr R db Q D tv wb ls w)(hW:DkW D)(hi:i<D.wk.length):
  Calls prog 63 #[.pointer (some ⟨db,0,none⟩),.int .i64 i] w λe w'=>e=.returned (.tuple #[])/\pR xs mr R db Q D i tv wb w w':=by
 obtain⟨o,ho⟩: ∃o,D.wk[i]?=some o:=⟨_,OC hi⟩;have d3:=qa h.blk (j:=3) rfl;have dw:=qa h.wrow (j:=i) (u:=wkV ls o) (by rw[OF,ho];rfl)
 have h4:=h.ok.w4;cases o with
 |some j=>
  obtain⟨-,hs⟩:=aY HW h h (Frm.refl _ _) hW (by rw[if_neg];rw[ho];simp) ho
  obtain⟨rb,h0,h1⟩:=hs j rfl;have h7:Hid (Calls prog 112 #[.pointer (some ⟨rb,0,none⟩)] w _):=h1;rw[h0]at dw;generalize pR xs mr R db Q D i tv wb w=PP at *;generalize D.wk.length=M at *;clear h hW ho hs h1 h0 HW;go_enter_defers func63,ntmps63
  go_wp2_with(go_at_call 112;refine(Calls.mono h7.out) ?_;rintro e w2 ⟨rfl,h2⟩)
  refine leaves_cons (f:=110) (args:= #[.pointer (some ⟨db,0,none⟩)]) (by simp) (by simp[go_sem]) ?_
  refine(CallsD.mono h2.out) ?_;rintro e u' w6 ⟨rfl,rfl,hp⟩;exact⟨.tuple #[],by simp[results,results63,go_sem],rfl,hp⟩
 |none=>
  have h5:=XK D i;have ha:Hid (Calls prog 111 #[.pointer (some ⟨db,0,none⟩),.int .i64 i] w λe w1=>e=.returned (.tuple #[])/\w1.cell? ⟨db,3,none⟩=some (.slice (some ⟨wb,0,none⟩) D.wk.length D.wk.length)/\((w1.cell? ⟨wb,i,none⟩=some (.pointer none)/\Hid (CallsD prog 110 #[.pointer (some ⟨db,0,none⟩)] .returning w1 λe u' w'=>u'=.returning/\(e=.returned (.tuple #[])/\pR xs mr R db Q D i tv wb w w')))\/ ∃rb,w1.cell? ⟨wb,i,none⟩=some (.pointer (some ⟨rb,0,none⟩))/\Hid (Calls prog 112 #[.pointer (some ⟨rb,0,none⟩)] w1 λe w2=>e=.returned (.tuple #[])/\Hid (CallsD prog 110 #[.pointer (some ⟨db,0,none⟩)] .returning w2 λe u' w'=>u'=.returning/\(e=.returned (.tuple #[])/\pR xs mr R db Q D i tv wb w w'))))):=by
   refine(Zq h hW hi).mono ?_;rintro e w1 ⟨rfl,hf,hD⟩;obtain⟨o1,h8⟩: ∃o1,(xY D i).wk[i]?=some o1:=⟨_,OC (by rw[h5];exact hi)⟩
   have h9:=qa hD.blk (j:=3) rfl;have h3:=qa hD.wrow (j:=i) (u:=wkV ls o1) (by rw[OF,h8];rfl)
   obtain⟨hn,hs⟩:=aY HW h hD hf (Qp hW h.liveR i) (by rw[if_pos ho]) h8
   have h6:w1.cell? ⟨db,3,none⟩=some (.slice (some ⟨wb,0,none⟩) D.wk.length D.wk.length):=by rw[←h5];exact h9
   refine⟨rfl,h6,?_⟩;cases o1 with
   |none=>exact Or.inl ⟨h3,hn rfl⟩
   |some j=>
    obtain⟨rb,h0,h1⟩:=hs j rfl;rw[h0]at h3;exact Or.inr ⟨rb,h3,h1⟩
  have hb:w.cell? ⟨wb,i,none⟩=some (.pointer none):=dw;generalize pR xs mr R db Q D i tv wb w=PP at *;generalize D.wk.length=M at *;clear h hW ho HW dw h5;go_enter_defers func63,ntmps63
  go_wp2_with(first|(go_at_call 111;refine(Calls.mono ha.out) ?_;rintro e w1 ⟨rfl,g3,⟨gw,h2⟩|⟨rb,gw,h7⟩⟩)|(go_at_call 112;refine(Calls.mono h7.out) ?_;rintro e w2 ⟨rfl,h2⟩))
  all_goals
   refine leaves_cons (f:=110) (args:= #[.pointer (some ⟨db,0,none⟩)]) (by simp) (by simp[go_sem]) ?_
   refine(CallsD.mono h2.out) ?_;rintro e u' w6 ⟨rfl,rfl,hp⟩;exact⟨.tuple #[],by simp[results,results63,go_sem],rfl,hp⟩
theorem DkAt.setC(h:DkAt xs mr R db Q D tv wb ls w)(c:Int)(h0:0<=c)(h9:c<=1000000000):
  DkAt xs mr R db Q {D with clock:=c} tv wb ls (w.setCell ⟨db,1,none⟩ (.int .i64 c)):=by
 have hf:=zu w db 1 (.int .i64 c);have hz:=yG w ⟨db,1,none⟩ (.int .i64 c);have h3:wb≠db:=by
  intro e;have h1:=h.wrow;rw[e,h.blk]at h1;injection h1 with h1;injection h1 with _ h1;revert h1;decide
 have h2: ∀g,tv.ownBlock=some g->g≠db:=by
  intro g hg e;obtain⟨-,-,cur,h1⟩:=qf h.row g hg;rw[e,h.blk]at h1;injection h1 with h1;injection h1 with _ h1;revert h1;decide
 have hR: ∀k,R k->(w.setCell ⟨db,1,none⟩ (.int .i64 c)).heap[k]?=w.heap[k]?:=λk hk=>hf.block k (h.ru.lt k hk) λe=>h.rq k hk (e▸h.dQ);exact{h with blk:=qL h.blk 1 _,row:=qF h.row λg hg=>hf.block g (qf h.row g hg).1 (h2 g hg),wrow:=(hf.block wb (qc h.wrow) h3).trans h.wrow,at':=λa l r hl hr=>(h.at' a l r hl hr).keep hf.size (λk hk=>hf.block k ((h.at' a l r hl hr).lt k hk) λe=>h.dn l (OZ hl) (e▸hk)) (h.ru.all _ hR),lt:=λk e=>by rw[hz];exact h.lt k e,ok:={h.ok with c0:=h0,c9:=h9},ru:=h.ru.to (by rw[hz];exact Uc _) hR}
variable{r':Rq}
theorem DkAt.upd0(h:DkAt xs mr R db Q D tv wb ls w){l:Rl}{r:Rq}{tp':Value}(hl:ls[i]?=some l)(hr:D.rs[i]?=some r)(hf:Frm (λk=>k=l.rb) w w')(hz:w'.heap.size=w.heap.size)(hR:RqAt xs mr l.rb l.P r' l.uv tp' w'):
  DkAt xs mr R db Q {D with rs:=D.rs.set i r'} tv wb (ls.set i {l with tp:=tp'}) w'/\Frm Q w w':=by
 have h1:=h.at' i l r hl hr;have hm:=OZ hl;have h0:Frm l.P w w':=hf.mono λk _ e=>e▸h1.rP;have key:=h.upd (l':={l with tp:=tp'}) hl hr rfl h0 (λk e=>Or.inl e) hR;refine⟨key.wide (λk e=>?_) (λk e=>by rw[hz];exact h.lt k e) h.rq,h0.mono λk _ e=>h.inQ l hm k e⟩
 rcases e with e|e
 ·exact e
 ·omega
structure LatI(rs:List Rq)(c:Int)(k:Nat)(rs':List Rq):Prop where
 len:rs'.length=rs.length
 lo: ∀i,i<k->rs'[i]?=(rs[i]?).map (xF c)
 hi: ∀i,k<=i->rs'[i]?=rs[i]?
variable{c:Int}{k:Nat}{rs rs':List Rq}
theorem LatI.next(h:LatI rs c k rs'){r:Rq}(hr:rs[k]?=some r):LatI rs c (k+1) (rs'.set k (xF c r)):=by
 have hk:k<rs'.length:=by rw[h.len];exact(OE.1 hr).1
 refine⟨by rw[OO];exact h.len,λi hi=>?_,λi hi=>?_⟩
 ·by_cases e:k=i
  ·subst e;rw[OI hk,hr];rfl
  ·rw[OH e];exact h.lo i (by omega)
 ·rw[OH (by omega)];exact h.hi i (by omega)
theorem LatI.all(h:LatI rs c k rs')(hk:rs.length<=k):rs'=rs.map (xF c):=by
 apply List.ext_getElem?
 intro i;rw[OF];by_cases hi:i<k
 ·exact h.lo i hi
 ·rw[h.hi i (by omega),OD (by omega)];rfl
structure LatA(xs:List BA)(mr:Nat)(R:Nat->Prop)(db:Nat)(Q:Nat->Prop)(D:Dk)(tv:Value)(wb:Nat)(w:World)(k:Nat)(wr:World):Prop where
 fr:Frm Q w wr
 sz:wr.heap.size=w.heap.size
 ex: ∃rs ls,LatI D.rs D.clock k rs/\DkAt xs mr R db Q {D with rs:=rs} tv wb ls wr
theorem Zt(h:DkAt xs mr R db Q D tv wb ls w):
  Calls prog 66 #[.pointer (some ⟨db,0,none⟩)] w λe w'=>e=.returned (.tuple #[])/\Frm Q w w'/\w'.heap.size=w.heap.size/\ ∃ls',DkAt xs mr R db Q (uZ D) tv wb ls' w':=by
 have d1:=qa h.blk (j:=1) rfl;have z1:=qd h.blk 1;have ht:=h.ok.c0;have hs:=h.ok.c9;have hc:=h.ok.rl;have ho:0<=uz D:=by unfold uz;omega
 have hm:uz D<=1000000000:=by unfold uz;omega
 have h1:=h.setC (uz D) ho hm;have h7:Hid (LatA xs mr R db Q {D with clock:=uz D} tv wb w 0 (w.setCell ⟨db,1,none⟩ (.int .i64 (uz D)))):=⟨(zu _ _ _ _).mono λk _ e=>e▸h.dQ,yG _ _ _,D.rs,ls,⟨rfl,λi hi=>by omega,λ_ _=>rfl⟩,h1⟩
 obtain⟨N,hN⟩: ∃N,D.rs.length=N:=⟨_,rfl⟩;have HN:Hid (D.rs.length=N):=hN;obtain⟨tx,tc,h2⟩:=qz h.row;have d2:=qa h1.blk (j:=2) rfl;rw[h2,h.len,hN]at d2;have he:Hid (tv=.slice tx N tc):=by show tv=_;rw[h2,h.len,hN]
 rw[hN]at hc;have hj:Hid (uZ D=xp {D with clock:=uz D,rs:=D.rs.map (xF (uz D))}):=rfl;clear h h2 hN;unfold uz at *;have h3:=qa h1.blk (j:=1) rfl;clear h1;go_enter_defers func66,ntmps66;go_wp2
 go_loopw [19] (λi wr=> ∃k:Nat,k<=N/\i=.int .i64 k/\LatA xs mr R db Q {D with clock:=min (D.clock+1) 1000000000} tv wb w k wr) (λi _=>N-(intOf i).toNat)
 case atStart=>exact⟨0,Um _,rfl,h7.out⟩
 case round=>
  obtain⟨k,hk,rfl,hA⟩:=hrel;have HA:Hid (LatA xs mr R db Q {D with clock:=min (D.clock+1) 1000000000} tv wb w k wr):=hA;obtain⟨rs,ls',hI,hD⟩:=hA.ex;have HI:Hid (LatI D.rs (min (D.clock+1) 1000000000) k rs):=hI;have HD:Hid (DkAt xs mr R db Q {D with clock:=min (D.clock+1) 1000000000,rs:=rs} tv wb ls' wr):=hD;have hq:wr.cell? ⟨db,1,none⟩=some (.int .i64 (min (D.clock+1) 1000000000)):=qa hD.blk (j:=1) rfl;clear hA hI hD h7 d1 d2 z1 h3;by_cases hlt:k<N
  ·obtain⟨l,r,hl,hr,hR⟩:=HD.out.get (i:=k) (by show k<rs.length;rw[HI.out.len];have:=HN.out;omega)
   obtain⟨g,c,hg,h5⟩:=HD.out.cell hl;rw[he.out]at hg;injection hg with hg h9 h3;clear h9;subst hg;subst h3;have h6:D.rs[k]?=some r:=by rw[←HI.out.hi k (Uc _)];exact hr
   have hd:Hid (Calls prog 108 #[.pointer (some ⟨l.rb,0,none⟩),.int .i64 (min (D.clock+1) 1000000000)] wr λe w'=>e=.returned (.tuple #[])/\LatA xs mr R db Q {D with clock:=min (D.clock+1) 1000000000} tv wb w (k+1) w'):=by
    refine(lj hR (min (D.clock+1) 1000000000)).mono ?_;rintro e w' ⟨rfl,hf,hz,tp',hn⟩;obtain⟨h0,ha⟩:=HD.out.upd0 hl hr hf hz hn;exact⟨rfl,HA.out.fr.trans ha λ_ _ e=>e,by rw[hz];exact HA.out.sz,_,_,HI.out.next h6,h0⟩
   clear hl hr hR h6 HA HI HD
   go_wp2_with(go_at_call 108;refine hd.out.mono ?_;rintro e w1 ⟨rfl,h4⟩;have h8:Hid (LatA xs mr R db Q {D with clock:=min (D.clock+1) 1000000000} tv wb w (k+1) w1):=h4;clear h4)
   go_roundw
   case rel=>exact⟨k+1,by omega,by go_num,h8.out⟩
   case measure=>simp[intOf];omega
  ·obtain rfl:k=N:=by omega
   have hb:Hid (CallsD prog 110 #[.pointer (some ⟨db,0,none⟩)] .returning wr λe u' w'=>u'=.returning/\(e=.returned (.tuple #[])/\Frm Q w w'/\w'.heap.size=w.heap.size/\ ∃ls',DkAt xs mr R db Q (uZ D) tv wb ls' w')):=by
    refine(jx HD.out .returning).mono ?_;rintro e u' w' ⟨hu,rfl,hf,hz,h0⟩;have e:=HI.out.all (by have:=HN.out;omega)
    rw[e]at h0;refine⟨hu,rfl,HA.out.fr.trans hf λj _ e=>e▸HD.out.wQ,by rw[hz];exact HA.out.sz,ls',?_⟩
    rw[hj.out];exact h0
   clear HA HI HD;go_wp2;refine leaves_cons (f:=110) (args:= #[.pointer (some ⟨db,0,none⟩)]) (by simp) (by simp[go_sem]) ?_
   refine(CallsD.mono hb.out) ?_;rintro e u' w6 ⟨rfl,rfl,hp⟩;exact⟨.tuple #[],by simp[results,results66,go_sem],rfl,hp⟩
theorem sC(h:DkAt xs mr R db Q D tv wb ls w)(id:Int):
  Calls prog 113 #[.pointer (some ⟨db,0,none⟩),.int .i64 id] w λe w'=>e=.returned (.bool (vU D id))/\w'=w:=by
 have d2:=qa h.blk (j:=2) rfl;obtain⟨tx,tc,h0⟩:=qz h.row;rw[h0,h.len]at d2;unfold vU;generalize D.rs.length=N at *;clear h h0;by_cases h1:1<=id
 ·have e1:decide (1<=id)=true:=Up h1
  rw[e1];go_enter func113,ntmps113;go_wp2;go_ret;exact⟨zo (by simp),rfl⟩
 ·have e1:decide (1<=id)=false:=Uo h1
  rw[e1];go_enter func113,ntmps113;go_wp2;go_ret;exact⟨zo (by simp),rfl⟩
theorem lm(h:DkAt xs mr R db Q D tv wb ls w)(i:Int):
  Calls prog 62 #[.pointer (some ⟨db,0,none⟩),.int .i64 i] w λe w'=>e=.returned (.bool (decide (0<=i) && decide (i<(D.wk.length:Nat))))/\w'=w:=by
 have d3:=qa h.blk (j:=3) rfl;generalize D.wk.length=N at *;clear h;by_cases h1:0<=i
 ·have e1:decide (0<=i)=true:=Up h1
  rw[e1];go_enter func62,ntmps62;go_wp2;go_ret;exact⟨zo (by simp),rfl⟩
 ·have e1:decide (0<=i)=false:=Uo h1
  rw[e1];go_enter func62,ntmps62;go_wp2;go_ret;exact⟨zo (by simp),rfl⟩
variable{b j:Nat}
theorem aF{u:Value}(h:w.cell? ⟨b,j,none⟩=some u)(o:Obj):(w.alloc o).cell? ⟨b,j,none⟩=some u:=
 (World.cell?_of_block (a:=⟨b,j,none⟩) (Oq w o b (qp h))).trans h
variable{v:Value}
theorem kV{base:Nat}{e:TypeId}{size n:Nat}{us:List Value}(h:w.ownsRow base e size v n us)(hb:b<base)(i:Nat)(u:Value):(w.setCell ⟨b,i,none⟩ u).ownsRow base e size v n us:=
 qF h λg hg=>Ot _ _ _ _ (by have:=(qf h g hg).2.1;show g≠b;omega)
def noR:Rq:=⟨0,0,false,[],none⟩
def uA(D:Dk)(id:Int):Rq:=if vU D id=true then(D.rs[id.toNat-1]?).getD noR else noR
def nM(r:Rq)(w:World)(e:Ending)(w':World):Prop:=
 ∃o c,e=.returned (.agg #[.int .i64 r.is,.int .i64 r.st,.bool r.al,.slice o r.us.length c])/\w'.ownsRow w.heap.size 9 1 (.slice o r.us.length c) r.us.length (qg r.us)/\Below w.heap.size w w'
theorem GM{us:List BA}(h:zH w v us)(hl:us.length<=50):Calls prog 49 #[v] w λe w'=> ∃o c,e=.returned (.slice o us.length c)/\w'.ownsRow w.heap.size 9 1 (.slice o us.length c) us.length (qg us)/\Below w.heap.size w w':=by
 rcases h.strs with⟨rfl,rfl⟩|⟨b0,o0,c0,rfl,h0⟩
 ·refine(dm w).mono ?_
  rintro e w' ⟨rfl,rfl⟩;exact⟨none,0,rfl,World.ownsRow_nil _ _ _ _,Ou _ _⟩
 ·refine(dl b0 o0 c0 us w h0 (by omega)).mono ?_
  rintro e w' ⟨g,c,rfl,ho,hb⟩;exact⟨_,_,rfl,ho,hb⟩
theorem eZ(h:DkAt xs mr R db Q D tv wb ls w)(id:Int):
  Calls prog 64 #[.pointer (some ⟨db,0,none⟩),.int .i64 id] w (nM (uA D id) w):=by
 have h3:Hid (∀w1,Below w.heap.size w w1->Calls prog 113 #[.pointer (some ⟨db,0,none⟩),.int .i64 id] w1 λe w'=>e=.returned (.bool (vU D id))/\w'=w1):=λw1 hb=>sC (h.below hb) id;unfold uA;cases hh:vU D id with
 |false=>
  rw[hh]at h3;have e0:(if(false:Bool)=true then(D.rs[id.toNat-1]?).getD noR else noR)=noR:=if_neg (by decide)
  rw[e0];clear h e0;go_enter func64,ntmps64
  go_wp2_with(go_at_call 113;refine(h3.out _ bl).mono ?_;rintro e w1 ⟨rfl,h5⟩;subst w1)
  refine bodyPost_ret (v:=.agg #[.int .i64 0,.int .i64 0,.bool false,.slice none 0 0]) (by simp[results,results64,go_sem]) rfl ⟨none,0,rfl,World.ownsRow_nil _ _ _ _,bl⟩
 |true=>
  rw[hh]at h3;have h6:1<=id/\id<=(D.rs.length:Nat):=by
   unfold vU at hh;rw[Bool.and_eq_true]at hh;exact⟨of_decide_eq_true hh.1,of_decide_eq_true hh.2⟩
  obtain⟨n,rfl⟩: ∃n:Nat,id=(n:Int)+1:=⟨id.toNat-1,by omega⟩
  have hn:n<D.rs.length:=by omega
  have e0:(if(true:Bool)=true then(D.rs[((n:Int)+1).toNat-1]?).getD noR else noR)=(D.rs[n]?).getD noR:=by
   rw[if_pos rfl];have:((n:Int)+1).toNat-1=n:=by omega
   rw[this]
  rw[e0];obtain⟨l,r,hl,hr,hR⟩:=h.get hn;obtain⟨g,c,hg,h0⟩:=h.cell hl;rw[hr];show Calls _ _ _ _ (nM r w)
  have hi:=h.ok.rl;have d2:=qa h.blk (j:=2) rfl;rw[hg,h.len]at d2;have r0:=qa hR.blk (j:=0) rfl;have r1:=qa hR.blk (j:=1) rfl;have r2:=qa hR.blk (j:=2) rfl;have r3:=qa hR.blk (j:=3) rfl;have hp:=λo=>aF d2 o;have hf:=λo=>aF h0 o;have hq:=λo=>aF r0 o;have hj:=λo=>aF r1 o;have he:=λo=>aF r2 o;have h9:=λo=>aF r3 o;have h2: ∃o n c,l.uv=.slice o n c:=by
   rcases hR.us with⟨e,-⟩|⟨b,cap,cur,e,-⟩
   ·exact⟨_,_,_,e⟩
   ·exact⟨_,_,_,e⟩
  obtain⟨uo,un,uc,h2⟩:=h2;have hd:Hid (∀w1,Below w.heap.size w w1->Calls prog 49 #[.slice uo un uc] w1 λe w'=> ∃o c,e=.returned (.slice o r.us.length c)/\w'.ownsRow w1.heap.size 9 1 (.slice o r.us.length c) r.us.length (qg r.us)/\Below w1.heap.size w1 w'):=by
   intro w1 h4;rw[←h2];exact GM (xJ hR.us λk hk=>h4.block k (zG hR.us k hk).1) hR.ul
  have ha:Hid (∀(o:Option Addr) (c b:Nat) (w':World),w.heap.size<=b->w'.ownsRow b 9 1 (.slice o r.us.length c) r.us.length (qg r.us)->Below w.heap.size w w'->nM r w (.returned (.agg #[.int .i64 r.is,.int .i64 r.st,.bool r.al,.slice o r.us.length c])) w'):=λo c b w' h4 ho hb=>⟨o,c,rfl,xM ho h4,hb⟩;rw[h2]at r3 h9;generalize nM r w=PP at *;generalize l.rb=rb at *;generalize r.us=us at *;generalize r.is=is at *;generalize r.st=st at *;generalize r.al=al at *;generalize D.rs.length=N at *;clear h hR hl hr hg hh h6 e0 h2 d2 h0 r0 r1 r2 r3;go_enter func64,ntmps64
  go_wp2_with(first|(go_at_call 113;refine(h3.out _ bl).mono ?_;rintro e w1 ⟨rfl,h5⟩;subst w1)|(go_at_call 49;refine(hd.out _ bl).mono ?_;rintro e w2 ⟨o,c,rfl,h7,h1⟩;have hm:w.heap.size+1<w2.heap.size:=(by have:=h1.size;simp at this;omega);have k0:=λo=>h1.cell (p:=⟨w.heap.size,o,none⟩) (by simp;omega);have k1:=λo=>h1.cell (p:=⟨w.heap.size+1,o,none⟩) (by simp);have f0:=λo=>h1.frozen (p:=⟨w.heap.size,o,none⟩) (by simp;omega);have f1:=λo=>h1.frozen (p:=⟨w.heap.size+1,o,none⟩) (by simp)))
  have h8:Below w.heap.size w w2:=(((Ou w.heap.size w).alloc (Uc _) _).alloc (by simp) _).trans (h1.mono (by simp;omega))
  refine bodyPost_ret (v:=.agg #[.int .i64 is,.int .i64 st,.bool al,.slice o us.length c]) (by simp[results,results64,go_sem,k0]) rfl ?_
  have hc:=xM (base':=w.heap.size+2) h7 (by simp)
  refine ha.out o c (w.heap.size+2) _ (by omega) ?_ ?_
  ·exact kV (kV (kV (kV (kV hc (by omega) _ _) (by omega) _ _) (by omega) _ _) (by omega) _ _) (by omega) _ _
  ·exact((((h8.setCell (Ud _) _).setCell (Uc _) _).setCell (Uc _) _).setCell (Uc _) _).setCell (Uc _) _
def ip(xs:List BA)(mr:Nat)(R:Nat->Prop)(db:Nat)(Q:Nat->Prop)(D:Dk)(tv:Value)(wb:Nat)(w w':World):Prop:=
 Frm Q w w'/\w'.heap.size=w.heap.size/\ ∃ls',DkAt xs mr R db Q D tv wb ls' w'
theorem oy(h:DkAt xs mr R db Q D tv wb ls w)(hW:DkW D)(id:Int):
  Calls prog 65 #[.pointer (some ⟨db,0,none⟩),.int .i64 id] w λe w'=>e=.returned (.bool (yc D id))/\ip xs mr R db Q (zW D id) tv wb w w':=by
 have h0:Hid (Calls prog 113 #[.pointer (some ⟨db,0,none⟩),.int .i64 id] w λe w'=>e=.returned (.bool (vU D id))/\w'=w):=sC h id;have h5:Hid (CallsD prog 110 #[.pointer (some ⟨db,0,none⟩)] .returning w λe u' w'=>u'=.returning/\(e=.returned (.tuple #[])/\ip xs mr R db Q D tv wb w w')):=by
  refine(jx h .returning).mono ?_;rintro e u' w' ⟨hu,rfl,hf,hz,h2⟩;rw[aX hW h.ok.wj]at h2;exact⟨hu,rfl,hf.mono λk _ e=>e▸h.wQ,hz,ls,h2⟩
 cases hh:vU D id with
 |false=>
  rw[hh]at h0;have e1:yc D id=false:=by unfold yc;rw[hh];rfl
  have e2:zW D id=D:=by unfold zW;rw[e1];exact if_neg (by decide)
  rw[e1,e2];generalize ip xs mr R db Q D tv wb w=PP at *;clear h hW hh e1 e2;go_enter_defers func65,ntmps65
  go_wp2_with(go_at_call 113;refine h0.out.mono ?_;rintro e w1 ⟨rfl,h1⟩;subst w1)
  refine leaves_cons (f:=110) (args:= #[.pointer (some ⟨db,0,none⟩)]) (by simp) (by simp[go_sem]) ?_
  refine(CallsD.mono h5.out) ?_;rintro e u' w6 ⟨rfl,rfl,hp⟩;exact⟨.bool false,by simp[results,results65,go_sem],rfl,hp⟩
 |true=>
  rw[hh]at h0;have he:1<=id/\id<=(D.rs.length:Nat):=by
   have h3:=hh;unfold vU at h3;rw[Bool.and_eq_true]at h3;exact⟨of_decide_eq_true h3.1,of_decide_eq_true h3.2⟩
  obtain⟨n,rfl⟩: ∃n:Nat,id=(n:Int)+1:=⟨id.toNat-1,by omega⟩
  have hn:n<D.rs.length:=by omega
  have en:((n:Int)+1).toNat-1=n:=by omega
  obtain⟨l,r,hl,hr,hR⟩:=h.get hn;obtain⟨g,c,hg,h6⟩:=h.cell hl;have hi:=h.ok.rl;have d2:=qa h.blk (j:=2) rfl;rw[hg,h.len]at d2;have h4:Hid (Calls prog 114 #[.pointer (some ⟨l.rb,0,none⟩)] w λe w'=>e=.returned (.bool (!r.tk.isSome))/\w'=w):=dB hR;have e1:yc D ((n:Int)+1)=r.tk.isSome:=by
   unfold yc;rw[hh,en];unfold ux;rw[hr];rfl
  cases ht:r.tk with
  |none=>
   rw[ht]at h4 e1;have e2:zW D ((n:Int)+1)=D:=by unfold zW;rw[e1];exact if_neg (by decide)
   rw[e1,e2];generalize ip xs mr R db Q D tv wb w=PP at *;generalize l.rb=rb at *;generalize D.rs.length=N at *;clear h hW hh e1 e2 hR hl hr ht hg;go_enter_defers func65,ntmps65
   go_wp2_with(first|(go_at_call 113;refine h0.out.mono ?_;rintro e w1 ⟨rfl,h1⟩;subst w1)|(go_at_call 114;refine h4.out.mono ?_;rintro e w1 ⟨rfl,h1⟩;subst w1))
   refine leaves_cons (f:=110) (args:= #[.pointer (some ⟨db,0,none⟩)]) (by simp) (by simp[go_sem]) ?_
   refine(CallsD.mono h5.out) ?_;rintro e u' w6 ⟨rfl,rfl,hp⟩;exact⟨.bool false,by simp[results,results65,go_sem],rfl,hp⟩
  |some t=>
   rw[ht]at h4 e1;have e1:yc D ((n:Int)+1)=true:=e1;have e2:zW D ((n:Int)+1)=xp {D with rs:=D.rs.set n (r.ended 6)}:=by
    unfold zW;rw[e1,en];rw[if_pos rfl,pQ _ hr]
   rw[e1,e2];have hc:Hid (Calls prog 115 #[.pointer (some ⟨l.rb,0,none⟩),.int .i64 6] w λe w1=>e=.returned (.tuple #[])/\Hid (CallsD prog 110 #[.pointer (some ⟨db,0,none⟩)] .returning w1 λe u' w'=>u'=.returning/\(e=.returned (.tuple #[])/\ip xs mr R db Q (xp {D with rs:=D.rs.set n (r.ended 6)}) tv wb w w'))):=by
    refine(cS hR.blk 6).mono ?_;rintro e w1 ⟨rfl,ha,h7,h8⟩;refine⟨rfl,?_⟩;obtain⟨h9,hd⟩:=h.upd0 hl hr h7 h8 (hR.toEnd (by decide) (by decide) ha h7)
    refine(jx h9 .returning).mono ?_;rintro e u' w' ⟨hu,rfl,hf,hz,h2⟩;exact⟨hu,rfl,hd.trans hf λk _ e=>e▸h.wQ,hz.trans h8,_,h2⟩
   generalize ip xs mr R db Q (xp {D with rs:=D.rs.set n (r.ended 6)}) tv wb w=PP at *;generalize l.rb=rb at *;generalize D.rs.length=N at *;clear h hW hh e1 e2 hR hl hr ht hg h5;go_enter_defers func65,ntmps65
   go_wp2_with(first|(go_at_call 113;refine h0.out.mono ?_;rintro e w1 ⟨rfl,h1⟩;subst w1)|(go_at_call 114;refine h4.out.mono ?_;rintro e w1 ⟨rfl,h1⟩;subst w1)|(go_at_call 115;refine(Calls.mono hc.out) ?_;rintro e w2 ⟨rfl,hb⟩))
   refine leaves_cons (f:=110) (args:= #[.pointer (some ⟨db,0,none⟩)]) (by simp) (by simp[go_sem]) ?_
   refine(CallsD.mono hb.out) ?_;rintro e u' w6 ⟨rfl,rfl,hp⟩;exact⟨.bool true,by simp[results,results65,go_sem],rfl,hp⟩
theorem sD(h:DkW D)(id:Int):DkW (zW D id):=by
 unfold zW;split
 ·exact pP _
 ·exact h
def xI(D:Dk):Nat->Dk
 |0=>D
 |k+1=>zW (xI D k) (k+1)
theorem sE(h:DkW D)(k:Nat):DkW (xI D k):=by
 induction k with
 |zero=>exact h
 |succ k ih=>exact sD ih _
theorem lp(h:DkAt xs mr R db Q D tv wb ls w)(hW:DkW D):
  Calls prog 67 #[.pointer (some ⟨db,0,none⟩)] w λe w'=>e=.returned (.tuple #[])/\ip xs mr R db Q (xI D D.rs.length) tv wb w w':=by
 have d2:=qa h.blk (j:=2) rfl;have h8:=h.ok.rl;have h2:Hid (ip xs mr R db Q (xI D 0) tv wb w w):=⟨Frm.refl _ _,rfl,ls,h⟩;have h3:Hid (∀(k:Nat) (wr:World),ip xs mr R db Q (xI D k) tv wb w wr->Calls prog 65 #[.pointer (some ⟨db,0,none⟩),.int .i64 ((k:Int)+1)] wr λe w'=> ∃b:Bool,e=.returned (.bool b)/\ip xs mr R db Q (xI D (k+1)) tv wb w w'):=by
  rintro k wr ⟨hf,hz,ls',hD⟩;refine(oy hD (sE hW k) ((k:Int)+1)).mono ?_;rintro e w' ⟨rfl,h6,h7,ls'',h5⟩;exact⟨_,rfl,hf.trans h6 λ_ _ e=>e,h7.trans hz,ls'',h5⟩
 obtain⟨tx,tc,h4⟩:=qz h.row;rw[h4,h.len]at d2;generalize hN:D.rs.length=N at *;generalize h1:(λk=>ip xs mr R db Q (xI D k) tv wb w)=PP at *;have e0:ip xs mr R db Q (xI D 0) tv wb w w=PP 0 w:=by rw[←h1]
 have h2:Hid (PP 0 w):=by rw[←e0];exact h2.out
 have h0:Hid (∀(k:Nat) (wr:World),PP k wr->Calls prog 65 #[.pointer (some ⟨db,0,none⟩),.int .i64 ((k:Int)+1)] wr λe w'=> ∃b:Bool,e=.returned (.bool b)/\PP (k+1) w'):=by rw[←h1];exact h3.out
 have HE:Hid (∀w',PP N w'->ip xs mr R db Q (xI D N) tv wb w w'):=by rw[←h1];exact λw' h=>h
 clear h hW h4 hN h1 e0 h3;go_enter func67,ntmps67;go_wp2
 go_loopw [8] (λi wr=> ∃k:Nat,k<=N/\i=.int .i64 k/\PP k wr) (λi _=>N-(intOf i).toNat)
 case atStart=>exact⟨0,Um _,rfl,h2.out⟩
 case round=>
  obtain⟨k,hk,rfl,hA⟩:=hrel;have HA:Hid (PP k wr):=hA;clear hA h2;by_cases hlt:k<N
  ·have HC:Hid (Calls prog 65 #[.pointer (some ⟨db,0,none⟩),.int .i64 ((k:Int)+1)] wr λe w'=> ∃b:Bool,e=.returned (.bool b)/\PP (k+1) w'):=h0.out k wr HA.out
   clear HA h0
   go_wp2_with(go_at_call 65;refine HC.out.mono ?_;rintro e w1 ⟨b,rfl,hp⟩;have HP:Hid (PP (k+1) w1):=hp;clear hp)
   go_roundw
   case rel=>exact⟨k+1,by omega,by go_num,HP.out⟩
   case measure=>simp[intOf];omega
  ·obtain rfl:k=N:=by omega
   have HF:Hid (ip xs mr R db Q (xI D k) tv wb w wr):=HE.out _ HA.out;clear HA h0 HE;go_wp2
   go_end0
   exact⟨rfl,HF.out⟩
structure Gq where
 t:Tk
 nd:BA
 th:BA
 ck:Bool
 n:Nat
structure SimR(xs:List BA)(c:Int)(r:Rq)(g:Gq):Prop where
 cost:lI xs g.t.now g.t.x g.n
 nm: ∃k n z,NmN g.t.x k n (some z)
 nd:g.nd=txT g.t.x
 ck:g.ck=g.t.chk
 th:g.ck=true->g.th=thT g.t.y
 nl:g.n<=32000000
 b1:1<=g.t.bud
 b9:g.t.bud<=1000000000
 u0:0<=g.t.til
 u9:g.t.til<=1000000000
 live:r.is=1\/r.is=2->r.tk=some g.t/\r.st<g.n/\(r.st:Int)<g.t.bud/\c<g.t.til
 gone: ¬(r.is=1\/r.is=2)->r.tk=none
 done:r.is=3->AnsR xs g.t r.al r.us
 rest:r.is≠3->r.al=false/\r.us=[]
 stn:r.st<=g.n
 ok:DocOk xs g.t.now
structure Sim(xs:List BA)(D:Dk)(gs:List Gq):Prop where
 len:gs.length=D.rs.length
 at': ∀(j:Nat) (r:Rq) (g:Gq),D.rs[j]?=some r->gs[j]?=some g->SimR xs D.clock r g
 wk2: ∀(i j:Nat),D.wk[i]?=some (some j)-> ∃r,D.rs[j]?=some r/\r.is=2
variable{gs:List Gq}
theorem Sim.get(h:Sim xs D gs){r:Rq}(hr:D.rs[j]?=some r): ∃g,gs[j]?=some g/\SimR xs D.clock r g:=by
 have hj:=(OE.1 hr).1;obtain⟨g,hg⟩: ∃g,gs[j]?=some g:=⟨_,OC (by rw[h.len];exact hj)⟩
 exact⟨g,hg,h.at' j r g hr hg⟩
variable{g:Gq}
theorem SimR.tk{r:Rq}(h:SimR xs c r g):r.tk≠none↔(r.is=1\/r.is=2):=by
 constructor
 ·intro hn
  by_cases e:r.is=1\/r.is=2
  ·exact e
  ·exact absurd (h.gone e) hn
 ·intro e
  rw[(h.live e).1];simp
variable{c':Int}
theorem SimR.end{r:Rq}(h:SimR xs c r g)(hl:r.is=1\/r.is=2){is:Int}(hi:4<=is):SimR xs c' (r.ended is) g:=by
 have h3:r.is≠3:=by omega
 refine{h with live:=λe=>?_,gone:=λ_=>rfl,done:=λe=>?_,rest:=λ_=>h.rest h3}
 ·have e:is=1\/is=2:=e
  omega
 ·have e:is=3:=e
  omega
structure SimP(xs:List BA)(D:Dk)(gs:List Gq):Prop where
 len:gs.length=D.rs.length
 at': ∀(j:Nat) (r:Rq) (g:Gq),D.rs[j]?=some r->gs[j]?=some g->SimR xs D.clock r g
 wk1: ∀(i j:Nat),D.wk[i]?=some (some j)-> ∃r,D.rs[j]?=some r/\r.is≠1
theorem Sim.p(h:Sim xs D gs):SimP xs D gs:=
 ⟨h.len,h.at',λi j hij=>by
  obtain⟨r,hr,h2⟩:=h.wk2 i j hij;exact⟨r,hr,by rw[h2];decide⟩⟩
theorem SimP.get(h:SimP xs D gs){r:Rq}(hr:D.rs[j]?=some r): ∃g,gs[j]?=some g/\SimR xs D.clock r g:=by
 have hj:=(OE.1 hr).1;obtain⟨g,hg⟩: ∃g,gs[j]?=some g:=⟨_,OC (by rw[h.len];exact hj)⟩
 exact⟨g,hg,h.at' j r g hr hg⟩
theorem SimP.dism(h:SimP xs D gs)(h0:D.wk[i]?=some (some j)): ∃r,D.rs[j]?=some r/\ym D.rs (some j)=if r.is=2 then some j else none:=by
 obtain⟨r,hr,h1⟩:=h.wk1 i j h0;obtain⟨g,hg,sr⟩:=h.get hr;refine⟨r,hr,?_⟩;show(if ux D.rs j=true then some j else none)=_
 have hl:ux D.rs j=r.tk.isSome:=by unfold ux;rw[hr]
 rw[hl];by_cases e:r.is=2
 ·rw[(sr.live (Or.inr e)).1,if_pos e];rfl
 ·rw[sr.gone (by omega),if_neg e];rfl
theorem SimP.dismiss(h:SimP xs D gs):Sim xs (xp D) gs:=by
 refine⟨h.len,h.at',λi k hk=>?_⟩;have h0:(D.wk.map (ym D.rs))[i]?=some (some k):=hk;rw[OF]at h0;obtain⟨o,ho,hd⟩:=Un.1 h0;cases o with
 |none=>cases hd
 |some j=>
  obtain⟨r,hr,e⟩:=h.dism ho;rw[e]at hd;by_cases e2:r.is=2
  ·rw[if_pos e2]at hd
   injection hd with hd;subst hd;exact⟨r,hr,e2⟩
  ·rw[if_neg e2]at hd;cases hd
theorem SimP.put(h:SimP xs D gs){r:Rq}(hr:D.rs[j]?=some r)(hg:gs[j]?=some g)(h4:SimR xs D.clock r' g)(h1:r'.is≠1):SimP xs {D with rs:=D.rs.set j r'} gs:=by
 have hj:=(OE.1 hr).1;refine⟨by rw[h.len];show _=(D.rs.set j r').length;rw[OO],λk q g' hq h2=>?_,λi k hk=>?_⟩
 ·have h0:(D.rs.set j r')[k]?=some q:=hq
  by_cases e:j=k
  ·subst e
   rw[OI hj]at h0;injection h0 with h0;rw[hg]at h2;injection h2 with h2;rw[←h2,←h0];exact h4
  ·rw[OH e]at h0
   exact h.at' k q g' h0 h2
 ·obtain⟨q,hq,h3⟩:=h.wk1 i k hk
  by_cases e:j=k
  ·subst e
   exact⟨r',OI hj,h1⟩
  ·exact⟨q,(OH e).trans hq,h3⟩
theorem Sim.give(h:Sim xs D gs)(i:Nat):Sim xs (xY D i) gs:=by
 unfold xY;cases hf:D.rs.findIdx? (yP D)with
 |none=>exact h
 |some j=>
  obtain⟨hj,hm,-⟩:=List.findIdx?_eq_some_iff_getElem.1 hf;have hr:D.rs[j]?=some D.rs[j]:=OC hj;have h1:(D.rs[j]).is=1:=by
   unfold yP at hm;rw[Bool.and_eq_true]at hm;exact of_decide_eq_true hm.1
  have h3: ∀k,(D.rs.modify j λr=>{r with is:=2})[k]?=if j=k then D.rs[k]?.map (λr=>{r with is:=2})else D.rs[k]?:=by
   intro k;rw[List.getElem?_modify];split
   ·rfl
   ·simp
  refine⟨by show gs.length=(D.rs.modify j _).length;rw[List.length_modify];exact h.len,λk q g hq hg=>?_,λi' k hk=>?_⟩
  ·have h2:(D.rs.modify j λr=>{r with is:=2})[k]?=some q:=hq
   rw[h3]at h2;by_cases e:j=k
   ·subst e
    rw[if_pos rfl,hr]at h2;injection h2 with h2;have hs:=h.at' j _ g hr hg;subst h2;refine{hs with live:=λ_=>hs.live (Or.inl h1),gone:=λe=>absurd (Or.inr rfl) e,done:=λe=>?_,rest:=λ_=>hs.rest (by rw[h1];decide)}
    have e:(2:Int)=3:=e;cases e
   ·rw[if_neg e]at h2
    exact h.at' k q g h2 hg
  ·have h0:(D.wk.set i (some j))[i']?=some (some k):=hk
   show∃r,(D.rs.modify j λr=>{r with is:=2})[k]?=some r/\r.is=2
   rw[h3];by_cases e:j=k
   ·subst e
    rw[if_pos rfl,hr];exact⟨_,rfl,rfl⟩
   ·rw[if_neg e]
    by_cases e2:i=i'
    ·subst e2
     by_cases hi:i<D.wk.length
     ·rw[OI hi]at h0
      injection h0 with h0;injection h0 with h0;exact absurd h0 e
     ·rw[OD (by rw[OO];omega)]at h0;cases h0
    ·rw[OH e2]at h0
     exact h.wk2 i' k h0
variable{D':Dk}
theorem Sim.step(h:Sim xs D gs)(hs:DStep xs D i D'):Sim xs D' gs:=by
 have key: ∀D1:Dk,(D1=if D.wk[i]?=some none then xY D i else D)->Sim xs D1 gs:=by
  intro D1 h1;rw[h1];split
  ·exact h.give i
  ·exact h
 cases hs with
 |idle _ h1 h2=>exact key _ h1
 |work D1 h1 j h2 r r' t fin hr ht h3=>
  have hS:=key D1 h1;obtain⟨q,hq,h0⟩:=hS.wk2 i j h2;rw[hr]at hq;injection hq with hq;subst hq;obtain⟨g,hg,sr⟩:=hS.get hr;obtain⟨l1,l2,l3,l4⟩:=sr.live (Or.inr h0);rw[ht]at l1;injection l1 with l1;subst l1;obtain⟨a1,a2⟩:=sr.rest (by rw[h0];decide)
  have h4:=h3.cost g.n sr.cost;cases fin with
  |true=>
   obtain⟨d1,d2,d3,d4⟩:=h3.done rfl;refine(hS.p.put hr hg {sr with live:=λe=>?_,gone:=λ_=>d3,done:=λ_=>d4,rest:=λe=>absurd d1 e,stn:=by have:=h4.1 rfl;omega} (by rw[d1];decide)).dismiss
   rw[d1]at e;omega
  |false=>
   have h6:=h4.2 rfl;by_cases hb:(r.st:Int)+1=g.t.bud
   ·have:=h3.bud rfl hb
    subst this;refine(hS.p.put (r':={r with st:=r.st+1,is:=4,tk:=none}) hr hg {sr with live:=λe=>?_,gone:=λ_=>rfl,done:=λe=>?_,rest:=λ_=>⟨a1,a2⟩,stn:=by show r.st+1<=g.n;omega} (by show(4:Int)≠1;decide)).dismiss
    ·have e:(4:Int)=1\/(4:Int)=2:=e
     omega
    ·have e:(4:Int)=3:=e
     omega
   ·have:=h3.on rfl hb
    subst this;refine(hS.p.put (r':={r with st:=r.st+1}) hr hg {sr with live:=λ_=>⟨ht,h6,?_,l4⟩,gone:=λe=>absurd (Or.inr h0) e,done:=λe=>?_,rest:=λ_=>⟨a1,a2⟩,stn:=by show r.st+1<=g.n;omega} (by show r.is≠1;rw[h0];decide)).dismiss
    ·show((r.st+1:Nat):Int)<g.t.bud
     omega
    ·have e:r.is=3:=e
     rw[h0]at e;cases e
theorem sF{r:Rq}(hr:D.rs[j]?=some r):D.rs.modify j (λr=>r.ended 6)=D.rs.set j (r.ended 6):=by
 apply List.ext_getElem?
 intro k;rw[List.getElem?_modify];by_cases e:j=k
 ·subst e
  rw[OI (OE.1 hr).1,hr];simp
 ·rw[OH e];simp[e]
theorem Sim.cancel(h:Sim xs D gs)(id:Int):Sim xs (zW D id) gs:=by
 unfold zW;split
 ·rename_i hc
  unfold yc at hc;rw[Bool.and_eq_true]at hc;obtain⟨-,hl⟩:=hc;generalize hj:id.toNat-1=j at hl ⊢;unfold ux at hl;cases hr:D.rs[j]? with
  |none=>rw[hr]at hl;cases hl
  |some r=>
   rw[hr]at hl;have hl:r.tk.isSome=true:=hl;obtain⟨g,hg,sr⟩:=h.get hr;have h0:=sr.tk.1 (by intro e;rw[e]at hl;cases hl)
   rw[sF hr];exact(h.p.put hr hg (sr.end h0 (by decide)) (by show(6:Int)≠1;decide)).dismiss
 ·exact h
theorem Sim.cancels(h:Sim xs D gs)(k:Nat):Sim xs (xI D k) gs:=by
 induction k with
 |zero=>exact h
 |succ k ih=>exact ih.cancel _
theorem Sim.late{r:Rq}(h:SimR xs c r g):SimR xs c' (xF c' r) g:=by
 by_cases hl:r.is=1\/r.is=2
 ·obtain⟨l1,l2,l3,l4⟩:=h.live hl
  by_cases e:g.t.til<=c'
  ·rw[kj l1 e];exact h.end hl (by decide)
  ·rw[km l1 e]
   exact{h with live:=λ_=>⟨l1,l2,l3,by omega⟩}
 ·rw[iu (h.gone hl)]
  exact{h with live:=λe=>absurd e hl}
theorem Jm{r:Rq}(h1:r.is≠1):(xF c' r).is≠1:=by
 cases e:r.tk with
 |none=>rw[iu e];exact h1
 |some t=>
  by_cases e2:t.til<=c'
  ·rw[kj e e2];show(5:Int)≠1;decide
  ·rw[km e e2];exact h1
theorem Sim.ticked(h:Sim xs D gs)(c':Int):SimP xs {D with clock:=c',rs:=D.rs.map (xF c')} gs:=by
 refine⟨by rw[h.len];show _=(D.rs.map _).length;rw[OM],λk q g hq hg=>?_,λi k hk=>?_⟩
 ·have h0:(D.rs.map (xF c'))[k]?=some q:=hq
  rw[OF]at h0;obtain⟨r,hr,rfl⟩:=Un.1 h0;exact Sim.late (h.at' k r g hr hg)
 ·obtain⟨q,hq,h1⟩:=h.p.wk1 i k hk
  exact⟨xF c' q,by show(D.rs.map (xF c'))[k]?=_;rw[OF,hq];rfl,Jm h1⟩
theorem Sim.tick(h:Sim xs D gs):Sim xs (uZ D) gs:=(h.ticked (uz D)).dismiss
theorem Sim.take(h:Sim xs D gs)(hg:SimR xs (-1) (uC g.t) g):Sim xs (pO D g.t) (gs++[g]):=by
 refine⟨by rw[OK,h.len];show _=(D.rs++[_]).length;rw[OK];rfl,λk q g' hq h0=>?_,λi k hk=>?_⟩
 ·have h1:(D.rs++[xF D.clock (uC g.t)])[k]?=some q:=hq
  rcases Nat.lt_trichotomy k D.rs.length with e|e|e
  ·rw[Oz e]at h1
   rw[Oz (by rw[h.len];exact e)]at h0
   exact h.at' k q g' h1 h0
  ·subst e
   rw[←h.len]at h0;have e1:(gs++[g])[gs.length]?=some g:=by simp
   have e2:(D.rs++[xF D.clock (uC g.t)])[D.rs.length]?=some (xF D.clock (uC g.t)):=by simp
   rw[e1]at h0;rw[e2]at h1;injection h0 with h0;injection h1 with h1;subst h0 h1;exact Sim.late hg
  ·have:=(OE.1 h1).1
   simp at this;omega
 ·obtain⟨r,hr,h2⟩:=h.wk2 i k hk
  exact⟨r,(Oz (OE.1 hr).1).trans hr,h2⟩
def wkI:Option Nat->Int
 |none=>0
 |some j=>j+1
def oz(o:Option Nat):Value:=.int .i64 (wkI o)
def dqL(r:Rq)(g:Gq)(nv:Value):List Value:=[.string g.nd,.string g.th,.bool g.ck,nv,.int .i64 g.n,.int .i64 g.t.bud,.int .i64 g.t.til,.int .i64 r.is,.int .i64 r.st]
structure Ql where
 b:Nat
 nv:Value
def qlV(q:Ql):Value:=.pointer (some ⟨q.b,0,none⟩)
structure QsAt(B b:Nat)(r:Rg)(D:Dk)(gs:List Gq)(qs:List Ql)(wb:Nat)(w:World):Prop where
 rg:xX w b r
 clock:r.clock=D.clock
 queue:r.queue=D.qu
 row:w.ownsRow B 212 1 r.reqV qs.length (qs.map qlV)
 wv:r.wrkV=.slice (some ⟨wb,0,none⟩) D.wk.length D.wk.length
 wrow:w.heap[wb]?=some (.cells (D.wk.map oz).toArray 3 (0,0))
 len:qs.length=D.rs.length
 at': ∀(j:Nat) (q:Ql) (x:Rq) (g:Gq),qs[j]?=some q->D.rs[j]?=some x->gs[j]?=some g->w.heap[q.b]?=some (.cells (dqL x g q.nv).toArray 211 (0,0))/\zH w q.nv g.t.now
 nd: ∀(i j:Nat) (q q':Ql),qs[i]?=some q->qs[j]?=some q'->q.b=q'.b->i=j
 qB: ∀q∈qs,B<=q.b
 wB:B<=wb
 w4:D.wk.length<=4
 n30:D.rs.length<=30
variable{B:Nat}{qs:List Ql}{r:Rg}{x:Rq}
theorem QsAt.get(h:QsAt B b r D gs qs wb w)(hS:Sim xs D gs)(hx:D.rs[j]?=some x): ∃q g rb c,qs[j]?=some q/\gs[j]?=some g/\SimR xs D.clock x g/\w.heap[q.b]?=some (.cells (dqL x g q.nv).toArray 211 (0,0))/\r.reqV=.slice (some ⟨rb,0,none⟩) qs.length c/\w.cell? ⟨rb,j,none⟩=some (.pointer (some ⟨q.b,0,none⟩)):=by
 have hj:=(OE.1 hx).1;obtain⟨g,hg,sr⟩:=hS.get hx;obtain⟨q,hq⟩: ∃q,qs[j]?=some q:=⟨_,OC (by rw[h.len];exact hj)⟩
 obtain⟨rb,c,h1,h2⟩:=xj h.row (by rw[h.len];omega)
 exact⟨q,g,rb,c,hq,hg,sr,(h.at' j q x g hq hx hg).1,h1,h2 j _ (by rw[OF,hq];rfl)⟩
theorem QsAt.below(h:QsAt B b r D gs qs wb w)(hb:Below w.heap.size w w'):QsAt B b r D gs qs wb w':=
 {h with rg:=ut h.rg hb,row:=qF h.row λg hg=>hb.block g (qf h.row g hg).1,wrow:=(hb.block _ (qc h.wrow)).trans h.wrow,at':=λj q x g hq hx hg=>⟨(hb.block _ (qc (h.at' j q x g hq hx hg).1)).trans (h.at' j q x g hq hx hg).1,xJ (h.at' j q x g hq hx hg).2 λk hk=>hb.block k (zG (h.at' j q x g hq hx hg).2 k hk).1⟩}
theorem wd(h:QsAt B b r D gs qs wb w)(hS:Sim xs D gs){x:Nod}{k n z:List UInt8}(hx:NmN x k n (some z)):
  Calls prog 172 #[.pointer (some ⟨b,0,none⟩),.string (txT x)] w λe w'=>e=.returned (.bool (yL D x))/\w'=w:=by
 have g6:=qa h.rg (j:=6) rfl;have g7:=qa h.rg (j:=7) rfl;have h4:=h.w4;have hl:=h.n30;rw[h.wv]at g7;have HR:Hid (∀(i:Nat) (o:Option Nat),D.wk[i]?=some o->w.cell? ⟨wb,i,none⟩=some (.int .i64 (wkI o))):=by
  intro i o ho;exact qa h.wrow (by rw[OF,ho];rfl)
 have HQ:Hid (∀(i j:Nat),D.wk[i]?=some (some j)-> ∃qb rb c nd,j<30/\r.reqV=.slice (some ⟨rb,0,none⟩) D.rs.length c/\j<D.rs.length/\w.cell? ⟨rb,j,none⟩=some (.pointer (some ⟨qb,0,none⟩))/\w.cell? ⟨qb,0,none⟩=some (.string nd)/\decide (yT D.rs (some j)=some x)=(nd.toList==(txT x).toList)):=by
  intro i j h6;obtain⟨y,hy,h3⟩:=hS.wk2 i j h6;have hj:=(OE.1 hy).1;obtain⟨q,g,rb,c,hq,hg,sr,hb,hv,hc⟩:=h.get hS hy;rw[h.len]at hv;refine⟨q.b,rb,c,g.nd,by omega,hv,hj,hc,qa hb (j:=0) rfl,?_⟩
  have e1:yT D.rs (some j)=some g.t.x:=by
   unfold yT;show(D.rs[j]?.bind λr=>r.tk.map Tk.x)=_
   rw[hy];show y.tk.map Tk.x=_
   rw[(sr.live (Or.inr h3)).1];rfl
  rw[e1,sr.nd];obtain⟨k',n',z',h9⟩:=sr.nm;by_cases e:g.t.x=x
  ·rw[e,Up rfl];exact((cC _ _).2 rfl).symm
  ·rw[Uo (by intro e2;injection e2 with e2;exact e e2)]
   cases e3:(txT g.t.x).toList==(txT x).toList
   ·rfl
   ·exact absurd (pd h9 hx ((cC _ _).1 e3)) e
 obtain⟨N,hN⟩: ∃N,D.wk.length=N:=⟨_,rfl⟩;have HN:Hid (D.wk.length=N):=hN;rw[hN]at h4 g7;generalize txT x=nd at *;generalize r.reqV=rv at *;clear h hS hx hN;go_enter func172,ntmps172;go_wp2
 go_loopw [5] (λi wr=> ∃k:Nat,k<=N/\i=.int .i64 k/\wr=w/\ ∀(j:Nat) (o:Option Nat),j<k->D.wk[j]?=some o->decide (yT D.rs o=some x)=false) (λi _=>N-(intOf i).toNat)
 case atStart=>exact⟨0,Um _,rfl,rfl,λj o hj=>by omega⟩
 case round=>
  obtain⟨k,hk,rfl,h2,hA⟩:=hrel;subst h2;have HA:Hid (∀(j:Nat) (o:Option Nat),j<k->D.wk[j]?=some o->decide (yT D.rs o=some x)=false):=hA;clear hA;have HX:Hid (∀o,D.wk[k]?=some o->decide (yT D.rs o=some x)=false-> ∀(j:Nat) (o':Option Nat),j<k+1->D.wk[j]?=some o'->decide (yT D.rs o'=some x)=false):=by
   intro o ho hf j o' hj h0;by_cases e:j=k
   ·subst e
    rw[ho]at h0;injection h0 with h0;rw[←h0];exact hf
   ·exact HA.out j o' (by omega) h0
  by_cases hlt:k<N
  ·obtain⟨o,ho⟩: ∃o,D.wk[k]?=some o:=⟨_,OC (by have:=HN.out;omega)⟩
   have h1:=HR.out k o ho;cases o with
   |none=>
    replace h1:wr.cell? ⟨wb,k,none⟩=some (.int .i64 0):=h1
    have HF:Hid _:=HX.out none ho (by rfl)
    clear HR HQ HA HX ho;go_wp2
    go_roundw
    case rel=>exact⟨k+1,by omega,by go_num,trivial,HF.out⟩
    case measure=>simp[intOf];omega
   |some j=>
    replace h1:wr.cell? ⟨wb,k,none⟩=some (.int .i64 ((j:Int)+1)):=h1
    obtain⟨qb,rb,c,nd',h8,h7,he,ha,hi,hd⟩:=HQ.out k j ho;subst h7;cases hd2:nd'.toList==nd.toList with
    |true=>
     rw[hd2]at hd;have HF:Hid (yL D x=true):=bv ho hd;clear HR HQ HA HX ho hd;go_wp2;go_ret;rw[HF.out];exact⟨rfl,rfl⟩
    |false=>
     rw[hd2]at hd;have HF:Hid _:=HX.out (some j) ho hd;clear HR HQ HA HX ho hd;go_wp2
     go_roundw
     case rel=>exact⟨k+1,by omega,by go_num,trivial,HF.out⟩
     case measure=>simp[intOf];omega
  ·have h5:k=N:=by omega
   have HF:Hid (yL D x=false):=Qn λj o ho=>HA.out j o (by have:=(OE.1 ho).1;have:=HN.out;omega) ho
   clear HA HR HQ HX h5;go_wp2;go_ret;rw[HF.out];exact⟨rfl,rfl⟩
theorem qV{a:Nat}{cs ds:List Value}{s t:TypeId}(h:w.heap[a]?=some (.cells cs.toArray s (0,0)))(g:w.heap[b]?=some (.cells ds.toArray t (0,0)))(e:s≠t):a≠b:=by
 intro e2;rw[e2,g]at h;injection h with h;injection h with _ h;exact e h.symm
theorem QsAt.wk(h:QsAt B b r D gs qs wb w)(hf:Frm (λk=>k=wb) w w'){wk:List (Option Nat)}(hl:wk.length=D.wk.length)(hw:w'.heap[wb]?=some (.cells (wk.map oz).toArray 3 (0,0))):QsAt B b r {D with wk:=wk} gs qs wb w':=by
 have h0: ∀v xs,zH w v xs->zH w' v xs:=λv xs hv=>xJ hv λk hk=>by
  obtain⟨h1,cur,h2⟩:=zG hv k hk;exact hf.block k h1 (qV h2 h.wrow (by decide))
 refine{h with rg:=(hf.block _ (qc h.rg) (qV h.rg h.wrow (by decide))).trans h.rg,row:=qF h.row λg hg=>?_,wv:=(by rw[hl];exact h.wv),wrow:=hw,at':=λj q x g hq hx hg=>?_,w4:=(by rw[hl];exact h.w4)}
 ·obtain⟨h1,-,cur,h2⟩:=qf h.row g hg
  rw[←Oo (xs:=cur)]at h2;exact hf.block _ h1 (qV h2 h.wrow (by decide))
 ·obtain⟨h1,h2⟩:=h.at' j q x g hq hx hg
  exact⟨(hf.block _ (qc h1) (qV h1 h.wrow (by decide))).trans h1,h0 _ _ h2⟩
variable{q:Ql}{x':Rq}
theorem QsAt.put(h:QsAt B b r D gs qs wb w)(hq:qs[j]?=some q)(hx:D.rs[j]?=some x)(hg:gs[j]?=some g)(hf:Frm (λk=>k=q.b) w w')(hb:w'.heap[q.b]?=some (.cells (dqL x' g q.nv).toArray 211 (0,0))):QsAt B b r {D with rs:=D.rs.set j x'} gs qs wb w':=by
 obtain⟨h6,h7⟩:=h.at' j q x g hq hx hg;have hj:=(OE.1 hx).1;have h4: ∀v xs,zH w v xs->zH w' v xs:=λv xs hv=>xJ hv λk hk=>by
  obtain⟨h1,cur,h2⟩:=zG hv k hk;exact hf.block k h1 (qV h2 h6 (by decide))
 refine{h with rg:=(hf.block _ (qc h.rg) (qV h.rg h6 (by decide))).trans h.rg,row:=qF h.row λg hg=>?_,wrow:=(hf.block _ (qc h.wrow) (qV h.wrow h6 (by decide))).trans h.wrow,len:=(by rw[h.len];show _=(D.rs.set j x').length;rw[OO]),at':=λi q2 y g2 h3 hy h5=>?_,n30:=(by show(D.rs.set j x').length<=30;rw[OO];exact h.n30)}
 ·obtain⟨h1,-,cur,h2⟩:=qf h.row g hg
  rw[←Oo (xs:=cur)]at h2;exact hf.block _ h1 (qV h2 h6 (by decide))
 ·have h0:(D.rs.set j x')[i]?=some y:=hy
  by_cases e:j=i
  ·subst e
   rw[OI hj]at h0;injection h0 with h0;rw[hq]at h3;injection h3 with h3;rw[hg]at h5;injection h5 with h5;subst h0 h3 h5;exact⟨hb,h4 _ _ h7⟩
  ·rw[OH e]at h0
   obtain⟨h1,h2⟩:=h.at' i q2 y g2 h3 h0 h5;exact⟨(hf.block _ (qc h1) λe2=>e (h.nd j i q q2 hq h3 e2.symm)).trans h1,h4 _ _ h2⟩
def cg(D:Dk)(k:Nat):List (Option Nat):=D.wk.mapIdx λi o=>if i<k then ym D.rs o else o
theorem iJ(D:Dk)(k i:Nat):(cg D k)[i]?=D.wk[i]?.map λo=>if i<k then ym D.rs o else o:=by
 unfold cg;rw[List.getElem?_mapIdx]
theorem XM(D:Dk):cg D 0=D.wk:=by
 apply List.ext_getElem?
 intro i;rw[iJ];cases D.wk[i]? with
 |none=>rfl
 |some o=>simp
theorem Jn(D:Dk):cg D D.wk.length=D.wk.map (ym D.rs):=by
 apply List.ext_getElem?
 intro i;rw[iJ,OF];cases e:D.wk[i]? with
 |none=>rfl
 |some o=>
  have:=(OE.1 e).1;simp[this]
theorem sG(ho:D.wk[k]?=some o):cg D (k+1)=(cg D k).set k (ym D.rs o):=by
 have hk:=(OE.1 ho).1;apply List.ext_getElem?
 intro i;rw[iJ];by_cases e:k=i
 ·subst e
  rw[OI (by unfold cg;rw[List.length_mapIdx];exact hk),ho]
  simp
 ·rw[OH e,iJ]
  cases D.wk[i]? with
  |none=>rfl
  |some o'=>
   by_cases e2:i<k
   ·simp[e2,Nat.lt_succ_of_lt e2]
   ·have: ¬i<k+1:=by omega
    simp[e2,this]
structure FreI(D:Dk)(wb:Nat)(w:World)(k:Nat)(wr:World):Prop where
 fr:Frm (λk=>k=wb) w wr
 sz:wr.heap.size=w.heap.size
 row:wr.heap[wb]?=some (.cells ((cg D k).map oz).toArray 3 (0,0))
variable{wr:World}
theorem FreI.same(h:FreI D wb w k wr)(ho:D.wk[k]?=some o)(hd:ym D.rs o=o):FreI D wb w (k+1) wr:=by
 refine⟨h.fr,h.sz,?_⟩;rw[sG ho,hd];have e:(cg D k).set k o=cg D k:=by
  apply List.ext_getElem?
  intro i;by_cases e:k=i
  ·subst e
   rw[OI (by unfold cg;rw[List.length_mapIdx];exact(OE.1 ho).1),iJ,ho]
   simp
  ·rw[OH e]
 rw[e];exact h.row
theorem FreI.off(h:FreI D wb w k wr)(ho:D.wk[k]?=some o)(hd:ym D.rs o=none):FreI D wb w (k+1) (wr.setCell ⟨wb,k,none⟩ (.int .i64 0)):=by
 refine⟨h.fr.trans (zu _ _ _ _) λ_ _ e=>e,by rw[yG];exact h.sz,?_⟩
 rw[sG ho,hd,List.map_set];exact qL h.row k _
def Jo(B b:Nat)(r:Rg)(D:Dk)(gs:List Gq)(qs:List Ql)(wb:Nat)(w w':World):Prop:=Frm (λk=>k=wb) w w'/\w'.heap.size=w.heap.size/\QsAt B b r (xp D) gs qs wb w'
theorem dC(h:QsAt B b r D gs qs wb w)(hS:SimP xs D gs):
  Calls prog 173 #[.pointer (some ⟨b,0,none⟩)] w λe w'=>e=.returned (.tuple #[])/\Jo B b r D gs qs wb w w':=by
 have h4:=h.w4;have hb:=h.n30;have h6:Hid (FreI D wb w 0 w):=⟨Frm.refl _ _,rfl,by rw[XM];exact h.wrow⟩
 have HG:Hid (∀wr k,FreI D wb w k wr->wr.cell? ⟨b,6,none⟩=some r.reqV/\wr.cell? ⟨b,7,none⟩=some (.slice (some ⟨wb,0,none⟩) D.wk.length D.wk.length)):=by
  intro wr k hI;have h5:xX wr b r:=(hI.fr.block _ (qc h.rg) (qV h.rg h.wrow (by decide))).trans h.rg
  refine⟨qa h5 (j:=6) rfl,?_⟩;rw[←h.wv];exact qa h5 (j:=7) rfl
 have HR:Hid (∀wr k o,FreI D wb w k wr->D.wk[k]?=some o->wr.cell? ⟨wb,k,none⟩=some (.int .i64 (wkI o))/\wr.frozen? ⟨wb,k,none⟩=false):=by
  intro wr k o hI ho;refine⟨qa hI.row (u:=oz o) ?_,qd hI.row k⟩;rw[OF,iJ,ho];simp
 have HQ:Hid (∀(wr:World) (k i j:Nat),FreI D wb w k wr->D.wk[i]?=some (some j)-> ∃(qb rb c:Nat) (is:Int),r.reqV=.slice (some ⟨rb,0,none⟩) D.rs.length c/\j<D.rs.length/\wr.cell? ⟨rb,j,none⟩=some (.pointer (some ⟨qb,0,none⟩))/\wr.cell? ⟨qb,7,none⟩=some (.int .i64 is)/\ym D.rs (some j)=if is=2 then some j else none):=by
  intro wr k i j hI h9;obtain⟨y,hy,hd⟩:=hS.dism h9;have hj:=(OE.1 hy).1;obtain⟨g,hg,sr⟩:=hS.get hy;obtain⟨q,hq⟩: ∃q,qs[j]?=some q:=⟨_,OC (by rw[h.len];exact hj)⟩
  obtain⟨h1,-⟩:=h.at' j q y g hq hy hg;have h7:wr.heap[q.b]?=_:=(hI.fr.block _ (qc h1) (qV h1 h.wrow (by decide))).trans h1
  have h0:wr.ownsRow B 212 1 r.reqV qs.length (qs.map qlV):=qF h.row λg hg=>by
   obtain⟨h1,-,cur,h2⟩:=qf h.row g hg;rw[←Oo (xs:=cur)]at h2;exact hI.fr.block _ h1 (qV h2 h.wrow (by decide))
  obtain⟨rb,c,hv,hc⟩:=xj h0 (by rw[h.len];omega)
  rw[h.len]at hv;exact⟨q.b,rb,c,y.is,hv,hj,hc j _ (by rw[OF,hq];rfl),qa h7 (j:=7) rfl,hd⟩
 have HE:Hid (∀wr,FreI D wb w D.wk.length wr->Jo B b r D gs qs wb w wr):=by
  intro wr hI;have:=hI.row;rw[Jn]at this;exact⟨hI.fr,hI.sz,h.wk hI.fr (by simp) this⟩
 obtain⟨N,hN⟩: ∃N,D.wk.length=N:=⟨_,rfl⟩;rw[hN]at h4 HG HE;have HN:Hid (D.wk.length=N):=hN;generalize Jo B b r D gs qs wb w=PP at *;generalize r.reqV=rv at *;clear h hS hN;go_enter func173,ntmps173;go_wp2
 go_loopw [2] (λi wr=> ∃k:Nat,k<=N/\i=.int .i64 k/\FreI D wb w k wr) (λi _=>N-(intOf i).toNat)
 case atStart=>exact⟨0,Um _,rfl,h6.out⟩
 case round=>
  obtain⟨k,hk,rfl,hI⟩:=hrel;have HI:Hid (FreI D wb w k wr):=hI;obtain⟨g6,g7⟩:=HG.out wr k hI;clear hI h6;by_cases hlt:k<N
  ·obtain⟨o,ho⟩: ∃o,D.wk[k]?=some o:=⟨_,OC (by have:=HN.out;omega)⟩
   obtain⟨h3,hi⟩:=HR.out wr k o HI.out ho;cases o with
   |none=>
    replace h3:wr.cell? ⟨wb,k,none⟩=some (.int .i64 0):=h3
    have HF:Hid _:=HI.out.same ho rfl;clear HR HQ HG HE HI ho;go_wp2
    go_roundw
    case rel=>exact⟨k+1,by omega,by go_num,HF.out⟩
    case measure=>simp[intOf];omega
   |some j=>
    replace h3:wr.cell? ⟨wb,k,none⟩=some (.int .i64 ((j:Int)+1)):=h3
    obtain⟨qb,rb,c,is,ha,hf,he,hl,hd⟩:=HQ.out wr k k j HI.out ho;subst ha;by_cases e2:is=2
    ·rw[if_pos e2]at hd
     subst e2;have HF:Hid _:=HI.out.same ho hd;clear HR HQ HG HE HI ho hd;go_wp2
     go_roundw
     case rel=>exact⟨k+1,by omega,by go_num,HF.out⟩
     case measure=>simp[intOf];omega
    ·rw[if_neg e2]at hd
     have HF:Hid _:=HI.out.off ho hd;have e3:(is !=2)=true:=by simpa using e2
     clear HR HQ HG HE HI ho hd e2;go_wp2
     go_roundw
     case rel=>exact⟨k+1,by omega,by go_num,HF.out⟩
     case measure=>simp[intOf];omega
  ·have h8:k=N:=by omega
   subst h8;have HF:Hid _:=HE.out wr HI.out;clear HR HQ HG HE HI;go_wp2
   go_end0
   exact⟨rfl,HF.out⟩
def QF(qs:List Ql)(wb:Nat):Nat->Prop:=λk=>k=wb\/ ∃q∈qs,k=q.b
def yQ(B b:Nat)(r:Rg)(D':Dk)(gs:List Gq)(qs:List Ql)(wb:Nat)(w w':World):Prop:=Frm (QF qs wb) w w'/\w'.heap.size=w.heap.size/\QsAt B b r D' gs qs wb w'
variable{id:Int}
theorem Qq(h:vU D id=false):id<1\/(¬id<1/\(D.rs.length:Int)<id):=by
 unfold vU at h;rw[Bool.and_eq_false_iff]at h;rcases h with h|h
 ·have:=of_decide_eq_false h;omega
 ·have:=of_decide_eq_false h;omega
theorem Qr(h:vU D id=true): ∃j:Nat,id=(j:Int)+1/\j<D.rs.length:=by
 unfold vU at h;rw[Bool.and_eq_true]at h;have h1:=of_decide_eq_true h.1;have h2:=of_decide_eq_true h.2;exact⟨id.toNat-1,by omega,by omega⟩
theorem gZ(h:QsAt B b r D gs qs wb w)(hS:Sim xs D gs)(id:Int):
  Calls prog 126 #[.pointer (some ⟨b,0,none⟩),.int .i64 id] w λe w'=>e=.returned (.bool (yc D id))/\yQ B b r (zW D id) gs qs wb w w':=by
 have g6:=qa h.rg (j:=6) rfl;have hd:=h.n30;obtain⟨rx,rc,h0⟩:=qz h.row;rw[h0,h.len]at g6;cases hh:vU D id with
 |false=>
  have e1:yc D id=false:=by unfold yc;rw[hh];rfl
  have e2:zW D id=D:=by unfold zW;rw[e1];exact if_neg (by decide)
  have HP:Hid (yQ B b r (zW D id) gs qs wb w w):=⟨Frm.refl _ _,rfl,by rw[e2];exact h⟩
  have ha:=Qq hh;rw[e1];generalize yQ B b r (zW D id) gs qs wb w=PP at *;generalize D.rs.length=N at *;clear h hS h0 hh e1 e2;rcases ha with h1|⟨h1,h2⟩
  all_goals
   go_enter func126,ntmps126;go_wp2;go_ret;exact⟨rfl,HP.out⟩
 |true=>
  obtain⟨j,h6,hj⟩:=Qr hh;have hx:D.rs[j]?=some D.rs[j]:=OC hj;generalize D.rs[j]=x at hx;obtain⟨q,g,rb,c,hq,hg,sr,hb,hv,hc⟩:=h.get hS hx;rw[h0,h.len]at hv;injection hv with h8 _ h7;have h3:id.toNat-1=j:=by omega
  have q7:=qa hb (j:=7) rfl;have z7:=qd hb 7;have he:q.b≠b:=qV hb h.rg (by decide)
  by_cases hl:x.is=1\/x.is=2
  ·have e1:yc D id=true:=by
    unfold yc ux;rw[hh,h3,hx];show(true && x.tk.isSome)=true
    rw[(sr.live hl).1];rfl
   have e2:zW D id=xp {D with rs:=D.rs.set j (x.ended 6)}:=by
    unfold zW;rw[e1,if_pos rfl,h3,sF hx]
   have h9:(w.setCell ⟨q.b,7,none⟩ (.int .i64 6)).heap[q.b]?=some (.cells (dqL (x.ended 6) g q.nv).toArray 211 (0,0)):=qL hb 7 _;have hQ:=h.put hq hx hg (zu w q.b 7 (.int .i64 6)) h9;have h4:=hS.p.put hx hg (sr.end hl (is:=6) (by decide)) (by show(6:Int)≠1;decide)
   have HF:Hid (Calls prog 173 #[.pointer (some ⟨b,0,none⟩)] (w.setCell ⟨q.b,7,none⟩ (.int .i64 6)) λe w'=>e=.returned (.tuple #[])/\yQ B b r (zW D id) gs qs wb w w'):=by
    refine(dC hQ h4).mono ?_;rintro e w' ⟨rfl,hf,hz,h5⟩;rw[←e2]at h5;exact⟨rfl,((zu w q.b 7 (.int .i64 6)).mono λk _ e=>Or.inr ⟨q,OZ hq,e⟩).trans hf λk _ e=>Or.inl e,by rw[hz,yG],h5⟩
   rw[e1];generalize yQ B b r (zW D id) gs qs wb w=PP at *;generalize D.rs.length=N at *;generalize q.b=qb at *;generalize x.is=is at *;subst h6 h8 h7;clear h hS h0 hh e1 e2 hQ h4 h9 hb hx sr hg hq h3;rcases hl with e|e
   all_goals
    subst e;go_enter func126,ntmps126
    go_wp2_with(go_at_call 173;refine HF.out.mono ?_;rintro e w2 ⟨rfl,hp⟩)
    go_ret;exact⟨rfl,hp⟩
  ·have e1:yc D id=false:=by
    unfold yc ux;rw[hh,h3,hx];show(true && x.tk.isSome)=false
    rw[sr.gone hl];rfl
   have e2:zW D id=D:=by unfold zW;rw[e1];exact if_neg (by decide)
   have HP:Hid (yQ B b r (zW D id) gs qs wb w w):=⟨Frm.refl _ _,rfl,by rw[e2];exact h⟩
   rw[e1];generalize yQ B b r (zW D id) gs qs wb w=PP at *;generalize D.rs.length=N at *;generalize q.b=qb at *;have hi:(x.is !=1)=true:=by rw[bne,vJ,Uo λe=>hl (Or.inl e)];rfl
   have hk:(x.is !=2)=true:=by rw[bne,vJ,Uo λe=>hl (Or.inr e)];rfl
   generalize x.is=is at *;subst h6 h8 h7;clear h hS h0 hh e1 e2 hb hx sr hg hq hl h3;go_enter func126,ntmps126;go_wp2;go_ret;exact⟨rfl,HP.out⟩
theorem QsAt.clk(h:QsAt B b r D gs qs wb w)(c:Int):QsAt B b {r with clock:=c} {D with clock:=c} gs qs wb (w.setCell ⟨b,3,none⟩ (.int .i64 c)):=by
 have hf:=zu w b 3 (.int .i64 c);have h0: ∀v xs,zH w v xs->zH (w.setCell ⟨b,3,none⟩ (.int .i64 c)) v xs:=λv xs hv=>xJ hv λk hk=>by
  obtain⟨h1,cur,h2⟩:=zG hv k hk;exact hf.block k h1 (qV h2 h.rg (by decide))
 refine{h with rg:=qL h.rg 3 _,clock:=rfl,row:=qF h.row λg hg=>?_,wrow:=(hf.block _ (qc h.wrow) (qV h.wrow h.rg (by decide))).trans h.wrow,at':=λj q x g hq hx hg=>?_}
 ·obtain⟨h1,-,cur,h2⟩:=qf h.row g hg
  rw[←Oo (xs:=cur)]at h2;exact hf.block _ h1 (qV h2 h.rg (by decide))
 ·obtain⟨h1,h2⟩:=h.at' j q x g hq hx hg
  exact⟨(hf.block _ (qc h1) (qV h1 h.rg (by decide))).trans h1,h0 _ _ h2⟩
theorem Jp(hS:Sim xs D gs)(hc:D.clock=1000000000):uZ D=D:=by
 have hn: ∀r∈D.rs,¬(r.is=1\/r.is=2):=by
  intro r hr hl;obtain⟨j,hj⟩:=OX.1 hr;obtain⟨g,hg,sr⟩:=hS.get hj;have:=(sr.live hl).2.2.2;have:=sr.u9;omega
 have hm:D.rs.map (xF (uz D))=D.rs:=by
  refine(List.map_congr_left λr hr=>?_).trans (List.map_id _);obtain⟨j,hj⟩:=OX.1 hr;obtain⟨g,hg,sr⟩:=hS.get hj;exact iu (sr.gone (hn r hr))
 have hw:D.wk.map (ym D.rs)=D.wk:=by
  refine(List.map_congr_left λo ho=>?_).trans (List.map_id _);cases o with
  |none=>rfl
  |some j=>
   obtain⟨i,hi⟩:=OX.1 ho;obtain⟨r,hr,h2⟩:=hS.wk2 i j hi;exact absurd (Or.inr h2) (hn r (OZ hr))
 have ht:uz D=D.clock:=by unfold uz;rw[hc];rfl
 unfold uZ xp;rw[hm,ht];show({qu:=D.qu,clock:=D.clock,rs:=D.rs,wk:=D.wk.map (ym D.rs)}:Dk)=D
 rw[hw]
structure TckI(B b:Nat)(r:Rg)(D:Dk)(gs:List Gq)(qs:List Ql)(wb:Nat)(c:Int)(w:World)(k:Nat)(wr:World):Prop where
 fr:Frm (λk=>k=b\/QF qs wb k) w wr
 sz:wr.heap.size=w.heap.size
 ex: ∃rs,LatI D.rs c k rs/\QsAt B b {r with clock:=c} {D with clock:=c,rs:=rs} gs qs wb wr
theorem TckI.below{w4:World}(h:TckI B b r D gs qs wb c w k wr)(hb:Below wr.heap.size wr w4)(hz:w4.heap.size=wr.heap.size):TckI B b r D gs qs wb c w k w4:=by
 obtain⟨rs,hL,hQ⟩:=h.ex;exact⟨h.fr.trans (Frm.of_below (X:=λ_=>False) hb) λ_ _ e=>e.elim,by rw[hz];exact h.sz,rs,hL,hQ.below hb⟩
def bA(B b:Nat)(r:Rg)(D':Dk)(gs:List Gq)(qs:List Ql)(wb:Nat)(w w':World):Prop:=Frm (λk=>k=b\/QF qs wb k) w w'/\w'.heap.size=w.heap.size/\QsAt B b {r with clock:=D'.clock} D' gs qs wb w'
theorem we(h:QsAt B b r D gs qs wb w)(hS:Sim xs D gs)(h7:r.closed=false)(hd:0<=D.clock)(ha:D.clock<=1000000000):
  Calls prog 125 #[.pointer (some ⟨b,0,none⟩)] w λe w'=>e=.returned (.tuple #[])/\bA B b r (uZ D) gs qs wb w w':=by
 have g3:=qa h.rg (j:=3) rfl;have z3:=qd h.rg 3;have g4:=qa h.rg (j:=4) rfl;rw[h7]at g4;rw[h.clock]at g3;by_cases htop:D.clock=1000000000
 ·have HP:Hid (bA B b r (uZ D) gs qs wb w w):=by
   rw[Jp hS htop];refine⟨Frm.refl _ _,rfl,?_⟩;have e:({r with clock:=D.clock}:Rg)=r:=by rw[←h.clock]
   rw[e];exact h
  rw[htop]at g3;generalize bA B b r (uZ D) gs qs wb w=PP at *;clear h hS hd ha htop h7;go_enter func125,ntmps125;go_wp2;exact bodyPost_ret (v:=.tuple #[]) (by simp[results,results125,go_sem]) rfl ⟨rfl,HP.out⟩
 ·obtain⟨cl,h9⟩: ∃cl,D.clock=cl:=⟨_,rfl⟩
  have hc:uz D=cl+1:=by unfold uz;rw[h9];omega
  have hE:=h.n30;obtain⟨rx,rc,h6⟩:=qz h.row;rw[h.len]at h6;have hj:=h.clk (cl+1);have hm:Hid (TckI B b r D gs qs wb (cl+1) w 0 (w.setCell ⟨b,3,none⟩ (.int .i64 (cl+1)))):=⟨(zu _ _ _ _).mono λk _ e=>Or.inl e,yG _ _ _,D.rs,⟨rfl,λi hi=>by omega,λ_ _=>rfl⟩,hj⟩
  have HG:Hid (∀k wr,TckI B b r D gs qs wb (cl+1) w k wr->wr.cell? ⟨b,3,none⟩=some (.int .i64 (cl+1))/\wr.cell? ⟨b,6,none⟩=some (.slice rx D.rs.length rc)):=by
   intro k wr hI;obtain⟨rs,hL,hQ⟩:=hI.ex;refine⟨qa hQ.rg (j:=3) rfl,?_⟩;rw[←h6];exact qa hQ.rg (j:=6) rfl
  have h8:Hid (∀k wr,k<D.rs.length->TckI B b r D gs qs wb (cl+1) w k wr-> ∃(rb qb:Nat) (til is:Int),rx=some ⟨rb,0,none⟩/\wr.cell? ⟨rb,k,none⟩=some (.pointer (some ⟨qb,0,none⟩))/\wr.cell? ⟨qb,6,none⟩=some (.int .i64 til)/\wr.cell? ⟨qb,7,none⟩=some (.int .i64 is)/\wr.frozen? ⟨qb,7,none⟩=false/\(((is=1\/is=2)/\til<=cl+1/\Hid (∀w4,Below (wr.setCell ⟨qb,7,none⟩ (.int .i64 5)).heap.size (wr.setCell ⟨qb,7,none⟩ (.int .i64 5)) w4->w4.heap.size=(wr.setCell ⟨qb,7,none⟩ (.int .i64 5)).heap.size->TckI B b r D gs qs wb (cl+1) w (k+1) w4))\/((is=1\/is=2)/\ ¬til<=cl+1/\Hid (∀w4,Below wr.heap.size wr w4->w4.heap.size=wr.heap.size->TckI B b r D gs qs wb (cl+1) w (k+1) w4))\/((is==1)=false/\(is==2)=false/\Hid (∀w4,Below wr.heap.size wr w4->w4.heap.size=wr.heap.size->TckI B b r D gs qs wb (cl+1) w (k+1) w4)))):=by
   intro k wr hk hI;obtain⟨rs,hL,hQ⟩:=hI.ex;have hx:D.rs[k]?=some D.rs[k]:=OC hk;generalize D.rs[k]=x at hx;have h5:rs[k]?=some x:=(hL.hi k (Uc _)).trans hx;obtain⟨g,hg,sr⟩:=hS.get hx;obtain⟨q,hq⟩: ∃q,qs[k]?=some q:=⟨_,OC (by rw[h.len];exact hk)⟩
   obtain⟨hb,-⟩:=hQ.at' k q x g hq h5 hg;obtain⟨rb,c,hv,h3⟩:=xj hQ.row (by rw[h.len];omega)
   have he:r.reqV=.slice (some ⟨rb,0,none⟩) qs.length c:=hv;rw[h6]at he;injection he with hC _ _;refine⟨rb,q.b,g.t.til,x.is,hC,h3 k _ (by rw[OF,hq];rfl),qa hb (j:=6) rfl,qa hb (j:=7) rfl,qd hb 7,?_⟩
   have h4:rs.set k x=rs:=by
    apply List.ext_getElem?
    intro i;by_cases e:k=i
    ·subst e
     rw[OI (OE.1 h5).1,h5]
    ·rw[OH e]
   have h0:xF (cl+1) x=x->TckI B b r D gs qs wb (cl+1) w (k+1) wr:=by
    intro e;have hn:=hL.next hx;rw[e,h4]at hn;exact⟨hI.fr,hI.sz,rs,hn,hQ⟩
   by_cases hl:x.is=1\/x.is=2
   ·by_cases ht:g.t.til<=cl+1
    ·refine Or.inl ⟨hl,ht,?_⟩
     have hn:=hL.next hx;rw[kj (sr.live hl).1 ht]at hn;have key:TckI B b r D gs qs wb (cl+1) w (k+1) (wr.setCell ⟨q.b,7,none⟩ (.int .i64 5)):=⟨hI.fr.trans (zu wr q.b 7 (.int .i64 5)) λk _ e=>Or.inr (Or.inr ⟨q,OZ hq,e⟩),by rw[yG];exact hI.sz,_,hn,hQ.put hq h5 hg (zu wr q.b 7 (.int .i64 5)) (qL hb 7 _)⟩
     exact λw4 h1 h2=>key.below h1 h2
    ·exact Or.inr (Or.inl ⟨hl,ht,λw4 h1 h2=>(h0 (km (sr.live hl).1 ht)).below h1 h2⟩)
   ·exact Or.inr (Or.inr ⟨by rw[vJ];exact Uo λe=>hl (Or.inl e),by rw[vJ];exact Uo λe=>hl (Or.inr e),λw4 h1 h2=>(h0 (iu (sr.gone hl))).below h1 h2⟩)
  have HE:Hid (∀wr,TckI B b r D gs qs wb (cl+1) w D.rs.length wr->Calls prog 173 #[.pointer (some ⟨b,0,none⟩)] wr λe w'=>e=.returned (.tuple #[])/\bA B b r (uZ D) gs qs wb w w'):=by
   intro wr hI;obtain⟨rs,hL,hQ⟩:=hI.ex;have e:=hL.all (Uc _);subst e;refine(dC hQ (hS.ticked (cl+1))).mono ?_;rintro e w' ⟨rfl,hf,hz,hr⟩;refine⟨rfl,hI.fr.trans hf λk _ e=>Or.inr (Or.inl e),by rw[hz];exact hI.sz,?_⟩
   have e:uZ D=xp {D with clock:=cl+1,rs:=D.rs.map (xF (cl+1))}:=by unfold uZ;rw[hc]
   rw[e];exact hr
  have hu:cl<1000000000:=by omega
  have hy:0<=cl:=by omega
  rw[h9]at g3;generalize bA B b r (uZ D) gs qs wb w=PP at *;generalize TckI B b r D gs qs wb (cl+1) w=TI at *;generalize D.rs.length=N at *;clear h hS hj htop hd ha h7 h9 hc h6;go_enter func125,ntmps125;go_wp2
  go_loopw [2] (λi wr=> ∃k:Nat,k<=N/\i=.int .i64 k/\TI k wr) (λi _=>N-(intOf i).toNat)
  case atStart=>exact⟨0,Um _,rfl,hm.out⟩
  case round=>
   obtain⟨k,hk,rfl,hI⟩:=hrel;have HI:Hid (TI k wr):=hI;obtain⟨c3,c6⟩:=HG.out k wr hI;clear hI hm g3 g4 z3;by_cases hA:k<N
   ·obtain⟨rb,qb,til,is,ho,hD,hG,hF,hz,hB⟩:=h8.out k wr hA HI.out
    subst ho;clear h8 HE HG HI;rcases hB with⟨e1|e1,ht,HF⟩|⟨e1|e1,ht,HF⟩|⟨e1,e2,HF⟩
    all_goals
     try subst e1
     go_wp2
     go_region
     all_goals go_wp2
     all_goals
      go_roundw
      case rel=>exact⟨k+1,by omega,by go_num,HF.out _ bl rfl⟩
      case measure=>simp[intOf];omega
   ·have hs:k=N:=by omega
    subst hs;have HF:Hid _:=HE.out wr HI.out;clear h8 HE HG HI
    go_wp2_with(go_at_call 173;refine(Calls.mono HF.out) ?_;rintro e w2 ⟨rfl,hp⟩)
    go_end0
    exact⟨rfl,hp⟩
theorem QsAt.give(h:QsAt B b r D gs qs wb w)(hq:qs[j]?=some q)(hx:D.rs[j]?=some x)(hg:gs[j]?=some g):
  QsAt B b r {D with rs:=D.rs.set j {x with is:=2},wk:=D.wk.set i (some j)} gs qs wb ((w.setCell ⟨q.b,7,none⟩ (.int .i64 2)).setCell ⟨wb,i,none⟩ (.int .i64 ((j:Int)+1))):=by
 have hb:=(h.at' j q x g hq hx hg).1;have h1:=h.put hq hx hg (x':={x with is:=2}) (zu w q.b 7 (.int .i64 2)) (qL hb 7 _);have hw:=qL h1.wrow i (.int .i64 ((j:Int)+1));refine h1.wk (zu _ wb i _) (by rw[OO]) ?_
 rw[List.map_set];exact hw
theorem Zu(h:DStep xs D i D')(hj:D.wk[i]?=some (some j)): ∃r r' t fin,D.rs[j]?=some r/\r.tk=some t/\StepR xs t r r' fin/\D'=xp {D with rs:=D.rs.set j r'}:=by
 have hn: ¬D.wk[i]?=some none:=by rw[hj];simp
 cases h with
 |idle _ h1 h2=>
  rw[if_neg hn]at h1;rw[h1]at h2;exact absurd h2 hn
 |work D1 h1 j2 h2 r r' t fin hr ht hs=>
  rw[if_neg hn]at h1;subst h1;rw[hj]at h2;injection h2 with h2;injection h2 with h2;subst h2;exact⟨r,r',t,fin,hr,ht,hs,rfl⟩
theorem lq(h:DStep xs D i D')(hj:D.wk[i]?=some none):((xY D i).wk[i]?=some none/\D'=xY D i)\/ ∃j,(xY D i).wk[i]?=some (some j)/\ ∃r r' t fin,(xY D i).rs[j]?=some r/\r.tk=some t/\StepR xs t r r' fin/\D'=xp {xY D i with rs:=(xY D i).rs.set j r'}:=by
 cases h with
 |idle _ h1 h2=>
  rw[if_pos hj]at h1;subst h1;exact Or.inl ⟨h2,rfl⟩
 |work D1 h1 j2 h2 r r' t fin hr ht hs=>
  rw[if_pos hj]at h1;subst h1;exact Or.inr ⟨j2,h2,r,r',t,fin,hr,ht,hs,rfl⟩
variable{fin:Bool}
theorem XN(sr:SimR xs c x g)(h2:x.is=2)(hs:StepR xs g.t x x' fin):x'.st=x.st+1/\((g.n<=x.st+1/\x'.is=3)\/(¬g.n<=x.st+1/\g.t.bud<=(x.st:Int)+1/\x'.is=4)\/(¬g.n<=x.st+1/\ ¬g.t.bud<=(x.st:Int)+1/\x'.is=2)):=by
 obtain⟨-,l2,l3,-⟩:=sr.live (Or.inr h2);have hc:=hs.cost g.n sr.cost;cases fin with
 |true=>
  obtain⟨d1,d2,-,-⟩:=hs.done rfl;exact⟨d2,Or.inl ⟨by have:=hc.1 rfl;omega,d1⟩⟩
 |false=>
  have h6:=hc.2 rfl;by_cases hb:(x.st:Int)+1=g.t.bud
  ·have:=hs.bud rfl hb
   subst this;exact⟨rfl,Or.inr (Or.inl ⟨by omega,by omega,rfl⟩)⟩
  ·have:=hs.on rfl hb
   subst this;exact⟨rfl,Or.inr (Or.inr ⟨by omega,by omega,h2⟩)⟩
def GN(b wb:Nat)(rv:Value)(PP:World->Prop)(j:Nat)(wr:World):Prop:=
 ∃(rb qb c N n st:Nat) (bud:Int),rv=.slice (some ⟨rb,0,none⟩) N c/\j<N/\N<=30/\n<=32000000/\st<=n/\bud<=1000000000/\1<=bud/\wr.cell? ⟨rb,j,none⟩=some (.pointer (some ⟨qb,0,none⟩))/\qb≠wb/\qb≠b/\wr.cell? ⟨qb,4,none⟩=some (.int .i64 n)/\wr.cell? ⟨qb,5,none⟩=some (.int .i64 bud)/\wr.cell? ⟨qb,7,none⟩=some (.int .i64 2)/\wr.cell? ⟨qb,8,none⟩=some (.int .i64 st)/\wr.frozen? ⟨qb,7,none⟩=false/\wr.frozen? ⟨qb,8,none⟩=false/\
  ((((n:Int)<=(st:Int)+1)/\Hid (∀w4,Below ((wr.setCell ⟨qb,8,none⟩ (.int .i64 ((st:Int)+1))).setCell ⟨qb,7,none⟩ (.int .i64 3)).heap.size ((wr.setCell ⟨qb,8,none⟩ (.int .i64 ((st:Int)+1))).setCell ⟨qb,7,none⟩ (.int .i64 3)) w4->w4.heap.size=((wr.setCell ⟨qb,8,none⟩ (.int .i64 ((st:Int)+1))).setCell ⟨qb,7,none⟩ (.int .i64 3)).heap.size->Calls prog 173 #[.pointer (some ⟨b,0,none⟩)] w4 λe w'=>e=.returned (.tuple #[])/\PP w'))\/
   ((¬(n:Int)<=(st:Int)+1)/\bud<=(st:Int)+1/\Hid (∀w4,Below ((wr.setCell ⟨qb,8,none⟩ (.int .i64 ((st:Int)+1))).setCell ⟨qb,7,none⟩ (.int .i64 4)).heap.size ((wr.setCell ⟨qb,8,none⟩ (.int .i64 ((st:Int)+1))).setCell ⟨qb,7,none⟩ (.int .i64 4)) w4->w4.heap.size=((wr.setCell ⟨qb,8,none⟩ (.int .i64 ((st:Int)+1))).setCell ⟨qb,7,none⟩ (.int .i64 4)).heap.size->Calls prog 173 #[.pointer (some ⟨b,0,none⟩)] w4 λe w'=>e=.returned (.tuple #[])/\PP w'))\/
   ((¬(n:Int)<=(st:Int)+1)/\(¬bud<=(st:Int)+1)/\Hid (∀w4,Below (wr.setCell ⟨qb,8,none⟩ (.int .i64 ((st:Int)+1))).heap.size (wr.setCell ⟨qb,8,none⟩ (.int .i64 ((st:Int)+1))) w4->w4.heap.size=(wr.setCell ⟨qb,8,none⟩ (.int .i64 ((st:Int)+1))).heap.size->Calls prog 173 #[.pointer (some ⟨b,0,none⟩)] w4 λe w'=>e=.returned (.tuple #[])/\PP w')))
theorem Qs(h:QsAt B b r D1 gs qs wb wr)(hS:Sim xs D1 gs)(hr:Frm (QF qs wb) w wr)(hz:wr.heap.size=w.heap.size){t:Tk}(hj:D1.wk[i]?=some (some j))(hx:D1.rs[j]?=some x)(ht:x.tk=some t)(hs:StepR xs t x x' fin)(hD:D'=xp {D1 with rs:=D1.rs.set j x'}):GN b wb r.reqV (yQ B b r D' gs qs wb w) j wr:=by
 obtain⟨y,hy,h2⟩:=hS.wk2 i j hj;rw[hx]at hy;injection hy with hy;subst hy;obtain⟨q,g,rb,c,hq,hg,sr,hb,hv,hc⟩:=h.get hS hx;have hu:t=g.t:=by
  have:=(sr.live (Or.inr h2)).1;rw[ht]at this;injection this
 subst hu;obtain⟨ho,hk⟩:=XN sr h2 hs;have hd:=(OE.1 hx).1;have h8:=h.n30;have hp:x'.is≠1:=by
  rcases hk with⟨-,e⟩|⟨-,-,e⟩|⟨-,-,e⟩<;>rw[e]<;>decide
 have h4:=OZ hq;have hm:SimR xs D1.clock x' g:=by
  have hP:=(hS.step (i:=i) (D':=xp {D1 with rs:=D1.rs.set j x'}) (DStep.work D1 (by rw[if_neg (by rw[hj];simp)]) j hj x x' g.t fin hx ht hs)).at' j x' g (OI hd) hg
  exact hP
 have hP:=hS.p.put hx hg hm hp;have h9: ∀w2,Frm (λk=>k=q.b) wr w2->w2.heap.size=wr.heap.size->w2.heap[q.b]?=some (.cells (dqL x' g q.nv).toArray 211 (0,0))->Calls prog 173 #[.pointer (some ⟨b,0,none⟩)] w2 λe w'=>e=.returned (.tuple #[])/\yQ B b r D' gs qs wb w w':=by
  intro w2 h1 h6 h3;refine(dC (h.put hq hx hg h1 h3) hP).mono ?_;rintro e w' ⟨rfl,hf,hn,hi⟩;rw[←hD]at hi;exact⟨rfl,(hr.trans h1 λk _ e=>Or.inr ⟨q,h4,e⟩).trans hf λk _ e=>Or.inl e,by rw[hn,h6,hz],hi⟩
 have key: ∀w2,Frm (λk=>k=q.b) wr w2->w2.heap.size=wr.heap.size->w2.heap[q.b]?=some (.cells (dqL x' g q.nv).toArray 211 (0,0))-> ∀w4,Below w2.heap.size w2 w4->w4.heap.size=w2.heap.size->Calls prog 173 #[.pointer (some ⟨b,0,none⟩)] w4 λe w'=>e=.returned (.tuple #[])/\yQ B b r D' gs qs wb w w':=
  λw2 h1 h6 h3 w4 he hl=>h9 w4 (h1.trans (Frm.of_below (X:=λ_=>False) he) λ_ _ e=>e.elim) (by rw[hl,h6]) ((he.block _ (qc h3)).trans h3)
 rw[h.len]at hv;refine⟨rb,q.b,c,D1.rs.length,g.n,x.st,g.t.bud,hv,hd,h8,sr.nl,sr.stn,sr.b9,sr.b1,hc,qV hb h.wrow (by decide),qV hb h.rg (by decide),qa hb (j:=4) rfl,qa hb (j:=5) rfl,(by rw[←h2];exact qa hb (j:=7) rfl),qa hb (j:=8) rfl,qd hb 7,qd hb 8,?_⟩
 have h5:=qL hb 8 (.int .i64 ((x.st:Int)+1));have h7:=zu wr q.b 8 (.int .i64 ((x.st:Int)+1));have h0:((x'.st:Nat):Int)=(x.st:Int)+1:=by rw[ho];rfl
 rcases hk with⟨e1,e2⟩|⟨e1,e2,e3⟩|⟨e1,e2,e3⟩
 ·refine Or.inl ⟨by omega,key _ (h7.trans (zu _ q.b 7 _) λ_ _ e=>e) (by rw[yG,yG]) ?_⟩
  have ha:=qL h5 7 (.int .i64 3);refine ha.trans ?_;unfold dqL;rw[e2,h0];rfl
 ·refine Or.inr (Or.inl ⟨by omega,e2,key _ (h7.trans (zu _ q.b 7 _) λ_ _ e=>e) (by rw[yG,yG]) ?_⟩)
  have ha:=qL h5 7 (.int .i64 4);refine ha.trans ?_;unfold dqL;rw[e3,h0];rfl
 ·refine Or.inr (Or.inr ⟨by omega,e2,key _ h7 (by rw[yG]) ?_⟩)
  refine h5.trans ?_;unfold dqL;rw[e3,h0,h2];rfl
