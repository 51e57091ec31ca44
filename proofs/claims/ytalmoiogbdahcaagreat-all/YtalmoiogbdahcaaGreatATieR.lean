import Derived.Test.YtalmoiogbdahcaaGreatATieF
open Go.Proofs.Tryz
namespace Go.Proofs.YtalmoiogbdahcaaGreat
set_option maxRecDepth 100000
set_option maxHeartbeats 8000000
open Go.RowKit
variable{S:TS}{f:Nod->Option Value}{lo sb:Nat}{ts:List (Nod×Nod)}{w:World}
theorem SubAt.size{sb':Nat}(h:SubAt w lo sb S ts f)(hs:sb<=sb'):SubAt w lo sb' S ts f:=
 ⟨λx v hv=>⟨(h.row x v hv).1,λk hk=>Ug ((h.row x v hv).2 k hk) hs⟩,h.no,h.kn,h.apart⟩
variable{L L':TL}{S':TS}{U xs:List BA}{n tb:Nat}{w':World}{who:Nod->Nat}
theorem TA.nstep(h:TA U ts xs lo tb w.heap.size f who L S w)(r:NStep n U lo tb f who L S w L' S' w'):TA U ts xs lo tb w'.heap.size f who L' S' w':=
 ⟨r.at',(h.s.nstep h.t r).size r.fr.size,h.r.nstep h.t r,Uc _,h.tn⟩
variable{w0:World}
theorem NStep.below(h:TiesAt U w lo tb L S f who)(hb:Below lo w0 w)(r:NStep n U lo tb f who L S w L' S' w'):Below lo w0 w':=by
 refine Frm.below hb r.fr (Ue h.lob (Ub (qc h.blk))) λk _ e=>?_;rcases e with e|e
 ·exact(h.th.lt e).2
 ·exact(h.rl.lt e).2
variable{p q:Nat}{x y:Nod}
theorem Kg(ht:TiesAt U w lo tb L S f who)(hs:SubAt w lo w.heap.size S ts f)(hl:ts.length<=50)(hE:zp w L.mb xs)(kx:Kn S x)(ky:Kn S y)(hK:cxN S y=.complex .f64 p q):
  ∃v st w1,(Instr.mapEntry 179 (.map (some L.ms)) (cxN S x)).run prog (w.alloc (.cells #[.complex .f64 p q] 136))=.ok (.tuple #[v,goInt st]) w1/\(∃o n c,v=.slice o n c)/\ ∃v' w2,(Builtin.append_ #[170,170] 170 #[v,.slice (some ⟨w.heap.size,0,none⟩) 1 1]).run prog w1=.ok v' w2/\(∃o n c,v'=.slice o n c)/\ ∃w3,(Instr.entryStore 179 (.map (some L.ms)) (goInt st) v').run prog w2=.ok () w3/\
   ∃f',TiesAt U w3 lo tb L S f' who/\SubAt w3 lo w3.heap.size S (ts++[(x,y)]) f'/\zp w3 L.mb xs/\Frm (λk=>lo<=k) w w3/\ ∀(k:Nat) (cur:Array Value) (t:TypeId),w.heap[k]?=some (.cells cur t (0,0))->t≠136->w3.heap[k]?=w.heap[k]?:=by
 obtain⟨m,e1,e2,e3,e4⟩:=ht.sub;obtain⟨⟨a1,a2,a3,a4,a5⟩,⟨b1,b2,b3,b4⟩,⟨c1,c2,c3⟩,⟨d1,d2⟩,ee⟩:=ij ht.maps;have hN:lo<=w.heap.size:=Ue ht.lob (Ub (qc ht.blk));obtain⟨wa,h9⟩: ∃wa,w.alloc (.cells #[.complex .f64 p q] 136)=wa:=⟨_,rfl⟩;have h4:Below w.heap.size w wa:=by rw[←h9];exact(Ou _ _).alloc (Uc _) _
 have he:wa.heap.size=w.heap.size+1:=by rw[←h9];show(w.heap.push _).size=_;simp
 have hC:wa.heap[w.heap.size]?=some (.cells [Value.complex .f64 p q].toArray 136 (0,0)):=by rw[←h9];exact qn w [.complex .f64 p q] _
 have ea:yM wa CxG L.ms m:=e1.move (h4.block _ e1.lt);obtain⟨st,w1,o1,r1,g1,s1,q1,hA⟩:=Qt da underlying179 (z:=.slice none 0 0) (λu=>zeroValue170 u) ea (ht.ok.good kx);rw[e3 x kx]at r1;obtain⟨v,hv⟩: ∃v,(f x).getD (.slice none 0 0)=v:=⟨_,rfl⟩;rw[hv]at r1;have hB:(qy ts x).length<=50:=by
  unfold qy;rw[OM];exact Ue (List.length_filter_le _ _) hl
 have h0:w.ownsRow lo 136 1 v (qy ts x).length ((qy ts x).map (cxN S)):=by
  cases hf:f x with
  |none=>
   rw[hf]at hv;rw[←hv,hs.no x hf];exact World.ownsRow_nil _ _ _ _
  |some u=>
   rw[hf]at hv;rw[←hv];exact(hs.row x u hf).1
 have h7: ∃es cl,w.heap[L.ms]?=some (.map es cl):=by obtain⟨es,cl,q,-⟩:=e1;exact⟨es,cl,q⟩
 obtain⟨es0,cl0,h7⟩:=h7;have hd: ∀(k:Nat) (cur:Array Value) (t:TypeId),w.heap[k]?=some (.cells cur t (0,0))->w1.heap[k]?=w.heap[k]?:=by
  intro k cur t hk;rw[←h4.block k (qc hk)];refine g1.block k (by rw[he];have:=qc hk;omega) λe=>?_
  have e5:L.ms=k:=by first|exact Option.some.inj e|exact(Option.some.inj e).symm
  rw[←e5,h7]at hk;injection hk with hk;cases hk
 have ha:w1.ownsRow lo 136 1 v (qy ts x).length ((qy ts x).map (cxN S)):=qF h0 λg hg=>by
  obtain⟨-,-,cur,q⟩:=qf h0 g hg;exact hd g cur _ q
 have hF:w1.heap[w.heap.size]?=some (.cells [Value.complex .f64 p q].toArray 136 (0,0)):=by
  rw[g1.block w.heap.size (by omega) (λe=>?_)]
  ·exact hC
  ·have e5:L.ms=w.heap.size:=by first|exact Option.some.inj e|exact(Option.some.inj e).symm
   have:=e1.lt;omega
 obtain⟨i,hi,hq⟩:=Un.1 Tryz.infoCx;simp only[Prod.mk.injEq]at hq;obtain⟨i1,i2,i3⟩:=hq;obtain⟨v',w2,r2,o2,g2,-,n2⟩:=run_append_own_at (P:=prog) w1 lo 170 170 136 i (.complex .f64 0 0) 1 16 underlying170 hi i1 i2 i3 rfl (by decide) v (qy ts x).length ((qy ts x).map (cxN S)) ha ⟨w.heap.size,0,none⟩ 1 1 [.complex .f64 p q] rfl
  (λj u hj=>by
    have hJ:j=0:=by
     cases j with
     |zero=>rfl
     |succ j=>simp at hj
    subst hJ;exact qa hF hj) (by intro u hu;simp at hu;rw[hu];rfl) (by unfold maxLen;omega) (by omega) (by omega)
 have ho: ∀k,v.ownBlock=some k->k≠L.ms:=by
  intro k hk e;obtain⟨-,-,cur,q⟩:=qf h0 k hk;rw[e,h7]at q;injection q with q;cases q
 have q2:w2.heap[L.ms]?=some o1:=by
  rw[g2.block L.ms (by rw[s1,he];have:=e1.lt;omega) (λe=>ho L.ms e.symm rfl)];exact q1
 obtain⟨w3,m',r3,t1,t2,t3,t4,g3,s3⟩:=hA w2 v' q2;have hM:w1.heap.size<=w2.heap.size:=g2.size;have hp: ∀(k:Nat) (cur:Array Value) (t:TypeId),w.heap[k]?=some (.cells cur t (0,0))->v.ownBlock≠some k->w3.heap[k]?=w.heap[k]?:=by
  intro k cur t hk h8;have h1:=hd k cur t hk;have hn:k<w1.heap.size:=qc (h1.trans hk);have h2:w2.heap[k]?=w1.heap[k]?:=g2.block k hn (λe=>h8 e.symm);rw[g3.block k (by omega) (λe=>?_),h2,h1]
  have e5:L.ms=k:=by first|exact Option.some.inj e|exact(Option.some.inj e).symm
  rw[←e5,h7]at hk;injection hk with hk;cases hk
 have kC: ∀(k:Nat) (cur:Array Value) (t:TypeId),w.heap[k]?=some (.cells cur t (0,0))->t≠136->w3.heap[k]?=w.heap[k]?:=by
  intro k cur t hk h8;refine hp k cur t hk λe=>?_;obtain⟨-,-,cur',q⟩:=qf h0 k e;rw[hk]at q;injection q with q;injection q with _ q;exact h8 q
 have kM: ∀(k:Nat) (Gd:Value->Prop) (mm:List (Value×Value)),zt w Gd k mm->k≠L.ms->w3.heap[k]?=w.heap[k]?:=by
  intro k Gd mm hk h8;have hy:=hk.lt;have e0:some k≠some L.ms:=λe'=>h8 (Option.some.inj e');rw[g3.block k (by omega) e0,g2.block k (by omega) (λe=>?_),g1.block k (by omega) e0,h4.block k hy]
  obtain⟨-,-,cur',q⟩:=qf h0 k e.symm;obtain⟨es,c,q',-⟩:=hk;rw[q']at q;injection q with q;cases q
 have kN: ∀{α:Type} {enc:α->Value} {cl:α->List Value} {Gd:Value->Prop} {tN tE:TypeId} {size nb mb:Nat} {sv:Value} {vs:List α},NumAt enc cl Gd tN tE size w lo nb mb sv vs->tN≠136->tE≠136->mb≠L.ms->NumAt enc cl Gd tN tE size w3 lo nb mb sv vs:=by
  intro α enc cl Gd tN tE size nb mb sv vs hh h1 h2 h3;refine⟨(kC nb _ _ hh.blk h1).trans hh.blk,hh.map.move (kM mb _ _ hh.map h3),qF hh.row λg hg=>?_,hh.nd,hh.lob,hh.lom⟩;obtain⟨-,-,cur,q⟩:=qf hh.row g hg;exact kC g cur _ q h2
 have hb: ∀g,v'.ownBlock=some g->g≠L.ms:=by
  intro g hg e;rcases n2 with n2|n2
  ·exact ho g (n2▸hg) e
  ·rw[n2]at hg
   have:=Option.some.inj hg;have:=e1.lt;omega
 have h6:w3.ownsRow lo 136 1 v' ((qy ts x).length+1) ((qy ts x).map (cxN S)++[.complex .f64 p q]):=qF o2 λg hg=>by
  obtain⟨h1,-,cur,q⟩:=qf o2 g hg;exact g3.block g h1 λe=>hb g hg (by first|exact Option.some.inj e|exact(Option.some.inj e).symm)
 have h5: ∀z,qy (ts++[(x,y)]) z=qy ts z++(if x=z then[y]else[]):=by
  intro z;by_cases e:x=z
  ·simp[qy,List.filter_append,e]
  ·simp[qy,List.filter_append,e]
 obtain⟨mw,hc,hG⟩:=ht.wh;refine⟨v,st,w1,by rw[h9];exact r1,?_,v',w2,r2,?_,w3,r3,λz=>if z=x then some v' else f z,⟨(kC tb _ _ ht.blk (by decide)).trans ht.blk,kN ht.th (by decide) (by decide) b3,kN ht.rl (by decide) (by decide) c2,kN ht.us (by decide) (by decide) d1,⟨m',t1,?_,?_,?_⟩,⟨mw,hc.move (kM _ _ _ hc (Ne.symm ee)),hG⟩,ht.ok,ht.maps,ht.ntu,ht.stu,ht.lob,ht.los,ht.low⟩,⟨?_,?_,?_,?_⟩,hE.move (λGd mm hm=>kM _ Gd mm hm a4) (λg cur hg=>kC g cur _ hg (by decide)),?_,kC⟩
 ·obtain⟨o,c,e⟩:=qz h0;exact⟨o,_,c,e⟩
 ·obtain⟨o,c,e⟩:=qz h6;exact⟨o,_,c,e⟩
 ·intro r hr
  rcases t4 r hr with e|e
  ·exact⟨x,kx,e⟩
  ·obtain⟨r',hI,e'⟩:=OY.1 e
   obtain⟨z,kz,ez⟩:=e2 r' hI;exact⟨z,kz,by rw[←e'];exact ez⟩
 ·intro z kz
  show _=if z=x then some v' else f z
  split
  ·rename_i e;rw[e];exact t2
  ·rename_i e
   rw[t3 _ (λe'=>e (ht.ok.inj kz kx e'))];exact e3 z kz
 ·intro z kz
  show(if z=x then some v' else f z)=none
  rw[if_neg (λe=>kz (by rw[e];exact kx))];exact e4 z kz
 ·intro z u hz
  have hz:(if z=x then some v' else f z)=some u:=hz
  split at hz
  ·rename_i e
   injection hz with hz;subst hz;rw[e,h5 x,if_pos rfl,OK,OR,List.map_cons,List.map_nil,hK];exact⟨h6,λk hk=>(qf h6 k hk).1⟩
  ·rename_i e
   obtain⟨h1,h2⟩:=hs.row z u hz;rw[h5 z,if_neg (λe'=>e e'.symm),List.append_nil];refine⟨qF h1 λg hg=>?_,λk hk=>by have:=h2 k hk;omega⟩
   obtain⟨-,-,cur,q⟩:=qf h1 g hg;refine hp g cur _ q λe'=>?_;cases hf:f x with
   |none=>rw[hf]at hv;rw[←hv]at e';cases e'
   |some v0=>
    rw[hf]at hv;rw[←hv]at e';exact e (hs.apart z x u v0 g hz hf hg e')
 ·intro z hz
  have hz:(if z=x then some v' else f z)=none:=hz
  split at hz
  ·cases hz
  ·rename_i e
   rw[h5 z,if_neg (λe'=>e e'.symm),List.append_nil];exact hs.no z hz
 ·intro t hD
  rcases OS.1 hD with h1|h1
  ·exact hs.kn t h1
  ·simp at h1;rw[h1];exact⟨kx,ky⟩
 ·have key: ∀z u k,¬z=x->f z=some u->v'.ownBlock=some k->u.ownBlock=some k->False:=by
   intro z u k e hz h1 h2;have hL:=(hs.row z u hz).2 k h2;rcases n2 with n2|n2
   ·rw[n2]at h1
    cases hf:f x with
    |none=>rw[hf]at hv;rw[←hv]at h1;cases h1
    |some v0=>
     rw[hf]at hv;rw[←hv]at h1;exact e (hs.apart z x u v0 k hz hf h2 h1)
   ·rw[n2]at h1
    have:=Option.some.inj h1;omega
  intro z1 z2 u1 u2 k h1 h2 k1 k2;have h1:(if z1=x then some v' else f z1)=some u1:=h1
  have h2:(if z2=x then some v' else f z2)=some u2:=h2
  split at h1
  ·rename_i e1'
   split at h2
   ·rename_i e2';rw[e1',e2']
   ·rename_i e2'
    rw[←Option.some.inj h1]at k1;exact(key z2 u2 k e2' h2 k1 k2).elim
  ·rename_i e1'
   split at h2
   ·rename_i e2'
    rw[←Option.some.inj h2]at k2;exact(key z1 u1 k e1' h1 k2 k1).elim
   ·exact hs.apart z1 z2 u1 u2 k h1 h2 k1 k2
 ·refine⟨?_,?_,?_,by omega,λk hk hx=>?_⟩
  ·rw[g3.os,g2.os,g1.os,h4.os]
  ·rw[g3.tape,g2.tape,g1.tape,h4.tape]
  ·rw[g3.output,g2.output,g1.output,h4.output]
  ·have hn:k<lo:=by omega
   have e0:some k≠some L.ms:=λe'=>by have:=Option.some.inj e';have:=ht.los;omega
   rw[g3.block k (by omega) e0,g2.block k (by omega) (λe=>?_),g1.block k (by omega) e0,h4.block k hk]
   have:=(qf h0 k e.symm).2.1;omega
variable{e:Ending}
theorem TA.user(h:TA U ts xs lo tb w.heap.size f who L S w)(hy:y.isTh=true)(hp:v8 w lo L.nu L.mu L.su S.uss y e w'):
  e=.returned (.int .i64 (xe (zz S.uss y) y:Nat))/\ ∃su',TA U ts xs lo tb w'.heap.size f who {L with su:=su'} {S with uss:=zz S.uss y} w'/\Frm (ur L.nu L.mu L.su) w w':=by
 obtain⟨he,su',hn,hf,ho⟩:=hp;obtain⟨⟨a1,a2,a3,a4,a5⟩,⟨b1,b2,b3,b4⟩,⟨c1,c2,c3⟩,⟨d1,d2⟩,e1⟩:=ij h.t.maps;have ht:=h.t;have kC: ∀(k:Nat) (cur:Array Value) (t:TypeId),w.heap[k]?=some (.cells cur t (0,0))->t≠176->t≠75->w'.heap[k]?=w.heap[k]?:=by
  intro k cur t hk t1 t2;refine hf.block k (qc hk) λhx=>?_;rcases ht.us.kind hx hk with e|e
  ·exact t1 e
  ·exact t2 e
 have kM: ∀(k:Nat) (Gd:Value->Prop) (m:List (Value×Value)),zt w Gd k m->k≠L.mu->w'.heap[k]?=w.heap[k]?:=λk Gd m hk h4=>hf.block k hk.lt λhx=>h4 (ht.us.kindM hx hk);have kR:df Value.string w' lo L.nr L.mr L.sr S.rels:=by
  have hh:=ht.rl;refine⟨(kC L.nr _ _ hh.blk (by decide) (by decide)).trans hh.blk,hh.map.move (kM L.mr _ _ hh.map c1),qF hh.row λg hg=>?_,hh.nd,hh.lob,hh.lom⟩
  obtain⟨-,-,cur,q⟩:=qf hh.row g hg;exact kC g cur _ q (by decide) (by decide)
 have kT:jQ w' lo L.nt L.mt L.st S.ths:=ht.us.aside ht.th (by decide) (Ne.symm ht.ntu) (Ne.symm b2) (λk hk e=>ht.stu k e hk) hf
 have h3:TS.Ok U {S with uss:=zz S.uss y}:=by
  refine⟨ht.ok.tl,ht.ok.ul,ht.ok.rn,ht.ok.rU,ht.ok.r0,ht.ok.tn,?_,ht.ok.Us⟩;intro q hq;rcases yJ.1 hq with hq|hq
  ·exact ht.ok.un q hq
  ·rw[hq];exact hy
 obtain⟨ms,h1,h6⟩:=ht.sub;obtain⟨mw,h0,h5⟩:=ht.wh;refine⟨he,su',⟨⟨(kC tb _ _ ht.blk (by decide) (by decide)).trans ht.blk,kT,kR,hn,⟨ms,h1.move (kM _ _ _ h1.map (Ne.symm d1)),h6⟩,⟨mw,h0.move (kM _ _ _ h0 (Ne.symm d2)),h5⟩,h3,ht.maps,ht.ntu,?_,ht.lob,ht.los,ht.low⟩,?_,?_,Uc _,h.tn⟩,hf⟩
 ·intro k hk e
  rcases ho k e with e2|e2
  ·exact ht.stu k hk e2
  ·have:=(qf ht.th.row k hk).1;omega
 ·have h2:SubAt w' lo w.heap.size S ts f:=h.s.keep hf λk _ hx cur hc=>by
   rcases ht.us.kind hx hc with e|e<;>revert e<;>decide
  exact⟨λx v hv=>⟨(h2.row x v hv).1,λk hk=>Ug ((h2.row x v hv).2 k hk) hf.size⟩,h2.no,h2.kn,h2.apart⟩
 ·exact h.r.move (λGd m hm=>kM _ Gd m hm a3) λg cur hg=>kC g cur _ hg (by decide) (by decide)
structure Bld(U:List BA)(ts:List (Nod×Nod))(xs:List BA)(lo tb:Nat)(f:Nod->Option Value)(who:Nod->Nat)(L:TL)(S:TS)(w0 w:World):Prop where
 ta:TA U ts xs lo tb w.heap.size f who L S w
 b:Below lo w0 w
 us: ∀u,u∈S.uss↔u.isTh=true/\ ∃t∈ts,t.2=u
 ul:S.uss.length<=ts.length
 tl:S.ths.length<=2 * ts.length
 th: ∀y:Nod,y.isTh=true-> ∀i,i<64->((who y).testBit i=true↔S.uss[i]?=some y)
 no: ∀y:Nod,y.isTh=false->who y=0
 sm: ∀y,who y<2 ^ 64
theorem fV(i:Nat)(h:i<64)(w:World):Calls prog 178 #[.int .i64 i] w λe w'=>e=.returned (.int .u64 (2 ^ i:Nat))/\w'=w:=by
 have hw:IntKind.u64.wrap ((2:Int) ^ i)=((2 ^ i:Nat):Int):=by
  have e:((2:Int) ^ i)=((2 ^ i:Nat):Int):=by simp
  rw[e,mT (Nat.pow_lt_pow_right (by decide) h)]
 have h0:(0:Int)<=i:=by omega
 have h1:(i:Int)<=64:=by omega
 have HW:Hid (IntKind.u64.wrap ((2:Int) ^ i)=((2 ^ i:Nat):Int)):=hw;clear hw;go_enter func178,ntmps178;go_wp2;go_ret;refine⟨?_,rfl⟩;show Ending.returned (.int .u64 (IntKind.u64.wrap ((2:Int) ^ i)))=_
 rw[HW.out]
theorem Kh{i j:Nat}:(2 ^ i).testBit j=true↔i=j:=by
 rw[Nat.testBit_two_pow];simp
variable{L0:TL}{S0:TS}{f':Nod->Option Value}{wp:World}
theorem Bld.thing(h:Bld U ts xs lo tb f who L0 S0 w0 wp)(hy:y.isTh=true)(hd:S.ths.length<=S0.ths.length+2)(h6:S.uss=zz S0.uss y)(hl:ts.length<50)
  (h8:TA U (ts++[(x,y)]) xs lo tb w.heap.size f' (upd who y (2 ^ xe (zz S0.uss y) y)) L S w) (hb:Below lo w0 w):Bld U (ts++[(x,y)]) xs lo tb f' (upd who y (2 ^ xe (zz S0.uss y) y)) L S w0 w:=by
 have h5:y∈zz S0.uss y:=yJ.2 (Or.inr rfl);have hc:xe (zz S0.uss y) y<64:=by
  have h1:=iS h5;have h2:=cF S0.uss y;have h3:=h.ul;omega
 have h9:(zz S0.uss y).Nodup:=kO h.ta.t.us.nd y;refine⟨h8,hb,?_,?_,?_,?_,?_,?_⟩
 ·intro u
  rw[h6,yJ,h.us]
  constructor
  ·rintro(⟨h1,t,ht,e⟩|e)
   ·exact⟨h1,t,List.mem_append_left _ ht,e⟩
   ·rw[e];exact⟨hy,(x,y),by simp,rfl⟩
  ·rintro⟨h1,t,ht,e⟩
   rcases OS.1 ht with ht|ht
   ·exact Or.inl ⟨h1,t,ht,e⟩
   ·simp at ht;rw[ht]at e;exact Or.inr e.symm
 ·rw[h6,OK];have h2:=cF S0.uss y;have h3:=h.ul;simp;omega
 ·rw[OK];have h3:=h.tl;simp;omega
 ·intro z hz i hi
  rw[h6];unfold upd;split
  ·rename_i e
   rw[Kh,e]
   constructor
   ·intro e2;rw[←e2];exact lS h5
   ·intro e2
    obtain⟨h7,e3⟩:=OE.1 e2;have h4:=lS h5;obtain⟨ha,e5⟩:=OE.1 h4;exact(List.getElem_inj h9).1 (e5.trans e3.symm)
  ·rename_i e
   rw[h.th z hz i hi];unfold zz;split
   ·exact Iff.rfl
   ·rename_i hv
    constructor
    ·intro e2;rw[Oz (OE.1 e2).1];exact e2
    ·intro e2
     by_cases h7:i<S0.uss.length
     ·rwa [Oz h7]at e2
     ·rw[OA (by omega)]at e2
      have:i-S0.uss.length=0:=by
       by_cases h0:i-S0.uss.length=0
       ·exact h0
       ·rw[OD (by simp;omega)]at e2;cases e2
      rw[this]at e2;simp at e2;exact absurd e2.symm e
 ·intro z hz
  unfold upd;rw[if_neg (λe=>by rw[e,hy]at hz;cases hz)];exact h.no z hz
 ·intro z
  unfold upd;split
  ·exact Nat.pow_lt_pow_right (by decide) hc
  ·exact h.sm z
theorem Bld.node(h:Bld U ts xs lo tb f who L0 S0 w0 wp)(hy:y.isTh=false)(h4:S.ths.length<=S0.ths.length+2)(h0:S.uss=S0.uss)
  (h2:TA U (ts++[(x,y)]) xs lo tb w.heap.size f' who L S w) (hb:Below lo w0 w):Bld U (ts++[(x,y)]) xs lo tb f' who L S w0 w:=by
 refine⟨h2,hb,?_,?_,?_,?_,h.no,h.sm⟩
 ·intro u
  rw[h0,h.us]
  constructor
  ·rintro⟨h1,t,ht,e⟩
   exact⟨h1,t,List.mem_append_left _ ht,e⟩
  ·rintro⟨h1,t,ht,e⟩
   rcases OS.1 ht with ht|ht
   ·exact⟨h1,t,ht,e⟩
   ·simp at ht;rw[ht]at e;rw[←e]at h1;rw[hy]at h1;cases h1
 ·rw[h0,OK];have h3:=h.ul;simp;omega
 ·rw[OK];have h3:=h.tl;simp;omega
 ·intro z hz i hi;rw[h0];exact h.th z hz i hi
theorem Gx(c i:Nat):(((c &&& 2 ^ i:Nat):Int) !=0)=c.testBit i:=by
 cases h:c.testBit i with
 |false=>
  have e:c &&& 2 ^ i=0:=by
   refine Nat.eq_of_testBit_eq λj=>?_;rw[Nat.testBit_and,Nat.testBit_two_pow,Nat.zero_testBit];by_cases hj:i=j
   ·rw[←hj,h];rfl
   ·simp[hj]
  rw[e];rfl
 |true=>
  have e:(c &&& 2 ^ i).testBit i=true:=by rw[Nat.testBit_and,Nat.testBit_two_pow,h];simp
  have e2: ¬(c &&& 2 ^ i)=0:=λe3=>by rw[e3,Nat.zero_testBit]at e;cases e
  have e4: ¬((c &&& 2 ^ i:Nat):Int)=0:=by omega
  simp only[bne_iff_ne,ne_eq];exact e4
theorem Xd(c i:Nat)(hc:c<2 ^ 64)(hi:i<64)(w:World):Calls prog 130 #[.int .u64 c,.int .i64 i] w λe w'=>e=.returned (.bool (c.testBit i))/\w'=w:=by
 have ho:=fV i hi w;have HB:Hid (bits .and .u64 (c:Int) ((2 ^ i:Nat):Int)=((c &&& 2 ^ i:Nat):Int)):=lV hc (Nat.pow_lt_pow_right (by decide) hi)
 have HP:Hid (((((c &&& 2 ^ i:Nat):Int)) !=0)=c.testBit i):=Gx c i;clear hc hi;generalize c &&& 2 ^ i=d at *;generalize 2 ^ i=p at *;go_enter func130,ntmps130
 go_wp2_with(go_at_call 178;refine ho.mono ?_;rintro e w1 ⟨rfl,h0⟩;subst w1)
 go_ret;refine⟨zo ?_,rfl⟩;rw[HB.out];exact HP.out
def thT(x:Nod):BA:=x.k++⟨#[58]⟩++x.n
theorem g9(x:Nod)(hx:x.k.size+1+x.n.size<=maxLen)(w:World):Calls prog 94 #[.agg #[.string x.k,.string x.n,.string x.r]] w λe w'=>e=.returned (.string (thT x))/\w'=w.alloc (.cells #[.string x.k,.string x.n,.string x.r] 75):=by
 obtain⟨a,b,c⟩:=x;unfold thT;dsimp only[maxLen]at hx ⊢;have k1: ¬9223372036854775807<a.size+1:=by omega
 have k2: ¬9223372036854775807<a.size+1+b.size:=by omega
 clear hx;go_enter func94,ntmps94;go_wp2;go_ret;exact⟨rfl,rfl⟩
theorem Ki{b:Nat}{m:List (Value×Value)}(ok:S.Ok U)(e1:yM w CxG b m)(hp:ae S m f)(hs:SubAt w lo w.heap.size S ts f)(hI:lo<=w.heap.size)(hl:ts.length<=1000000000000)(kx:Kn S x)(ky:Kn S y)(hE:cxN S y=.complex .f64 p q):
  ∃v st w1,(Instr.mapEntry 179 (.map (some b)) (cxN S x)).run prog (w.alloc (.cells #[.complex .f64 p q] 136))=.ok (.tuple #[v,goInt st]) w1/\(∃o n c,v=.slice o n c)/\ ∃v' w2,(Builtin.append_ #[170,170] 170 #[v,.slice (some ⟨w.heap.size,0,none⟩) 1 1]).run prog w1=.ok v' w2/\(∃o n c,v'=.slice o n c)/\ ∃w3,(Instr.entryStore 179 (.map (some b)) (goInt st) v').run prog w2=.ok () w3/\
   ∃f' m',yM w3 CxG b m'/\ae S m' f'/\SubAt w3 lo w3.heap.size S (ts++[(x,y)]) f'/\Frm (λk=>k=b\/ ∃z u,f z=some u/\u.ownBlock=some k) w w3/\(∀z u k,f' z=some u->u.ownBlock=some k->(∃z' u',f z'=some u'/\u'.ownBlock=some k)\/w.heap.size+1<=k):=by
 obtain⟨e2,e3,e4⟩:=hp;obtain⟨wa,h7⟩: ∃wa,w.alloc (.cells #[.complex .f64 p q] 136)=wa:=⟨_,rfl⟩;have h5:Below w.heap.size w wa:=by rw[←h7];exact(Ou _ _).alloc (Uc _) _
 have hb:wa.heap.size=w.heap.size+1:=by rw[←h7];show(w.heap.push _).size=_;simp
 have ho:wa.heap[w.heap.size]?=some (.cells [Value.complex .f64 p q].toArray 136 (0,0)):=by rw[←h7];exact qn w [.complex .f64 p q] _
 have ea:yM wa CxG b m:=e1.move (h5.block _ e1.lt);obtain⟨st,w1,o1,r1,g1,s1,q1,hm⟩:=Qt da underlying179 (z:=.slice none 0 0) (λu=>zeroValue170 u) ea (ok.good kx);rw[e3 x kx]at r1;obtain⟨v,hv⟩: ∃v,(f x).getD (.slice none 0 0)=v:=⟨_,rfl⟩;rw[hv]at r1;have hn:(qy ts x).length<=1000000000000:=by
  unfold qy;rw[OM];exact Ue (List.length_filter_le _ _) hl
 have h0:w.ownsRow lo 136 1 v (qy ts x).length ((qy ts x).map (cxN S)):=by
  cases hf:f x with
  |none=>
   rw[hf]at hv;rw[←hv,hs.no x hf];exact World.ownsRow_nil _ _ _ _
  |some u=>
   rw[hf]at hv;rw[←hv];exact(hs.row x u hf).1
 have hd: ∀k,v.ownBlock=some k-> ∃z u,f z=some u/\u.ownBlock=some k:=by
  intro k hk;cases hf:f x with
  |none=>rw[hf]at hv;rw[←hv]at hk;cases hk
  |some u=>rw[hf]at hv;rw[←hv]at hk;exact⟨x,u,hf,hk⟩
 have h6: ∃es cl,w.heap[b]?=some (.map es cl):=by obtain⟨es,cl,q,-⟩:=e1;exact⟨es,cl,q⟩
 obtain⟨es0,cl0,h6⟩:=h6;have ha: ∀(k:Nat) (cur:Array Value) (t:TypeId),w.heap[k]?=some (.cells cur t (0,0))->w1.heap[k]?=w.heap[k]?:=by
  intro k cur t hk;rw[←h5.block k (qc hk)];refine g1.block k (by rw[hb];have:=qc hk;omega) λe=>?_
  have e5:b=k:=by first|exact Option.some.inj e|exact(Option.some.inj e).symm
  rw[←e5,h6]at hk;injection hk with hk;cases hk
 have h8:w1.ownsRow lo 136 1 v (qy ts x).length ((qy ts x).map (cxN S)):=qF h0 λg hg=>by
  obtain⟨-,-,cur,q⟩:=qf h0 g hg;exact ha g cur _ q
 have hA:w1.heap[w.heap.size]?=some (.cells [Value.complex .f64 p q].toArray 136 (0,0)):=by
  rw[g1.block w.heap.size (by omega) (λe=>?_)]
  ·exact ho
  ·have e5:b=w.heap.size:=by first|exact Option.some.inj e|exact(Option.some.inj e).symm
   have:=e1.lt;omega
 obtain⟨i,hi,he⟩:=Un.1 Tryz.infoCx;simp only[Prod.mk.injEq]at he;obtain⟨i1,i2,i3⟩:=he;obtain⟨v',w2,r2,o2,g2,-,n2⟩:=run_append_own_at (P:=prog) w1 lo 170 170 136 i (.complex .f64 0 0) 1 16 underlying170 hi i1 i2 i3 rfl (by decide) v (qy ts x).length ((qy ts x).map (cxN S)) h8 ⟨w.heap.size,0,none⟩ 1 1 [.complex .f64 p q] rfl
  (λj u hj=>by
    have hD:j=0:=by
     cases j with
     |zero=>rfl
     |succ j=>simp at hj
    subst hD;exact qa hA hj) (by intro u hu;simp at hu;rw[hu];rfl) (by unfold maxLen;omega) (by omega) (by omega)
 have hc: ∀k,v.ownBlock=some k->k≠b:=by
  intro k hk e;obtain⟨-,-,cur,q⟩:=qf h0 k hk;rw[e,h6]at q;injection q with q;cases q
 have q2:w2.heap[b]?=some o1:=by
  rw[g2.block b (by rw[s1,hb];have:=e1.lt;omega) (λe=>hc b e.symm rfl)];exact q1
 obtain⟨w3,m',r3,t1,t2,t3,t4,g3,s3⟩:=hm w2 v' q2;have hG:w1.heap.size<=w2.heap.size:=g2.size;have hB: ∀(k:Nat) (cur:Array Value) (t:TypeId),w.heap[k]?=some (.cells cur t (0,0))->v.ownBlock≠some k->w3.heap[k]?=w.heap[k]?:=by
  intro k cur t hk ht;have h1:=ha k cur t hk;have hy:k<w1.heap.size:=qc (h1.trans hk);have h2:w2.heap[k]?=w1.heap[k]?:=g2.block k hy (λe=>ht e.symm);rw[g3.block k (by omega) (λe=>?_),h2,h1]
  have e5:b=k:=by first|exact Option.some.inj e|exact(Option.some.inj e).symm
  rw[←e5,h6]at hk;injection hk with hk;cases hk
 have h9: ∀g,v'.ownBlock=some g->g≠b:=by
  intro g hg e;rcases n2 with n2|n2
  ·exact hc g (n2▸hg) e
  ·rw[n2]at hg
   have:=Option.some.inj hg;have:=e1.lt;omega
 have h4:w3.ownsRow lo 136 1 v' ((qy ts x).length+1) ((qy ts x).map (cxN S)++[.complex .f64 p q]):=qF o2 λg hg=>by
  obtain⟨h1,-,cur,q⟩:=qf o2 g hg;exact g3.block g h1 λe=>h9 g hg (by first|exact Option.some.inj e|exact(Option.some.inj e).symm)
 have h3: ∀z,qy (ts++[(x,y)]) z=qy ts z++(if x=z then[y]else[]):=by
  intro z;by_cases e:x=z
  ·simp[qy,List.filter_append,e]
  ·simp[qy,List.filter_append,e]
 refine⟨v,st,w1,by rw[h7];exact r1,?_,v',w2,r2,?_,w3,r3,λz=>if z=x then some v' else f z,m',t1,⟨?_,?_,?_⟩,⟨?_,?_,?_,?_⟩,?_,?_⟩
 ·obtain⟨o,c,e⟩:=qz h0;exact⟨o,_,c,e⟩
 ·obtain⟨o,c,e⟩:=qz h4;exact⟨o,_,c,e⟩
 ·intro r hr
  rcases t4 r hr with e|e
  ·exact⟨x,kx,e⟩
  ·obtain⟨r',hC,e'⟩:=OY.1 e
   obtain⟨z,kz,ez⟩:=e2 r' hC;exact⟨z,kz,by rw[←e'];exact ez⟩
 ·intro z kz
  show _=if z=x then some v' else f z
  split
  ·rename_i e;rw[e];exact t2
  ·rename_i e
   rw[t3 _ (λe'=>e (ok.inj kz kx e'))];exact e3 z kz
 ·intro z kz
  show(if z=x then some v' else f z)=none
  rw[if_neg (λe=>kz (by rw[e];exact kx))];exact e4 z kz
 ·intro z u hz
  have hz:(if z=x then some v' else f z)=some u:=hz
  split at hz
  ·rename_i e
   injection hz with hz;subst hz;rw[e,h3 x,if_pos rfl,OK,OR,List.map_cons,List.map_nil,hE];exact⟨h4,λk hk=>(qf h4 k hk).1⟩
  ·rename_i e
   obtain⟨h1,h2⟩:=hs.row z u hz;rw[h3 z,if_neg (λe'=>e e'.symm),List.append_nil];refine⟨qF h1 λg hg=>?_,λk hk=>by have:=h2 k hk;omega⟩
   obtain⟨-,-,cur,q⟩:=qf h1 g hg;refine hB g cur _ q λe'=>?_;cases hf:f x with
   |none=>rw[hf]at hv;rw[←hv]at e';cases e'
   |some v0=>
    rw[hf]at hv;rw[←hv]at e';exact e (hs.apart z x u v0 g hz hf hg e')
 ·intro z hz
  have hz:(if z=x then some v' else f z)=none:=hz
  split at hz
  ·cases hz
  ·rename_i e
   rw[h3 z,if_neg (λe'=>e e'.symm),List.append_nil];exact hs.no z hz
 ·intro t hq
  rcases OS.1 hq with h1|h1
  ·exact hs.kn t h1
  ·simp at h1;rw[h1];exact⟨kx,ky⟩
 ·have key: ∀z u k,¬z=x->f z=some u->v'.ownBlock=some k->u.ownBlock=some k->False:=by
   intro z u k e hz h1 h2;have hF:=(hs.row z u hz).2 k h2;rcases n2 with n2|n2
   ·rw[n2]at h1
    cases hf:f x with
    |none=>rw[hf]at hv;rw[←hv]at h1;cases h1
    |some v0=>
     rw[hf]at hv;rw[←hv]at h1;exact e (hs.apart z x u v0 k hz hf h2 h1)
   ·rw[n2]at h1
    have:=Option.some.inj h1;omega
  intro z1 z2 u1 u2 k h1 h2 k1 k2;have h1:(if z1=x then some v' else f z1)=some u1:=h1
  have h2:(if z2=x then some v' else f z2)=some u2:=h2
  split at h1
  ·rename_i e1'
   split at h2
   ·rename_i e2';rw[e1',e2']
   ·rename_i e2'
    rw[←Option.some.inj h1]at k1;exact(key z2 u2 k e2' h2 k1 k2).elim
  ·rename_i e1'
   split at h2
   ·rename_i e2'
    rw[←Option.some.inj h2]at k2;exact(key z1 u1 k e1' h1 k2 k1).elim
   ·exact hs.apart z1 z2 u1 u2 k h1 h2 k1 k2
 ·refine⟨?_,?_,?_,by omega,λk hk hx=>?_⟩
  ·rw[g3.os,g2.os,g1.os,h5.os]
  ·rw[g3.tape,g2.tape,g1.tape,h5.tape]
  ·rw[g3.output,g2.output,g1.output,h5.output]
  ·have e0:some k≠some b:=λe'=>hx (Or.inl (Option.some.inj e'))
   rw[g3.block k (by omega) e0,g2.block k (by omega) (λe=>?_),g1.block k (by omega) e0,h5.block k hk]
   exact hx (Or.inr (hd k e.symm))
 ·intro z u k hz hk
  have hz:(if z=x then some v' else f z)=some u:=hz
  split at hz
  ·rw[←Option.some.inj hz]at hk
   rcases n2 with n2|n2
   ·exact Or.inl (hd k (n2▸hk))
   ·rw[n2]at hk
    have:=Option.some.inj hk
    right;omega
  ·exact Or.inl ⟨z,u,hz,hk⟩
structure WA(U:List BA)(ts:List (Nod×Nod))(xs:List BA)(lo tb sb:Nat)(f:Nod->Option Value)(who:Nod->Nat)(wb nb mb:Nat)(L:TL)(S:TS)(sv:Value)(met:List Nod)(gone:Nat)(w:World):Prop where
 ta:TA U ts xs lo tb sb f who L S w
 m:MetAt L sb S w lo nb mb sv met
 blk:w.heap[wb]?=some (.cells [Value.pointer (some ⟨tb,0,none⟩),.pointer (some ⟨nb,0,none⟩),.int .i64 gone].toArray 139 (0,0))
 nodes: ∀y∈met,y.isTh=false
 gl:gone<=met.length
def nP(wb nb mb:Nat)(L:TL)(sv:Value)(k:Nat):Prop:=mS L k\/ur nb mb sv k\/k=wb
structure WStep(U:List BA)(ts:List (Nod×Nod))(xs:List BA)(lo tb sb:Nat)(f:Nod->Option Value)(who:Nod->Nat)(wb nb mb:Nat)(L:TL)(S:TS)(sv:Value)(w:World)(L':TL)(S':TS)(sv':Value)(met':List Nod)(gone':Nat)(w':World):Prop where
 at':WA U ts xs lo tb sb f who wb nb mb L' S' sv' met' gone' w'
 fr:Frm (nP wb nb mb L sv) w w'
 ownR: ∀k,L'.sr.ownBlock=some k->L.sr.ownBlock=some k\/w.heap.size<=k
 ownM: ∀k,sv'.ownBlock=some k->sv.ownBlock=some k\/w.heap.size<=k
 loc:L'={L with sr:=L'.sr}
 ths:S'.ths=S.ths
 uss:S'.uss=S.uss
 pre:S.rels<+:S'.rels
variable{mb nb wb:Nat}{sv:Value}
theorem WStep.trans{L'':TL}{S'':TS}{sv' sv'':Value}{w'':World}{met' met'':List Nod}{gone' gone'':Nat}(h:WStep U ts xs lo tb sb f who wb nb mb L S sv w L' S' sv' met' gone' w')(k:WStep U ts xs lo tb sb f who wb nb mb L' S' sv' w' L'' S'' sv'' met'' gone'' w''):WStep U ts xs lo tb sb f who wb nb mb L S sv w L'' S'' sv'' met'' gone'' w'':=by
 refine⟨k.at',h.fr.trans k.fr ?_,?_,?_,by rw[k.loc,h.loc],k.ths.trans h.ths,k.uss.trans h.uss,h.pre.trans k.pre⟩
 ·intro j hj hx
  rcases hx with(e|e|e)|(e|e|e)|e
  ·rw[h.loc]at e;exact Or.inl (Or.inl e)
  ·rw[h.loc]at e;exact Or.inl (Or.inr (Or.inl e))
  ·rcases h.ownR j e with e|e
   ·exact Or.inl (Or.inr (Or.inr e))
   ·omega
  ·exact Or.inr (Or.inl (Or.inl e))
  ·exact Or.inr (Or.inl (Or.inr (Or.inl e)))
  ·rcases h.ownM j e with e|e
   ·exact Or.inr (Or.inl (Or.inr (Or.inr e)))
   ·omega
  ·exact Or.inr (Or.inr e)
 ·intro j hj
  rcases k.ownR j hj with e|e
  ·exact h.ownR j e
  ·exact Or.inr (Ue h.fr.size e)
 ·intro j hj
  rcases k.ownM j hj with e|e
  ·exact h.ownM j e
  ·exact Or.inr (Ue h.fr.size e)
variable{gone:Nat}{met:List Nod}
theorem WA.below(h:WA U ts xs lo tb sb f who wb nb mb L S sv met gone w)(hb:Below w.heap.size w w'):WA U ts xs lo tb sb f who wb nb mb L S sv met gone w':=
 ⟨h.ta.below hb,h.m.below hb,(hb.block _ (qc h.blk)).trans h.blk,h.nodes,h.gl⟩
theorem WStep.below(h:WA U ts xs lo tb sb f who wb nb mb L S sv met gone w)(hb:Below w.heap.size w w'):WStep U ts xs lo tb sb f who wb nb mb L S sv w L S sv met gone w':=
 ⟨h.below hb,Frm.of_below hb,λ_ e=>Or.inl e,λ_ e=>Or.inl e,rfl,rfl,rfl,List.prefix_refl _⟩
theorem WA.walk_not(h:WA U ts xs lo tb sb f who wb nb mb L S sv met gone w): ¬mS L wb/\ ¬ur nb mb sv wb:=by
 refine⟨λe=>?_,λe=>?_⟩
 ·rcases h.ta.t.rl.kind e h.blk with e|e<;>revert e<;>decide
 ·rcases h.m.num.kind e h.blk with e|e<;>revert e<;>decide
theorem vM(ok:S.Ok U)(hn:met.Nodup)(hk: ∀y∈met,Kn S y):met.length<=32000000:=by
 have h1:met.length<=(S.ths.flatMap λt=>U.map λr=>t.to r).length:=by
  refine xP _ _ hn λy hy=>?_;have k:=hk y hy;refine List.mem_flatMap.2 ⟨y.th,k.1,OY.2 ⟨y.r,ok.rU _ k.2,?_⟩⟩;obtain⟨a,b,c⟩:=y
  rfl
 have h2: ∀l:List Nod,(l.flatMap λt=>U.map λr=>t.to r).length=l.length * U.length:=by
  intro l
  induction l with
  |nil=>simp
  |cons a l ih=>rw[List.flatMap_cons,OK,ih,OM,OL,Nat.add_mul];omega
 rw[h2]at h1;have:S.ths.length * U.length<=4000 * 8000:=Nat.mul_le_mul ok.tl ok.ul;omega
theorem Gy(a b:Nat):((a:Int)==(b:Int))=decide (a=b):=by
 by_cases e:a=b
 ·rw[e];simp
 ·have e2: ¬(a:Int)=(b:Int):=by omega
  simp[e,e2]
theorem kE(h:WA U ts xs lo tb sb f who wb nb mb L S sv met gone w):
  Calls prog 139 #[.pointer (some ⟨wb,0,none⟩)] w λe w'=>e=.returned (.bool (decide (gone=met.length)))/\Below w.heap.size w w':=by
 have c1:=qa h.blk (j:=1) rfl;have c2:=qa h.blk (j:=2) rfl;have n1:=qa h.m.num.blk (j:=1) rfl;obtain⟨x,c,h0⟩:=qz h.m.num.row;rw[h0]at n1;have hl:=vM h.ta.t.ok h.m.num.nd h.m.kn;have hg:=h.gl;generalize met.length=n at *;clear h h0;go_enter func139,ntmps139;go_wp2
 go_region
 all_goals go_wp2
 all_goals go_ret
 all_goals refine⟨zo ?_,bl⟩
 all_goals exact Gy _ _
structure NmrInv(U:List BA)(ts:List (Nod×Nod))(xs:List BA)(lo tb sb:Nat)(f:Nod->Option Value)(who:Nod->Nat)(L:TL)(S:TS)(w:World)(prs:List (Nod×Nod))(g:Nod->Option Value)(L3:TL)(S3:TS)(wr:World):Prop where
 ta:TA U ts xs lo tb sb f who L3 S3 wr
 st:RStep U lo tb f who L S w L3 S3 wr
 e: ∃m,yM wr CxG w.heap.size m/\ae S3 m g
 sa:SubAt wr w.heap.size wr.heap.size S3 prs g
variable{k:Nat}
theorem TA.maps_lt(h:TA U ts xs lo tb sb f who L S w)(hk:k∈[L.mb,L.mt,L.mr,L.mu,L.ms,L.mw]):k<w.heap.size:=by
 obtain⟨m,lor,hm,-⟩:=h.r;obtain⟨ms,h1,-⟩:=h.t.sub;obtain⟨mw,h0,-⟩:=h.t.wh;simp only[OT,O4,or_false]at hk;rcases hk with rfl|rfl|rfl|rfl|rfl|rfl
 ·exact hm.lt
 ·exact h.t.th.map.lt
 ·exact h.t.rl.map.lt
 ·exact h.t.us.map.lt
 ·exact h1.lt
 ·exact h0.lt
variable{L3:TL}{S3:TS}{g:Nod->Option Value}{prs:List (Nod×Nod)}{w2 wr:World}
theorem NmrInv.rstep{L4:TL}{S4:TS}(h0:TA U ts xs lo tb sb f who L S w)(h:NmrInv U ts xs lo tb sb f who L S w prs g L3 S3 wr)(r:RStep U lo tb f who L3 S3 wr L4 S4 w2):NmrInv U ts xs lo tb sb f who L S w prs g L4 S4 w2:=by
 obtain⟨m,e1,e2⟩:=h.e;have e3:=h.sa;refine⟨h.ta.rstep r,h.st.trans r,⟨m,e1.move (r.fr.block _ e1.lt λhx=>?_),e2.le r.le r.at'.ok⟩,((e3.keep r.fr λk _ hx cur hc=>?_).le r.le).size r.fr.size⟩
 ·have:=h.ta.t.rl.kindM hx e1.map
  have hm:=h0.maps_lt (k:=L.mr) (by simp)
  rw[h.st.loc]at this;have e:w.heap.size=L.mr:=this;omega
 ·rcases h.ta.t.rl.kind hx hc with e|e<;>revert e<;>decide
theorem NmrInv.put(h0:TA U ts xs lo tb sb f who L S w)(h:NmrInv U ts xs lo tb sb f who L S w prs g L3 S3 wr)(hl:prs.length<=1000000000000)(kx:Kn S3 x)(ky:Kn S3 y)(h7:cxN S3 y=.complex .f64 p q):
  ∃v st w1,(Instr.mapEntry 179 (.map (some w.heap.size)) (cxN S3 x)).run prog (wr.alloc (.cells #[.complex .f64 p q] 136))=.ok (.tuple #[v,.int .i64 st]) w1/\(∃o n c,v=.slice o n c)/\ ∃v' w2,(Builtin.append_ #[170,170] 170 #[v,.slice (some ⟨wr.heap.size,0,none⟩) 1 1]).run prog w1=.ok v' w2/\(∃o n c,v'=.slice o n c)/\ ∃w3,(Instr.entryStore 179 (.map (some w.heap.size)) (.int .i64 st) v').run prog w2=.ok () w3/\
   ∃g',NmrInv U ts xs lo tb sb f who L S w (prs++[(x,y)]) g' L3 S3 w3/\Frm (λk=>k=w.heap.size\/ ∃z u,g z=some u/\u.ownBlock=some k) wr w3/\(∀z u k,g' z=some u->u.ownBlock=some k->(∃z' u',g z'=some u'/\u'.ownBlock=some k)\/wr.heap.size+1<=k):=by
 obtain⟨m,e1,e2⟩:=h.e;have h5:w.heap.size<=wr.heap.size:=h.st.fr.size;obtain⟨v,st,w1,r1,hv,v',w2,r2,h4,w3,r3,g',m',t1,t2,t3,fr,own⟩:=Ki h.ta.t.ok e1 e2 h.sa h5 hl kx ky h7;have h6: ∀k,k<wr.heap.size->(k=w.heap.size\/ ∃z u,g z=some u/\u.ownBlock=some k)->fU L3 sb wr k:=by
  intro k _ hk;rcases hk with rfl|⟨z,u,hz,hu⟩
  ·obtain⟨es,cl,q,-⟩:=e1
   refine Or.inr (Or.inr ⟨es,cl,q,λhm=>?_⟩);rw[h.st.loc]at hm;have:=h0.maps_lt hm;omega
  ·obtain⟨-,h2,h3⟩:=qf (h.sa.row z u hz).1 k hu
   exact Or.inl ⟨Ue h0.sb h2,h3⟩
 have h1:=h.ta.keep fr h6;refine⟨v,st,w1,r1,hv,v',w2,r2,h4,w3,r3,g',⟨h1,h.st.after h1.t fr λk hk e=>?_,⟨m',t1,t2⟩,t3⟩,fr,own⟩;rcases e with rfl|⟨z,u,hz,hu⟩
 ·omega
 ·have:=(qf (h.sa.row z u hz).1 k hu).2.1;omega
def prK(ts:List (Nod×Nod))(xs:List BA)(l:List Nod)(k:Nat):List (Nod×Nod):=(l.take k).flatMap λy=>(qI ts (qi xs) y).map λz=>(z,y)
variable{l:List Nod}
theorem fW(h:l[k]?=some y):prK ts xs l (k+1)=prK ts xs l k++(qI ts (qi xs) y).map λz=>(z,y):=by
 unfold prK;rw[js h,List.flatMap_append];simp
theorem QQ(hn: ∀y,(qI ts (qi xs) y).length<=10251): ∀k,(prK ts xs l k).length<=k * 10251:=by
 intro k
 induction k with
 |zero=>simp[prK]
 |succ k ih=>
  by_cases h:k<l.length
  ·obtain⟨y,hy⟩: ∃y,l[k]?=some y:=⟨_,OC h⟩
   rw[fW hy,OK,OM];have:=hn y;omega
  ·have:prK ts xs l (k+1)=prK ts xs l k:=by
    unfold prK;rw[O7 (by omega),O7 (by omega)]
   rw[this];exact Ue ih (Nat.mul_le_mul_right _ (Ud k))
theorem tH(cov:Cov U xs)(ht:ts.length<=50)(y:Nod):(qI ts (qi xs) y).length<=10251:=by
 have h0:=List.length_filter_le (λz:Nod=> !z.isTh) (qY ts y (qi xs y));have h1:=vD ts y (qi xs y);have:lvW (qi xs y) * (ts.length+1)<=201 * 51:=Nat.mul_le_mul (cov.lv y) (by omega)
 unfold qI;omega
theorem Xe(HW:Hid xh)(cov:Cov U xs)(h:TA U ts xs lo tb sb f who L S w){rv:Value}(ha:yz w rv (l.map (cxN S)))(hk: ∀y∈l,Kn S y)(hl:l.length<=32000000)(hq: ∀g n c,rv=.slice (some ⟨g,0,none⟩) n c-> ∃cur,w.heap[g]?=some (.cells cur 136 (0,0))):
  Calls prog 175 #[.pointer (some ⟨tb,0,none⟩),rv] w λe w'=>e=.returned (.map (some w.heap.size))/\ ∃g L' S',NmrInv U ts xs lo tb sb f who L S w (prK ts xs l l.length) g L' S' w':=by
 have h4:=λw1=>run_makeMap (P:=prog) 179 w1;obtain⟨o,c,rfl,h0⟩:=ha;rw[OM];have HH:Hid (TA U ts xs lo tb sb f who L S w):=h;have hX:Hid (∀(j:Nat) (y:Nod),l[j]?=some y-> ∃g,o=some ⟨g,0,none⟩/\g<w.heap.size/\w.cell? ⟨g,j,none⟩=some (cxN S y)/\ ∃cur,w.heap[g]?=some (.cells cur 136 (0,0))):=by
  intro j y hj;obtain⟨g,e1,e2⟩:=h0 j (cxN S y) (by rw[OF,hj];rfl)
  exact⟨g,e1,qp e2,e2,hq g _ c (by rw[e1])⟩
 have hV:Hid (∀y∈l,Kn S y):=hk;have hJ:Hid (NmrInv U ts xs lo tb sb f who L S w (prK ts xs l 0) (λ_=>none) L S (w.alloc (.map #[] 0))):=by
  have hb:Below w.heap.size w (w.alloc (.map #[] 0)):=bl;have e:prK ts xs l 0=[]:=by simp[prK]
  rw[e];exact⟨h.below hb,RStep.below h.t hb,⟨[],yM.new w CxG,λp hp=>(by simp at hp),λx _=>rfl,λx _=>rfl⟩,⟨(λx v hv=>by cases hv),(λx _=>rfl),(λt ht=>by simp at ht),(λx y v u k hv=>by cases hv)⟩⟩
 have hn:Hid (∀y,(qI ts (qi xs) y).length<=10251):=λy=>tH cov h.tn y;have H0:Hid (∀(L3:TL) (S3:TS) (w1:World) (y:Nod),TA U ts xs lo tb sb f who L3 S3 w1->Kn S3 y->Calls prog 182 #[.pointer (some ⟨tb,0,none⟩),cxN S3 y] w1 (lU U lo tb f who L3 S3 w1 (qI ts (qi xs) y))):=λL3 S3 w1 y h1 k1=>tF HW cov h1 k1;obtain⟨nn,hc⟩: ∃nn,l.length=nn:=⟨_,rfl⟩;have hZ:Hid (l.length=nn):=hc;rw[hc]at hl ⊢;clear h h0 hk hc hq cov;go_enter func175,ntmps175;go_wp2
 go_loopw [13] (λi wr=> ∃(k:Nat) (g:Nod->Option Value) (L3:TL) (S3:TS),k<=nn/\i=.int .i64 k/\NmrInv U ts xs lo tb sb f who L S w (prK ts xs l k) g L3 S3 wr) (λi _=>nn-(intOf i).toNat)
 case atStart=>exact⟨0,_,L,S,Um _,rfl,hJ.out⟩
 case round=>
  obtain⟨k,g,L3,S3,hk,rfl,hI⟩:=hrel;have HI:Hid (NmrInv U ts xs lo tb sb f who L S w (prK ts xs l k) g L3 S3 wr):=hI;clear hI hJ h4;by_cases hlt:k<nn
  ·have hr:k<l.length:=by have:=hZ.out;omega
   obtain⟨y,hy⟩: ∃y,l[k]?=some y:=⟨_,OC hr⟩;obtain⟨gb,H5,hS,hD,cur,hF⟩:=hX.out k y hy;subst H5;have h6:=hV.out y (OZ hy);have hO:Kn S3 y:=h6.le HI.out.st.le;have h0:wr.cell? ⟨gb,k,none⟩=some (cxN S y):=by
    rw[←hD];exact World.cell?_of_block (HI.out.st.kind HH.out.t hF (by decide) (by decide))
   obtain⟨p,q,h9⟩: ∃p q,cxN S y=.complex .f64 p q:=⟨_,_,rfl⟩;have hs:Hid (cxN S3 y=.complex .f64 p q/\cxN S y=.complex .f64 p q):=⟨(yI HI.out.st.le h6).trans h9,h9⟩;have HY:Hid (l[k]?=some y/\Kn S y):=⟨hy,h6⟩;obtain⟨ll,h7⟩: ∃ll,qI ts (qi xs) y=ll:=⟨_,rfl⟩;have hP:Hid (qI ts (qi xs) y=ll):=h7;have H6:ll.length<=10251:=by rw[←h7];exact hn.out y
   have H1:Hid (Calls prog 182 #[.pointer (some ⟨tb,0,none⟩),.complex .f64 p q] wr λe w2=> ∃L4 S4 v vc gd,e=.returned (.slice v ll.length vc)/\NmrInv U ts xs lo tb sb f who L S w (prK ts xs l k) g L4 S4 w2/\S3.le S4/\(∀z∈ll,Kn S4 z)/\(∀j z,ll[j]?=some z->v=some ⟨gd,0,none⟩/\w2.cell? ⟨gd,j,none⟩=some (cxN S4 z)/\w.heap.size<gd/\gd<w2.heap.size/\ ∀z u,g z=some u->u.ownBlock≠some gd)):=by
    have:=H0.out L3 S3 wr y HI.out.ta hO;rw[hs.out.1,h7]at this;refine this.mono ?_;rintro e w2 ⟨L4,S4,v,he,ho,h8,r⟩;obtain⟨vo,vc,rfl⟩:=qz ho;have hQ:=vw (us:=ll.map (cxN S4)) (by rw[OM];exact ho)
    refine⟨L4,S4,vo,vc,(Value.slice vo ll.length vc).ownBlock.getD 0,he,HI.out.rstep HH.out r,r.le,h8,λj z hj=>?_⟩;obtain⟨o',c',hd,hY⟩:=hQ;obtain⟨gd,e1,e2⟩:=hY j (cxN S4 z) (by rw[OF,hj];rfl)
    have hR:vo=some ⟨gd,0,none⟩:=by injection hd with hd;rw[hd];exact e1
    subst hR;have H3:(Value.slice (some ⟨gd,0,none⟩) ll.length vc).ownBlock=some gd:=rfl;obtain⟨h1,h2,-⟩:=qf ho gd H3;have Hc:w.heap.size+1<=wr.heap.size:=by
     obtain⟨m,e1,-⟩:=HI.out.e;exact e1.lt
    refine⟨rfl,e2,by show w.heap.size<gd;omega,h1,λz u hz hu=>?_⟩
    have:=(HI.out.sa.row z u hz).2 gd hu;omega
   rw[h9]at h0;clear hy hS hD hF h6 hO h9 h7 hr
   go_wp2_with(go_at_call 182;refine H1.out.mono ?_;rintro e w2 ⟨L4,S4,v,vc,gd,rfl,hM,hC,h8,hG⟩;have hE:Hid (NmrInv U ts xs lo tb sb f who L S w (prK ts xs l k) g L4 S4 w2):=hM;have hf:Hid (∀z∈ll,Kn S4 z):=h8;have h5:Hid (∀j z,ll[j]?=some z->v=some ⟨gd,0,none⟩/\w2.cell? ⟨gd,j,none⟩=some (cxN S4 z)/\w.heap.size<gd/\gd<w2.heap.size/\ ∀z u,g z=some u->u.ownBlock≠some gd):=hG;have Ha:Hid (S3.le S4):=hC;clear hM h8 hG hC)
   obtain⟨mm,h4⟩: ∃mm,ll.length=mm:=⟨_,rfl⟩;have hN:Hid (ll.length=mm):=h4;rw[h4]at H6 ⊢;clear h4;have hT:Hid ((prK ts xs l k).length<=328032000000):=by
    have h1:=QQ (ts:=ts) (xs:=xs) (l:=l) hn.out k;have h2:k * 10251<=32000000 * 10251:=Nat.mul_le_mul_right _ (by omega)
    show _<=_
    omega
   have hA:Hid (Kn S4 y/\cxN S4 y=.complex .f64 p q):=by
    have h1:=hE.out.st.le;exact⟨HY.out.2.le h1,(yI h1 HY.out.2).trans hs.out.2⟩
   go_loopw [21] (λi wi=> ∃(j:Nat) (gj:Nod->Option Value),j<=mm/\i=.int .i64 j/\NmrInv U ts xs lo tb sb f who L S w (prK ts xs l k++(ll.take j).map λz=>(z,y)) gj L4 S4 wi/\(∀(j':Nat) (z:Nod),ll[j']?=some z->wi.cell? ⟨gd,j',none⟩=some (cxN S4 z))/\(∀(j':Nat) (z:Nod),ll[j']?=some z->gd<wi.heap.size/\w.heap.size<gd/\ ∀(z:Nod) (u:Value),gj z=some u->u.ownBlock≠some gd)) (λi _=>mm-(intOf i).toNat)
   case atStart=>
    refine⟨0,g,Um _,rfl,?_,λj z hj=>(h5.out j z hj).2.1,λj z hj=>⟨(h5.out j z hj).2.2.2.1,(h5.out j z hj).2.2.1,(h5.out j z hj).2.2.2.2⟩⟩;have e:(ll.take 0).map (λz=>(z,y))=[]:=by simp
    rw[e,List.append_nil];exact hE.out
   case round=>
    obtain⟨j,gj,hj,rfl,hm,hx,hg⟩:=hrel;have hi:Hid (NmrInv U ts xs lo tb sb f who L S w (prK ts xs l k++(ll.take j).map λz=>(z,y)) gj L4 S4 wr):=hm;have hB:Hid (∀(j':Nat) (z:Nod),ll[j']?=some z->wr.cell? ⟨gd,j',none⟩=some (cxN S4 z)):=hx;have H2:Hid (∀(j':Nat) (z:Nod),ll[j']?=some z->gd<wr.heap.size/\w.heap.size<gd/\ ∀(z:Nod) (u:Value),gj z=some u->u.ownBlock≠some gd):=hg;clear hm hx hg;by_cases hjt:j<mm
    ·have hK:j<ll.length:=by have:=hN.out;omega
     obtain⟨z,hz⟩: ∃z,ll[j]?=some z:=⟨_,OC hK⟩;have H9:=(h5.out j z hz).1;subst H9;have Hb:=hB.out j z hz;have h3:=H2.out j z hz;obtain⟨v0,st,w1,r1,⟨a0,a1,a2,rfl⟩,v1,w3,r3,⟨d0,d1,d2,rfl⟩,w4,r4,g4,hL,fr4,own4⟩:=hi.out.put HH.out (by rw[OK,OM,OQ];have:=hT.out;omega) (hf.out z (OZ hz)) hA.out.1 hA.out.2
     have hU:Hid (NmrInv U ts xs lo tb sb f who L S w (prK ts xs l k++(ll.take (j+1)).map λz=>(z,y)) g4 L4 S4 w4):=by
      rw[js hz,OR,←Ov];exact hL
     have H4:Hid (∀(j':Nat) (z:Nod),ll[j']?=some z->w4.cell? ⟨gd,j',none⟩=some (cxN S4 z)):=λj' z' h'=>by
      rw[←hB.out j' z' h'];refine World.cell?_of_block (fr4.block gd h3.1 λe=>?_);rcases e with e|⟨z2,u2,e1,e2⟩
      ·have:=h3.2.1;omega
      ·exact h3.2.2 z2 u2 e1 e2
     have H7:Hid (∀(j':Nat) (z:Nod),ll[j']?=some z->gd<w4.heap.size/\w.heap.size<gd/\ ∀(z:Nod) (u:Value),g4 z=some u->u.ownBlock≠some gd):=λj' z' h'=>⟨Ug h3.1 fr4.size,h3.2.1,λz2 u2 e1 e2=>by
      rcases own4 z2 u2 gd e1 e2 with⟨z3,u3,e3,e4⟩|e
      ·exact h3.2.2 z3 u3 e3 e4
      ·have:=h3.1;omega⟩
     clear hL fr4 own4 hz h3 hK;generalize cxN S4 z=cz at *
     go_wp2_with(at_builtin;refine qo rfl (.tmp 27) (.tmp 29) 170 rfl _ _ _ rfl rfl r3 ?_)
     go_roundw
     case rel=>exact⟨j+1,g4,by omega,by go_num,hU.out,H4.out,H7.out⟩
     case measure=>simp[intOf];omega
    ·obtain rfl:j=mm:=by omega
     have H8:Hid (NmrInv U ts xs lo tb sb f who L S w (prK ts xs l (k+1)) gj L4 S4 wr):=by
      have h1:=hi.out;rw[O7 (by have:=hN.out;omega)]at h1
      show NmrInv _ _ _ _ _ _ _ _ _ _ _ _ _ _ _ _
      rw[fW HY.out.1,hP.out];exact h1
     go_wp2
     go_roundw
     case rel=>exact⟨k+1,gj,L4,S4,by omega,by go_num,H8.out⟩
     case measure=>simp[intOf];omega
  ·obtain rfl:k=nn:=by omega
   go_wp2;go_ret;exact⟨rfl,g,L3,S3,HI.out⟩
def xf(met l:List Nod):List Nod:=l.foldl zz met
theorem j0: ∀(l met:List Nod) (y:Nod),y∈xf met l↔y∈met\/y∈l:=by
 intro l
 induction l with
 |nil=>intro met y;simp[xf]
 |cons a l ih=>
  intro met y;show y∈xf (zz met a) l↔_
  rw[ih,yJ];simp only[OT]
  constructor
  ·rintro((h|h)|h)
   ·exact Or.inl h
   ·exact Or.inr (Or.inl h)
   ·exact Or.inr (Or.inr h)
  ·rintro(h|h|h)
   ·exact Or.inl (Or.inl h)
   ·exact Or.inl (Or.inr h)
   ·exact Or.inr h
theorem i7: ∀(l met:List Nod),met<+:xf met l:=by
 intro l
 induction l with
 |nil=>intro met;exact List.prefix_refl _
 |cons a l ih=>intro met;exact(vK met a).trans (ih (zz met a))
theorem lY: ∀(l:List Nod) {met:List Nod},met.Nodup->(xf met l).Nodup:=by
 intro l
 induction l with
 |nil=>intro met h;exact h
 |cons a l ih=>intro met h;exact ih (kO h a)
theorem ak(h:l[k]?=some y):xf met (l.take (k+1))=zz (xf met (l.take k)) y:=by
 unfold xf;rw[js h,List.foldl_append];rfl
structure StInv(U:List BA)(ts:List (Nod×Nod))(xs:List BA)(lo tb sb:Nat)(f:Nod->Option Value)(who:Nod->Nat)(wb nb mb:Nat)(L:TL)(S:TS)(sv:Value)(met:List Nod)(gone:Nat)(w:World)(L2:TL)(S2:TS)(rvv:Value)(l:List Nod)(k:Nat)(sv3:Value)(wr:World):Prop where
 ta:TA U ts xs lo tb sb f who L2 S2 wr
 m:MetAt L2 sb S2 wr lo nb mb sv3 (xf met (l.take k))
 blk:wr.heap[wb]?=some (.cells [Value.pointer (some ⟨tb,0,none⟩),.pointer (some ⟨nb,0,none⟩),.int .i64 gone].toArray 139 (0,0))
 row:wr.ownsRow w.heap.size 136 1 rvv l.length (l.map (cxN S2))
 ap: ∀g,rvv.ownBlock=some g->sv3.ownBlock≠some g
 kl: ∀y∈l,Kn S2 y
 nl: ∀y∈l,y.isTh=false
 fr:Frm (nP wb nb mb L sv) w wr
 ownR: ∀k,L2.sr.ownBlock=some k->L.sr.ownBlock=some k\/w.heap.size<=k
 ownM: ∀k,sv3.ownBlock=some k->sv.ownBlock=some k\/w.heap.size<=k
 loc:L2={L with sr:=L2.sr}
 ths:S2.ths=S.ths
 uss:S2.uss=S.uss
 pre:S.rels<+:S2.rels
variable{w1:World}
theorem StInv.start(h:WA U ts xs lo tb sb f who wb nb mb L S sv met gone w)(h0:Below w.heap.size w w1)(hl: ∀y∈l,y.isTh=false)(hp:lU U lo tb f who L S w1 l e w2):
  ∃L2 S2 v,e=.returned v/\StInv U ts xs lo tb sb f who wb nb mb L S sv met gone w L2 S2 v l 0 sv w2:=by
 obtain⟨L2,S2,v,he,ho,hk,r⟩:=hp;have h1:=h.below h0;have rr:=(RStep.below h.ta.t h0).trans r;have g:=GStep.of h1.ta r;obtain⟨nw,-⟩:=h1.walk_not;refine⟨L2,S2,v,he,h1.ta.rstep r,h1.m.gstep h1.ta g,?_,xM ho h0.size,?_,hk,hl,rr.fr.mono λ_ _ e=>Or.inl e,rr.own,λk e=>Or.inl e,rr.loc,rr.ths,rr.uss,rr.pre⟩
 ·rw[r.fr.block wb (qc h1.blk) nw];exact h1.blk
 ·intro gg hg e
  have:=(qf ho gg hg).2.1;have:=(qf h1.m.num.row gg e).1;omega
variable{L2:TL}{S2:TS}{rvv sv3:Value}
theorem StInv.next
  (h:StInv U ts xs lo tb sb f who wb nb mb L S sv met gone w L2 S2 rvv l k sv3 wr) (h5:lo<=w.heap.size)  (hy:l[k]?=some y):
  Calls prog 135 #[.pointer (some ⟨nb,0,none⟩),cxN S2 y] wr λe w'=>(∃i:Nat,e=.returned (.int .i64 i))/\ ∃sv',StInv U ts xs lo tb sb f who wb nb mb L S sv met gone w L2 S2 rvv l (k+1) sv' w':=by
 have h6:=h.fr.size;have h1:=vM h.ta.t.ok h.m.num.nd h.m.kn;refine(lX h.ta h.m (by omega) (by omega) (h.kl y (OZ hy))).mono ?_
 rintro e w' ⟨he,sv',t',m',hf,ho⟩;have h2: ¬ur nb mb sv3 wb:=λe=>by
  rcases h.m.num.kind e h.blk with e|e<;>revert e<;>decide
 refine⟨he,sv',t',by rw[ak hy];exact m',?_,qF h.row λg hg=>?_,?_,h.kl,h.nl,?_,h.ownR,?_,h.loc,h.ths,h.uss,h.pre⟩
 ·rw[hf.block wb (qc h.blk) h2];exact h.blk
 ·obtain⟨h3,h4,cur,h0⟩:=qf h.row g hg
  refine hf.block g h3 λe=>?_;rcases e with e|e|e
  ·have:=h.m.num.blk;rw[←e,h0]at this;injection this with this;injection this with _ this;revert this;decide
  ·obtain⟨es,c,q,-⟩:=h.m.num.map;rw[←e,h0]at q;injection q with q;cases q
  ·exact h.ap g hg e
 ·intro g hg e
  rcases ho g e with e|e
  ·exact h.ap g hg e
  ·have:=(qf h.row g hg).1;omega
 ·refine h.fr.trans hf λj hj e=>?_
  rcases e with e|e|e
  ·exact Or.inr (Or.inl (Or.inl e))
  ·exact Or.inr (Or.inl (Or.inr (Or.inl e)))
  ·rcases h.ownM j e with e|e
   ·exact Or.inr (Or.inl (Or.inr (Or.inr e)))
   ·omega
 ·intro j hj
  rcases ho j hj with e|e
  ·exact h.ownM j e
  ·exact Or.inr (by omega)
theorem StInv.done
  (h:StInv U ts xs lo tb sb f who wb nb mb L S sv met gone w L2 S2 rvv l l.length sv3 wr) (h0:WA U ts xs lo tb sb f who wb nb mb L S sv met gone w) (hg:gone<met.length):
  WStep U ts xs lo tb sb f who wb nb mb L S sv w L2 S2 sv3 (xf met l) (gone+1) (wr.setCell ⟨wb,2,none⟩ (.int .i64 ((gone:Int)+1))):=by
 have hm:=h.m;rw[O7 (Uc _)]at hm;have hf:Frm (λk=>k=wb) wr (wr.setCell ⟨wb,2,none⟩ (.int .i64 ((gone:Int)+1))):=⟨rfl,rfl,rfl,by simp[World.setCell],λk _ hx=>Ot _ _ _ _ hx⟩
 have h1: ¬ur nb mb sv3 wb:=λe=>by
  rcases h.m.num.kind e h.blk with e|e<;>revert e<;>decide
 refine⟨⟨h.ta.keep hf λk _ e=>?_,hm.keep hf λk hk e=>h1 (e▸hk),qL h.blk 2 _,?_,?_⟩,h.fr.trans hf λj _ e=>Or.inr (Or.inr e),h.ownR,h.ownM,h.loc,h.ths,h.uss,h.pre⟩
 ·rw[e];exact Or.inr (Or.inl ⟨_,_,h.blk,by decide⟩)
 ·intro y hy
  rcases(j0 l met y).1 hy with e|e
  ·exact h0.nodes y e
  ·exact h.nl y e
 ·have:=(i7 l met).length_le;omega
def KF(U:List BA)(ts:List (Nod×Nod))(xs:List BA):Prop:= ∀{lo tb sb:Nat} {f:Nod->Option Value} {who:Nod->Nat} {wb nb mb:Nat} {L:TL} {S:TS} {sv:Value} {met:List Nod} {gone:Nat} {w:World},WA U ts xs lo tb sb f who wb nb mb L S sv met gone w-> ∀{x:Nod},met[gone]?=some x->
  Calls prog 140 #[.pointer (some ⟨wb,0,none⟩)] w λe w'=>e=.returned (.tuple #[])/\ ∃L' S' sv',WStep U ts xs lo tb sb f who wb nb mb L S sv w L' S' sv' (xf met (qI ts (qi xs) x)) (gone+1) w'
structure Gone(ts:List (Nod×Nod))(xs:List BA)(x0:Nod)(met:List Nod)(gone:Nat):Prop where
 first:met[0]?=some x0
 rch: ∀y∈met,Rch ts (qi xs) x0 y
 closed: ∀i y,i<gone->met[i]?=some y-> ∀z∈qI ts (qi xs) y,z∈met
variable{x0:Nod}
theorem Gone.next(h:Gone ts xs x0 met gone)(hx:met[gone]?=some x):Gone ts xs x0 (xf met (qI ts (qi xs) x)) (gone+1):=by
 have hp:=i7 (qI ts (qi xs) x) met;have h1: ∀(i:Nat) (y:Nod),met[i]?=some y->(xf met (qI ts (qi xs) x))[i]?=some y:=λi y hi=>by
  obtain⟨t,ht⟩:=hp;rw[←ht,Oz (OE.1 hi).1];exact hi
 refine⟨h1 0 x0 h.first,λy hy=>?_,λi y hi hy z hz=>?_⟩
 ·rcases(j0 _ _ y).1 hy with e|e
  ·exact h.rch y e
  ·exact Rch.on (h.rch x (OZ hx)) e
 ·have h2:=(OE.1 hx).1
  obtain⟨y',h0⟩: ∃y',met[i]?=some y':=⟨_,OC (by omega)⟩
  have:=h1 i y' h0;rw[hy]at this;injection this with this;subst this;refine(j0 _ _ z).2 ?_;by_cases e:i=gone
  ·subst e
   rw[hx]at h0;injection h0 with h0
   right;rw[h0];exact hz
  ·left;exact h.closed i y (by omega) h0 z hz
theorem Gone.all(h:Gone ts xs x0 met met.length)(y:Nod):y∈met↔Rch ts (qi xs) x0 y:=by
 refine⟨h.rch y,λhr=>?_⟩;refine Rch.in (S:=(· ∈met)) (λx hx z hz=>?_) (OZ h.first) hr
 obtain⟨i,hi⟩:=OX.1 hx;exact h.closed i x (OE.1 hi).1 hi z hz
def pt(w:World)(wb:Nat):Nat:=match w.cell? ⟨wb,2,none⟩with|some (.int _ n)=>n.toNat|_=>0
theorem tI(h:WA U ts xs lo tb sb f who wb nb mb L S sv met gone w):pt w wb=gone:=by
 unfold pt;rw[qa h.blk (j:=2) rfl];simp
theorem lZ(HC:Hid (KF U ts xs))(h:WA U ts xs lo tb sb f who wb nb mb L S sv met gone w)(hg:Gone ts xs x0 met gone):
  Calls prog 87 #[.pointer (some ⟨wb,0,none⟩)] w λe w'=>e=.returned (.tuple #[])/\ ∃L' S' sv' met',WStep U ts xs lo tb sb f who wb nb mb L S sv w L' S' sv' met' met'.length w'/\Gone ts xs x0 met' met'.length:=by
 have h8:Hid (WStep U ts xs lo tb sb f who wb nb mb L S sv w L S sv met gone w):=WStep.below h (Ou _ _);have h5:Hid (Gone ts xs x0 met gone):=hg;clear h hg;go_enter func87,ntmps87;go_wp2
 go_loopw [2] (λ_ wr=> ∃(L2:TL) (S2:TS) (sv2:Value) (met2:List Nod) (gone2:Nat),WStep U ts xs lo tb sb f who wb nb mb L S sv w L2 S2 sv2 met2 gone2 wr/\Gone ts xs x0 met2 gone2) (λ_ wr=>32000000-pt wr wb)
 case atStart=>exact⟨L,S,sv,met,gone,h8.out,h5.out⟩
 case round=>
  obtain⟨L2,S2,sv2,met2,gone2,hs,hg⟩:=hrel;have HS:Hid (WStep U ts xs lo tb sb f who wb nb mb L S sv w L2 S2 sv2 met2 gone2 wr):=hs;have HG:Hid (Gone ts xs x0 met2 gone2):=hg;have h3:=kE hs.at';have ha:Hid (met2.length<=32000000):=vM hs.at'.ta.t.ok hs.at'.m.num.nd hs.at'.m.kn;have hb:Hid (pt wr wb=gone2):=tI hs.at';have hf:=hs.at'.gl;clear hs hg h8 h5;by_cases he:gone2=met2.length
  ·rw[Up he]at h3
   go_wp2_with(go_at_call 139;refine h3.mono ?_;rintro e w1 ⟨rfl,h0⟩)
   go_end0
   have h1:=HS.out;have h2:=HG.out;rw[he]at h1 h2;exact⟨rfl,L2,S2,sv2,met2,h1.trans (WStep.below h1.at' h0),h2⟩
  ·rw[Uo he]at h3
   obtain⟨x,hx⟩: ∃x,met2[gone2]?=some x:=⟨_,OC (by omega)⟩
   have HX:Hid (met2[gone2]?=some x):=hx;have h9:gone2<met2.length:=by omega
   have hc:Hid (∀w1,Below wr.heap.size wr w1->Calls prog 140 #[.pointer (some ⟨wb,0,none⟩)] w1 λe w'=>e=.returned (.tuple #[])/\pt w' wb=gone2+1/\ ∃L' S' sv',WStep U ts xs lo tb sb f who wb nb mb L S sv w L' S' sv' (xf met2 (qI ts (qi xs) x)) (gone2+1) w'):=by
    intro w1 h0;have h1:=HS.out.trans (WStep.below HS.out.at' h0);refine(HC.out h1.at' HX.out).mono ?_;rintro e w' ⟨he,L',S',sv',hs⟩;exact⟨he,tI hs.at',L',S',sv',h1.trans hs⟩
   clear hx he
   go_wp2_with(first|(go_at_call 139;refine h3.mono ?_;rintro e w1 ⟨rfl,h0⟩)|(go_at_call 140;refine(hc.out _ h0).mono ?_;rintro e w2 ⟨rfl,h6,L3,S3,sv3,h7⟩;have hd:Hid (WStep U ts xs lo tb sb f who wb nb mb L S sv w L3 S3 sv3 (xf met2 (qI ts (qi xs) x)) (gone2+1) w2):=h7;have h4:Hid (pt w2 wb=gone2+1):=h6;clear h7 h6))
   go_roundw
   case rel=>exact⟨L3,S3,sv3,_,_,hd.out,HG.out.next HX.out⟩
   case measure=>rw[hb.out,h4.out];have:=ha.out;omega
theorem fX(HC:Hid (KF U ts xs))(h:WA U ts xs lo tb sb f who wb nb mb L S sv met gone w)(hg:Gone ts xs x0 met gone):
  Calls prog 44 #[.pointer (some ⟨wb,0,none⟩)] w λe w'=> ∃L' S' sv' met',e=.returned (.int .i64 (met'.length:Nat))/\WStep U ts xs lo tb sb f who wb nb mb L S sv w L' S' sv' met' met'.length w'/\Gone ts xs x0 met' met'.length:=by
 have hf:=lZ HC h hg;clear h hg HC;go_enter func44,ntmps44
 go_wp2_with(go_at_call 87;refine hf.mono ?_;rintro e w1 ⟨rfl,L',S',sv',met',hs,h0⟩;have HS:Hid (WStep U ts xs lo tb sb f who wb nb mb L S sv w L' S' sv' met' met'.length w1):=hs;have c2:=qa hs.at'.blk (j:=2) rfl;clear hs)
 go_ret;exact⟨L',S',sv',met',rfl,HS.out,h0⟩
theorem dT(HW:Hid xh)(cov:Cov U xs)(h:WA U ts xs lo tb sb f who wb nb mb L S sv met gone w)(hx:met[gone]?=some x):
  Calls prog 140 #[.pointer (some ⟨wb,0,none⟩)] w λe w'=>e=.returned (.tuple #[])/\ ∃L' S' sv',WStep U ts xs lo tb sb f who wb nb mb L S sv w L' S' sv' (xf met (qI ts (qi xs) x)) (gone+1) w':=by
 have hb:gone<met.length:=(OE.1 hx).1;have h8:=kE h;rw[Uo (by omega)]at h8
 have h7:=vM h.ta.t.ok h.m.num.nd h.m.kn;have HC:Hid (∀w1,Below w.heap.size w w1-> ∃g c,w1.cell? ⟨wb,0,none⟩=some (.pointer (some ⟨tb,0,none⟩))/\w1.cell? ⟨wb,1,none⟩=some (.pointer (some ⟨nb,0,none⟩))/\w1.cell? ⟨wb,2,none⟩=some (.int .i64 gone)/\w1.cell? ⟨nb,1,none⟩=some (.slice (some ⟨g,0,none⟩) met.length c)/\w1.cell? ⟨g,gone,none⟩=some (cxN S x)):=by
  intro w1 h2;have h1:=h.below h2;obtain⟨g,cap,ho,h4⟩:=xj h1.m.num.row (by omega)
  have n1:=qa h1.m.num.blk (j:=1) rfl;rw[ho]at n1;refine⟨g,cap,qa h1.blk (j:=0) rfl,qa h1.blk (j:=1) rfl,qa h1.blk (j:=2) rfl,n1,h4 gone _ ?_⟩;rw[nN,OF,hx];rfl
 obtain⟨l,hl⟩: ∃l,qI ts (qi xs) x=l:=⟨_,rfl⟩;have hi: ∀y∈l,y.isTh=false:=by
  intro y hy;rw[←hl]at hy;have:=(OW.1 hy).2
  simpa using this
 have hn:l.length<=10251:=by
  rw[←hl];have h0:=List.length_filter_le (λy:Nod=> !y.isTh) (qY ts x (qi xs x));have h1:=vD ts x (qi xs x);have h3:=h.ta.tn;have:lvW (qi xs x) * (ts.length+1)<=201 * 51:=Nat.mul_le_mul (cov.lv x) (by omega)
  unfold qI;omega
 have HN:Hid (∀w1,Below w.heap.size w w1->Calls prog 182 #[.pointer (some ⟨tb,0,none⟩),cxN S x] w1 λe w2=> ∃L2 S2 o c,e=.returned (.slice o l.length c)/\StInv U ts xs lo tb sb f who wb nb mb L S sv met gone w L2 S2 (.slice o l.length c) l 0 sv w2):=by
  intro w1 h2;have kx:=h.m.kn x (OZ hx);have:=tF HW cov (h.ta.below h2) kx;rw[hl]at this;refine this.mono ?_;intro e w2 hp;obtain⟨L2,S2,v,he,hI⟩:=StInv.start h h2 hi hp;obtain⟨o,c,rfl⟩:=qz hI.row;exact⟨L2,S2,o,c,he,hI⟩
 have HH:Hid (WA U ts xs lo tb sb f who wb nb mb L S sv met gone w):=h;have hr:lo<=w.heap.size:=h.ta.lo;rw[hl];obtain⟨nn,h6⟩: ∃nn,l.length=nn:=⟨_,rfl⟩;have hd:Hid (l.length=nn):=h6;rw[h6]at hn HN;generalize cxN S x=cx at *;have hq:Hid (gone<met.length):=hb;obtain⟨mm,h9⟩: ∃mm,met.length=mm:=⟨_,rfl⟩;rw[h9]at hb h7 HC;clear h hl hi h6 h9 hx;go_enter func140,ntmps140
 go_wp2_with(go_at_call 139;refine h8.mono ?_;rintro e w1 ⟨rfl,h2⟩;obtain⟨g,cap,c0,c1,c2,n1,gx⟩:=HC.out w1 h2)
 go_cut [23,24,25]from 6 to 25 (λrv ln i wx=> ∃(L2:TL) (S2:TS) (o:Option Addr) (cc:Nat),rv=.slice o nn cc/\ln=.int .i64 nn/\i=.int .i64 0/\StInv U ts xs lo tb sb f who wb nb mb L S sv met gone w L2 S2 (.slice o nn cc) l 0 sv wx)
 case first=>
  go_region_with(go_at_call 182;refine(HN.out _ (by first|exact h2|exact h2.drew|exact below_drewN h2 _)).mono ?_;rintro e w2 ⟨L2,S2,o,cc,rfl,hI⟩;have HI:Hid (StInv U ts xs lo tb sb f who wb nb mb L S sv met gone w L2 S2 (.slice o nn cc) l 0 sv w2):=hI;clear hI)
  all_goals (go_wp2_with fail;go_meet)
  all_goals exact⟨L2,S2,o,cc,rfl,rfl,rfl,HI.out⟩
 case rest=>
  obtain⟨L2,S2,o,cc,rfl,rfl,rfl,hI⟩:=hcut;have hg:Hid (StInv U ts xs lo tb sb f who wb nb mb L S sv met gone w L2 S2 (.slice o nn cc) l 0 sv wc):=hI;clear hI HN HC c0 c1 c2 n1 gx h8;go_wp2
  go_loopw [25] (λi wr=> ∃(k:Nat) (sv3:Value),k<=nn/\i=.int .i64 k/\StInv U ts xs lo tb sb f who wb nb mb L S sv met gone w L2 S2 (.slice o nn cc) l k sv3 wr) (λi _=>nn-(intOf i).toNat)
  case atStart=>exact⟨0,_,Um _,rfl,hg.out⟩
  case round=>
   obtain⟨k,sv3,hk,rfl,hI⟩:=hrel;have HI:Hid (StInv U ts xs lo tb sb f who wb nb mb L S sv met gone w L2 S2 (.slice o nn cc) l k sv3 wr):=hI;have d1:=qa hI.blk (j:=1) rfl;clear hI hg;by_cases hlt:k<nn
   ·have ha:k<l.length:=by have:=hd.out;omega
    obtain⟨z,hz⟩: ∃z,l[k]?=some z:=⟨_,OC ha⟩;have h5:yz wr (.slice o nn cc) (l.map (cxN S2)):=by
     refine vw (base:=w.heap.size) (t:=136) ?_;rw[OM];exact HI.out.row
    obtain⟨o',c',he,hc⟩:=h5;obtain⟨g,hf,h4⟩:=hc k (cxN S2 z) (by rw[OF,hz];rfl)
    have hs:o=some ⟨g,0,none⟩:=by injection he with he;rw[he];exact hf
    subst hs;have hm:Hid (Calls prog 135 #[.pointer (some ⟨nb,0,none⟩),cxN S2 z] wr λe w'=>(∃i:Nat,e=.returned (.int .i64 i))/\ ∃sv',StInv U ts xs lo tb sb f who wb nb mb L S sv met gone w L2 S2 (.slice (some ⟨g,0,none⟩) nn cc) l (k+1) sv' w'):=HI.out.next hr hz;clear he hc hf hz ha;generalize cxN S2 z=cz at *
    go_wp2_with(go_at_call 135;refine hm.out.mono ?_;rintro e w2 ⟨⟨i,rfl⟩,sv4,hj⟩;have ht:Hid (StInv U ts xs lo tb sb f who wb nb mb L S sv met gone w L2 S2 (.slice (some ⟨g,0,none⟩) nn cc) l (k+1) sv4 w2):=hj;clear hj)
    go_roundw
    case rel=>exact⟨k+1,sv4,by omega,by go_num,ht.out⟩
    case measure=>simp[intOf];omega
   ·obtain rfl:k=nn:=by omega
    have d2:=qa HI.out.blk (j:=2) rfl;have z2:=qd HI.out.blk 2;have HF:Hid (WStep U ts xs lo tb sb f who wb nb mb L S sv w L2 S2 sv3 (xf met l) (gone+1) (wr.setCell ⟨wb,2,none⟩ (.int .i64 ((gone:Int)+1)))):=by
     have h3:=HI.out;rw[←hd.out]at h3;exact h3.done HH.out hq.out
    go_wp2
    go_end0
    exact⟨rfl,L2,S2,sv3,HF.out⟩
theorem NumAt.base{α:Type}{enc:α->Value}{cl:α->List Value}{Gd:Value->Prop}{tN tE:TypeId}{size:Nat}{lo':Nat}{vs:List α}(h:NumAt enc cl Gd tN tE size w lo nb mb sv vs)(hl:lo'<=lo):NumAt enc cl Gd tN tE size w lo' nb mb sv vs:=
 ⟨h.blk,h.map,xM h.row hl,h.nd,Ue hl h.lob,Ue hl h.lom⟩
structure UOk(U:List BA):Prop where
 none:qk∈U
 len:U.length<=8000
 size: ∀r∈U,r.size<=maxLen
def S00:TS:=⟨[],[qk],[]⟩
theorem Kj(hU:UOk U){w3:World}(hr:zp w mb xs){nt mt:Nat}{st:Value}{nr mr:Nat}{sr:Value}{nu mu:Nat}{su:Value}
  (h1:jQ w1 w.heap.size nt mt st []) (b1:Below w.heap.size w w1) (h2:df Value.string w2 w1.heap.size nr mr sr [qk]) (b2:Below w1.heap.size w1 w2) (h3:jQ w3 w2.heap.size nu mu su []) (b3:Below w2.heap.size w2 w3):
  Bld U [] xs w.heap.size (w3.heap.size+2) (λ_=>none) (λ_=>0) ⟨mb,nt,mt,st,nr,mr,sr,nu,mu,su,w3.heap.size,w3.heap.size+1⟩ S00 w (((w3.alloc (.map #[] 0)).alloc (.map #[] 0)).alloc (.cells (iD ⟨mb,nt,mt,st,nr,mr,sr,nu,mu,su,w3.heap.size,w3.heap.size+1⟩).toArray 182)):=by
 have z1:=b1.size;have z2:=b2.size;have z3:=b3.size;have s4:(w3.alloc (.map #[] 0)).heap.size=w3.heap.size+1:=by show(w3.heap.push _).size=_;simp
 have s5:((w3.alloc (.map #[] 0)).alloc (.map #[] 0)).heap.size=w3.heap.size+2:=by show((w3.alloc (.map #[] 0)).heap.push _).size=_;rw[Array.size_push,s4]
 have b4:Below w3.heap.size w3 (((w3.alloc (.map #[] 0)).alloc (.map #[] 0)).alloc (.cells (iD ⟨mb,nt,mt,st,nr,mr,sr,nu,mu,su,w3.heap.size,w3.heap.size+1⟩).toArray 182)):=bl;obtain⟨W,hW⟩: ∃W,((w3.alloc (.map #[] 0)).alloc (.map #[] 0)).alloc (.cells (iD ⟨mb,nt,mt,st,nr,mr,sr,nu,mu,su,w3.heap.size,w3.heap.size+1⟩).toArray 182)=W:=⟨_,rfl⟩;have h0:W.heap[w3.heap.size+2]?=some (.cells (iD ⟨mb,nt,mt,st,nr,mr,sr,nu,mu,su,w3.heap.size,w3.heap.size+1⟩).toArray 182 (0,0)):=by
  rw[←hW,←s5];exact qn _ _ _
 have hE:yM W CxG w3.heap.size []:=by
  rw[←hW];refine((yM.new w3 CxG).move ?_);rw[Oq _ _ _ (by rw[s5];omega),Oq _ _ _ (by rw[s4];omega)]
 have hM:zt W CxG (w3.heap.size+1) []:=by
  rw[←hW,←s4];refine((zt.new (w3.alloc (.map #[] 0)) CxG).move ?_);rw[Oq _ _ _ (by rw[s5,s4];omega)]
 rw[hW]at b4 ⊢;have h6:Below w2.heap.size w2 W:=b3.trans (b4.mono z3);have h4:Below w1.heap.size w1 W:=b2.trans (h6.mono z2);have h5:Below w.heap.size w W:=b1.trans (h4.mono z1);have hb:mb<w.heap.size:=by obtain⟨m,lor,hm,-⟩:=hr;exact hm.lt
 have ha:=h1.map.lt;have hd:=h2.map.lt;have hc:=h3.map.lt;have h8:=h2.lom;have h7:=h3.lom;have h9:=h1.lom;have ok:TS.Ok U S00:=⟨by simp[S00],hU.len,by simp[S00],λr hr=>by simp[S00]at hr;rw[hr];exact hU.none,⟨[],rfl⟩,λx hx=>by simp[S00]at hx,λx hx=>by simp[S00]at hx,hU.size⟩
 refine⟨⟨⟨h0,((h1.keep (X:=λ_=>False) (Frm.of_below h4) (λ_ _ e=>e))),((h2.keep (X:=λ_=>False) (Frm.of_below h6) (λ_ _ e=>e)).base z1),((h3.keep (X:=λ_=>False) (Frm.of_below b4) (λ_ _ e=>e)).base (Ue z1 z2)),⟨[],hE,λp hp=>by simp at hp,λx _=>rfl,λx _=>rfl⟩,⟨[],hM,λp hp=>by simp at hp,λx _=>rfl,λx _=>rfl,λp hp=>by simp at hp⟩,ok,?_,?_,?_,by omega,by show w.heap.size<=w3.heap.size;omega,by show w.heap.size<=w3.heap.size+1;omega⟩,⟨(λx v hv=>by cases hv),(λx _=>rfl),(λt ht=>by simp at ht),(λx y v u k hv=>by cases hv)⟩,hr.below h5,Uc _,by simp⟩,h5,λu=>by simp[S00],by simp[S00],by simp[S00],λy _ i _=>by simp[S00],λy _=>rfl,λy=>by simp⟩
 ·show[mb,mt,mr,mu,w3.heap.size,w3.heap.size+1].Nodup
  simp only[List.nodup_cons,OT,O4,or_false,not_or,not_false_eq_true,List.nodup_nil,and_true];refine⟨⟨?_,?_,?_,?_,?_⟩,⟨?_,?_,?_,?_⟩,⟨?_,?_,?_⟩,⟨?_,?_⟩,?_⟩<;>omega
 ·show nt≠nu
  have:=qc h1.blk;have:=h3.lob;omega
 ·intro k hk e
  have:=(qf h1.row k hk).1;have:=(qf h3.row k e).2.1;omega
