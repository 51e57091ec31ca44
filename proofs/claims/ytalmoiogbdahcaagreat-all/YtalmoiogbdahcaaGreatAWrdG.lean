import Derived.Test.YtalmoiogbdahcaaGreatAWrdC
open Go.Proofs.Tryz
namespace Go.Proofs.YtalmoiogbdahcaaGreat
set_option maxRecDepth 100000
set_option maxHeartbeats 8000000
open Go.RowKit
def opB:BA:={data:= #[40]}
def clB:BA:={data:= #[41]}
def uY:BA:={data:= #[124]}
def yF:BA:={data:= #[38]}
def iZ:BA:={data:= #[45,62]}
def xW(q:Rd):WayT×Rd:=
 if uR (zk q.rest)then(.mk 0 qk qk [],q.name)
 else if qP q.name.rest iZ then(.mk 2 (zk q.rest) (zk (q.name.sees iZ).rest) [],(q.name.sees iZ).relation)
 else(.mk 1 qk (zk q.rest) [],q.name)
def zM(one:Rd->WayT×Rd)(mark:BA):Nat->List WayT->Rd->List WayT×Rd
 |0,acc,q=>(acc,q)
 |n+1,acc,q=>if qP q.rest mark then zM one mark n (acc++[(one (q.sees mark)).1]) (one (q.sees mark)).2 else(acc,q)
def u6(is:Int):List WayT->WayT
 | [t]=>t
 |ts=>.mk is qk qk ts
def jI(q:Rd):BA:=if qP q.rest yF then yF else uY
def dW(q:Rd):Int:=if qP q.rest yF then 4 else 3
def uE(one:Rd->WayT×Rd)(q:Rd):List WayT×Rd:=zM one (jI (one q).2) (one q).2.rest.size [(one q).1] (one q).2
def x7(one:Rd->WayT×Rd)(q:Rd):WayT×Rd:=(u6 (dW (one q).2) (uE one q).1,(uE one q).2)
def Rd.opened(q:Rd):Rd:={q.sees opB with opn:=q.opn+1}
def qv:Nat->Rd->WayT×Rd
 |0,q=>if qP q.rest opB then(.mk 0 qk qk [],(q.sees opB).fail)else xW q
 |d+1,q=>if qP q.rest opB then((x7 (qv d) q.opened).1,{(x7 (qv d) q.opened).2.must clB with opn:=q.opn})else xW q
theorem yK(q:Rd)(m:BA):(q.sees m).opn=q.opn:=by unfold Rd.sees;split<;>rfl
theorem mU(q:Rd)(m:BA):(q.must m).opn=q.opn:=by
 unfold Rd.must;split
 ·exact yK q m
 ·rfl
theorem i0(q:Rd):q.name.opn=q.opn:=by unfold Rd.name;split<;>rfl
theorem ax(q:Rd):q.relation.opn=q.opn:=by
 unfold Rd.relation;split
 ·exact i0 q
 ·exact i0 q
theorem ra(q:Rd):(xW q).2.opn=q.opn:=by
 unfold xW;split
 ·exact i0 q
 ·split
  ·show(q.name.sees iZ).relation.opn=_;rw[ax,yK,i0]
  ·exact i0 q
variable{one:Rd->WayT×Rd}
theorem Xp(h: ∀q,(one q).2.opn=q.opn)(m:BA): ∀n acc q,(zM one m n acc q).2.opn=q.opn:=by
 intro n
 induction n with
 |zero=>intro acc q;rfl
 |succ n ih=>
  intro acc q;rw[zM];split
  ·rw[ih,h,yK]
  ·rfl
theorem Kq(h: ∀q,(one q).2.opn=q.opn)(q:Rd):(x7 one q).2.opn=q.opn:=by
 show(uE one q).2.opn=_;unfold uE;rw[Xp h,h]
theorem j1: ∀d q,(qv d q).2.opn=q.opn:=by
 intro d;cases d with
 |zero=>
  intro q;rw[qv];split
  ·exact yK q opB
  ·exact ra q
 |succ d=>
  intro q;rw[qv];split
  ·rfl
  ·exact ra q
theorem dX(q:Rd):(xW q).2.rest.size<=q.rest.size:=by
 unfold xW;split
 ·exact xV q
 ·split
  ·exact Ue (jS _) (Ue (yj _ _) (xV _))
  ·exact xV q
theorem Qf(h: ∀q,(one q).2.rest.size<=q.rest.size)(m:BA): ∀n acc q,(zM one m n acc q).2.rest.size<=q.rest.size:=by
 intro n
 induction n with
 |zero=>intro acc q;exact Uc _
 |succ n ih=>
  intro acc q;rw[zM];split
  ·exact Ue (ih _ _) (Ue (h _) (yj _ _))
  ·exact Uc _
theorem YU(h: ∀q,(one q).2.rest.size<=q.rest.size)(q:Rd):(x7 one q).2.rest.size<=q.rest.size:=
 Ue (Qf h _ _ _ _) (h q)
theorem dY(q:Rd):q.opened.rest.size<=q.rest.size:=yj q opB
theorem ks: ∀d q,(qv d q).2.rest.size<=q.rest.size:=by
 intro d
 induction d with
 |zero=>
  intro q;rw[qv];split
  ·exact Um _
  ·exact dX q
 |succ d ih=>
  intro q;rw[qv];split
  ·exact Ue (xE _ _) (Ue (YU ih _) (dY q))
  ·exact dX q
def fl:Value->List Value
 | .agg a=>a.toList
 |v=>[v]
inductive WayAt (w:World) (In:Nat->Prop):WayT->Value->Prop
 |leaf (is:Int) (a b:BA):WayAt w In (.mk is a b []) (.agg #[.int .i64 is,.string a,.string b,.slice none 0 0])
 |node (is:Int) (ts:List WayT) (vs:List Value) (g cap:Nat) (cur:Array Value):In g->w.heap[g]?=some (.cells cur 106 (0,0))->vs.length=ts.length->ts.length<=1000->
   cur.toList.take (ts.length * 4)=vs.flatMap fl->(∀(i:Nat) (t:WayT) (v:Value),ts[i]?=some t->vs[i]?=some v->WayAt w In t v)->
   WayAt w In (.mk is qk qk ts) (.agg #[.int .i64 is,.string qk,.string qk,.slice (some ⟨g,0,none⟩) ts.length cap])
variable{In:Nat->Prop}{t:WayT}{v:Value}{w:World}
theorem WayAt.move{w':World}{In':Nat->Prop}(h:WayAt w In t v)(hw: ∀g,In g->g<w.heap.size->In' g/\w'.heap[g]?=w.heap[g]?):WayAt w' In' t v:=by
 induction h with
 |leaf is a b=>exact .leaf is a b
 |node is ts vs g cap cur h1 h2 h3 h4 h5 h6 ih=>
  obtain⟨g1,g2⟩:=hw g h1 (qc h2);exact .node is ts vs g cap cur g1 (by rw[g2];exact h2) h3 h4 h5 ih
theorem WayAt.agg(h:WayAt w In t v): ∃is a b x n c,v=.agg #[.int .i64 is,.string a,.string b,.slice x n c]:=by
 cases h with
 |leaf is a b=>exact⟨_,_,_,_,_,_,rfl⟩
 |node is ts vs g cap cur=>exact⟨_,_,_,_,_,_,rfl⟩
def ay(w:World)(r:Nat)(p:WayT×Rd)(e:Ending)(w':World):Prop:=
 ∃v,e=.returned v/\WayAt w' (w.heap.size<= ·) p.1 v/\zg w' r p.2/\w.grownBy w' (some r)
def Kr(d:Nat):Prop:= ∀(r:Nat) (q:Rd) (w:World),zg w r q->q.rest.size<=200->0<=q.opn->q.opn+d=5->Calls prog 161 #[.pointer (some ⟨r,0,none⟩)] w (ay w r (qv d q))
def Xq(d:Nat):Prop:= ∀(r:Nat) (q:Rd) (w:World),zg w r q->q.rest.size<=200->0<=q.opn->q.opn+d=5->Calls prog 106 #[.pointer (some ⟨r,0,none⟩)] w (ay w r (x7 (qv d) q))
theorem QV(r c:Nat)(q:Rd)(u:FrameMode)(w:World)(h0:zg w r q)(hc:w.cell? ⟨c,0,none⟩=some (.pointer (some ⟨r,0,none⟩)))(h1:0<=q.opn)(h2:q.opn<=100):
  CallsD prog 218 #[.pointer (some ⟨c,0,none⟩)] u w λe u' w'=>u'=u/\(e=.returned (.tuple #[])/\zg w' r {q with opn:=q.opn-1}/\w.grownBy w' (some r)):=by
 obtain⟨g0,g1,g2,f0,f1,f2⟩:=uX h0
 go_enter_d func218,ntmps218
 go_wp2
 go_end0
 exact⟨rfl,ef h0 _,zf (xD _ _) _ _⟩
def brP(d:Nat)(q:Rd):WayT×Rd:=match d with
 |0=>(.mk 0 qk qk [],q.fail)
 |e+1=>((x7 (qv e) {q with opn:=q.opn+1}).1,{(x7 (qv e) {q with opn:=q.opn+1}).2.must clB with opn:=q.opn})
def BrC(d:Nat):Prop:= ∀(r:Nat) (q:Rd) (w:World),zg w r q->q.rest.size<=200->0<=q.opn->q.opn+d=5->
 Calls prog 196 #[.pointer (some ⟨r,0,none⟩)] w (ay w r (brP d q))
theorem eF(r j:Nat)(u:Value)(o o':Obj):w.grownBy (((w.setCell ⟨r,j,none⟩ u).alloc o).alloc o') (some r):=
 qr (zf (xD _ _) _ _) (qr (zN _ _) (zN _ _))
theorem QW(p:Addr)(u:Value)(cs:List Value)(t:TypeId)(o:Obj):(((w.setCell p u).alloc (.cells cs.toArray t)).alloc o).heap[w.heap.size]?=some (.cells cs.toArray t (0,0)):=by
 have e:(w.setCell p u).heap.size=w.heap.size:=by simp
 rw[Oq _ _ _ (by simp)]
 show((w.setCell p u).heap.push _)[w.heap.size]?=_
 rw[←e,Array.getElem?_push_size]
theorem eG(p:Addr)(u:Value)(cs:List Value)(t:TypeId)(o:Obj):(((w.setCell p u).alloc o).alloc (.cells cs.toArray t)).heap[w.heap.size+1]?=some (.cells cs.toArray t (0,0)):=by
 have e:((w.setCell p u).alloc o).heap.size=w.heap.size+1:=by simp
 show(((w.setCell p u).alloc o).heap.push _)[w.heap.size+1]?=_
 rw[←e,Array.getElem?_push_size]
variable{b:Nat}{o:Obj}
theorem qG(h:w.heap[b]?=some o)(o':Obj):(w.alloc o').heap[b]?=some o:=by
 rw[Oq _ _ _ (qc h)];exact h
theorem qn(w:World)(cs:List Value)(t:TypeId):(w.alloc (.cells cs.toArray t)).heap[w.heap.size]?=some (.cells cs.toArray t (0,0)):=by
 show(w.heap.push _)[w.heap.size]?=_
 rw[Array.getElem?_push_size]
variable{r:Nat}
theorem xC{W w1:World}(h:W.grownBy w1 (some r))(hb:W.heap[b]?=some o)(hn: ¬b=r):w1.heap[b]?=some o:=by
 rw[h.block b (qc hb) (by simpa using hn)];exact hb
theorem i8{wr:World}{row:Option Nat}(h:w.grownBy wr row)(hb:w.heap.size<=b)(c0 c1 c2 c3:Value):w.grownBy ((((wr.setCell ⟨b,0,none⟩ c0).setCell ⟨b,1,none⟩ c1).setCell ⟨b,2,none⟩ c2).setCell ⟨b,3,none⟩ c3) row:=
 xz (xz (xz (xz h hb _ _) hb _ _) hb _ _) hb _ _
theorem rd4{q:Rd}(h:zg w r q)(hb: ¬r=b)(c0 c1 c2 c3:Value):zg ((((w.setCell ⟨b,0,none⟩ c0).setCell ⟨b,1,none⟩ c1).setCell ⟨b,2,none⟩ c2).setCell ⟨b,3,none⟩ c3) r q:=
 x6 (x6 (x6 (x6 h hb _ _) hb _ _) hb _ _) hb _ _
theorem Xr{d0 d1 d2 d3:Value}{t:TypeId}(h:w.heap[b]?=some (.cells [d0,d1,d2,d3].toArray t (0,0)))(c0 c1 c2 c3:Value):
  ((((w.setCell ⟨b,0,none⟩ c0).setCell ⟨b,1,none⟩ c1).setCell ⟨b,2,none⟩ c2).setCell ⟨b,3,none⟩ c3).heap[b]?=some (.cells [c0,c1,c2,c3].toArray t (0,0)):=
 qL (qL (qL (qL h 0 c0) 1 c1) 2 c2) 3 c3
theorem kv{g:Nat}(hb: ¬g=b)(c0 c1 c2 c3:Value):
  ((((w.setCell ⟨b,0,none⟩ c0).setCell ⟨b,1,none⟩ c1).setCell ⟨b,2,none⟩ c2).setCell ⟨b,3,none⟩ c3).heap[g]?=w.heap[g]?:=by
 rw[Ot _ _ _ _ hb,Ot _ _ _ _ hb,Ot _ _ _ _ hb,Ot _ _ _ _ hb]
theorem GC:BrC 0:=by
 intro r q w h1 hs hp ho;unfold brP;obtain⟨g0,g1,g2,f0,f1,f2⟩:=uX h1;have hj:r<w.heap.size:=qc h1;have h7: ¬w.heap.size=r:=by omega
 have h3:q.opn=5:=by omega
 obtain⟨rs,o,fd⟩:=q;dsimp only at h3 g0 g1 g2 ⊢;subst h3;have hi: ∀(fn:Fn) (first cap:Array Value) (w:World),(Instr.makeFunc fn first cap).run prog w=.ok (.func fn first cap) w:=λ_ _ _ _=>rfl
 go_enter_defers func196,ntmps196
 go_wp2_with(first|(go_at_call 160;(refine(iV r _ _ (zD (zD (ef h1 6) _) _)).mono ?_;rintro e w1 ⟨rfl,h6,h0⟩;have hA:=xC h0 (QW _ _ [.pointer (some ⟨r,0,none⟩)] _ _) h7;have hB:=xC h0 (eG _ _ [Value.int .i64 0,.string {data:= #[]},.string {data:= #[]},.slice none 0 0] _ _) (by omega);have hm:=qa hA (j:=0) rfl;have hf:=qa hB (j:=0) rfl;have hk:=qa hB (j:=1) rfl;have hd:=qa hB (j:=2) rfl;have hg:=qa hB (j:=3) rfl;have hl:=qd hB 0;have hc:=qd hB 1;have he:=qd hB 2;have hb:=qd hB 3;have HA:Hid (w1.heap[w.heap.size]?=_):=hA;have HB:Hid (w1.heap[w.heap.size+1]?=_):=hB;clear hA hB)))
 have hN:=i8 (qr (eF r 1 _ _ _) h0) (b:=w.heap.size+1) (Ud _) (.int .i64 0) (.string {data:= #[]}) (.string {data:= #[]}) (.slice none 0 0);have hR:=rd4 h6 (b:=w.heap.size+1) (by omega) (.int .i64 0) (.string {data:= #[]}) (.string {data:= #[]}) (.slice none 0 0)
 have hS:=Xr HB.out (.int .i64 0) (.string {data:= #[]}) (.string {data:= #[]}) (.slice none 0 0);have hA:=qa ((kv (b:=w.heap.size+1) (g:=w.heap.size) (by omega) (.int .i64 0) (.string {data:= #[]}) (.string {data:= #[]}) (.slice none 0 0)).trans HA.out) (j:=0) rfl
 refine leaves_cons (f:=218) (args:= #[.pointer (some ⟨w.heap.size,0,none⟩)]) (by simp) (by simp[go_sem]) ?_
 refine(QV r w.heap.size _ .returning _ hR hA (show(0:Int)<=6 by decide) (show(6:Int)<=100 by decide)).mono ?_
 rintro e u' w2 ⟨rfl,rfl,h5,h2⟩;have hT:=xC h2 hS (by omega)
 have h9:=qa hT (j:=0) rfl;have ha:=qa hT (j:=1) rfl;have h4:=qa hT (j:=2) rfl;have h8:=qa hT (j:=3) rfl;exact⟨_,by simp[results,results196,go_sem,h9,ha,h4,h8];rfl,_,rfl,.leaf 0 qk qk,h5,qr hN h2⟩
theorem GD(d:Nat)(HW:Hid (Xq d)):BrC (d+1):=by
 intro r q w h5 hs hp ho;unfold brP;obtain⟨g0,g1,g2,f0,f1,f2⟩:=uX h5;have hE:r<w.heap.size:=qc h5;have h8: ¬w.heap.size=r:=by omega
 obtain⟨rs,o,fd⟩:=q;dsimp only at ho hp g0 g1 g2 hs ⊢;have hI:o<=4:=by omega
 have HO:Hid (o+1+(d:Int)=5):=by show _=_;omega
 clear ho;have hC:decide (o+1>5)=false:=by simp;omega
 have hz: ∀(fn:Fn) (first cap:Array Value) (w:World),(Instr.makeFunc fn first cap).run prog w=.ok (.func fn first cap) w:=λ_ _ _ _=>rfl
 have hi:Hid ((x7 (qv d) ⟨rs,o+1,fd⟩).2.opn=o+1):=Kq (j1 d) ⟨rs,o+1,fd⟩;have HC:Hid (∀w',zg w' r ⟨rs,o+1,fd⟩->Calls prog 106 #[.pointer (some ⟨r,0,none⟩)] w' (ay w' r (x7 (qv d) ⟨rs,o+1,fd⟩))):=λw' h=>HW.out r _ w' h hs (by show 0<=o+1;omega) HO.out
 generalize x7 (qv d) ⟨rs,o+1,fd⟩=p at *;obtain⟨tr,p⟩:=p;go_enter_defers func196,ntmps196
 go_wp2_with(first|(go_at_call 106;(refine(HC.out _ (zD (zD (ef h5 (o+1)) _) _)).mono ?_;rintro e w1 ⟨v,rfl,h6,hb,h3⟩;obtain⟨vi,va,vb,vx,vn,vc,rfl⟩:=h6.agg;clear HC;have hA:=xC h3 (QW _ _ [.pointer (some ⟨r,0,none⟩)] _ _) h8;have hB:=xC h3 (eG _ _ [Value.int .i64 0,.string {data:= #[]},.string {data:= #[]},.slice none 0 0] _ _) (by omega);have HA:Hid (w1.heap[w.heap.size]?=_):=hA;have HB:Hid (w1.heap[w.heap.size+1]?=_):=hB;have hl:=λo=>qa (qG hA o) (j:=0) rfl;have hD:w.heap.size+1<w1.heap.size:=qc hB;clear hA hB))|(go_at_call 105;(refine(iW r p clB _ (zD hb _)).mono ?_;rintro e w2 ⟨rfl,ha,h0⟩;have hA:=xC h0 (qG HA.out _) h8;have hB:=xC h0 (qG HB.out _) (by omega);have hV:=xC h0 (qn w1 [.int .i64 vi,.string va,.string vb,.slice vx vn vc] _) (by omega);have hm:=qa hV (j:=0) rfl;have hn:=qa hV (j:=1) rfl;have hx:=qa hV (j:=2) rfl;have hF:=qa hV (j:=3) rfl;have hv:=qa hB (j:=0) rfl;have hJ:=qa hB (j:=1) rfl;have ht:=qa hB (j:=2) rfl;have hy:=qa hB (j:=3) rfl;have hK:=qd hB 0;have hr:=qd hB 1;have hu:=qd hB 2;have hq:=qd hB 3;have hd:Hid (w2.heap[w.heap.size]?=_):=hA;have hf:Hid (w2.heap[w.heap.size+1]?=_):=hB;clear hA hB hV hl)))
 have hN:=i8 (qr (qr (eF r 1 _ _ _) h3) (qr (zN _ _) h0)) (b:=w.heap.size+1) (Ud _) (.int .i64 vi) (.string va) (.string vb) (.slice vx vn vc);have hR:=rd4 ha (b:=w.heap.size+1) (by omega) (.int .i64 vi) (.string va) (.string vb) (.slice vx vn vc)
 have hS:=Xr hf.out (.int .i64 vi) (.string va) (.string vb) (.slice vx vn vc);have hA:=qa ((kv (b:=w.heap.size+1) (g:=w.heap.size) (by omega) (.int .i64 vi) (.string va) (.string vb) (.slice vx vn vc)).trans hd.out) (j:=0) rfl
 have hM:(p.must clB).opn=o+1:=by rw[mU];exact hi.out
 refine leaves_cons (f:=218) (args:= #[.pointer (some ⟨w.heap.size,0,none⟩)]) (by simp) (by simp[go_sem]) ?_
 refine(QV r w.heap.size _ .returning _ hR hA (by rw[hM];omega) (by rw[hM];omega)).mono ?_
 rintro e u' w3 ⟨rfl,rfl,h7,h1⟩;have hT:=xC h1 hS (by omega)
 have hj:=qa hT (j:=0) rfl;have hk:=qa hT (j:=1) rfl;have h9:=qa hT (j:=2) rfl;have he:=qa hT (j:=3) rfl;refine⟨.agg #[.int .i64 vi,.string va,.string vb,.slice vx vn vc],by simp[results,results196,go_sem,hj,hk,h9,he],_,rfl,?_,?_,qr hN h1⟩
 ·refine h6.move λg hg hc=>?_
  have hG:w.heap.size+2<=g:=by simpa using hg
  refine⟨by show w.heap.size<=g;omega,?_⟩
  have h2:w2.heap[g]?=w1.heap[g]?:=by
   rw[h0.block g (by simp;omega) (by simp;omega),Oq _ _ _ hc]
  have h4:g<w2.heap.size:=Ug (by simp;omega) h0.size
  rw[h1.block g (by simpa[World.setCell]using h4) (by simp;omega),kv (by omega),h2]
 ·have e:(p.must clB).opn-1=o:=by rw[hM];omega
  rw[e]at h7;exact h7
theorem YV(d:Nat)(h: ∀e,d=e+1->Xq e):BrC d:=by
 cases d with
 |zero=>exact GC
 |succ d=>exact GD d (h d rfl)
theorem QX(d:Nat)(HB:Hid (BrC d)):Kr d:=by
 intro r q w hc hs hp ho;have hM:q.rest.size<=maxLen:=by unfold maxLen;omega
 have hn:r<w.heap.size:=qc hc;have h3:=λw1 h=>vz r q opB w1 h;have h1: ¬w.heap.size=r:=by omega
 cases hb:qP q.rest opB
 ·have e:qv d q=xW q:=by cases d<;>rw[qv,hb]<;>rfl
  rw[e];clear e HB ho hp;have e1:q.sees opB=q:=by unfold Rd.sees;rw[hb];rfl
  rw[hb,e1]at h3;clear hb e1;have h9:=λw1 h=>vA r q w1 h hM;unfold xW uR;have sN:=xV q;have SN:Hid (q.name.rest.size<=200):=by show _<=_;omega
  clear sN;generalize zk q.rest=nm at *;generalize q.name=q1 at *;cases ht:(nm.toList==[116,104,105,115])
  ·have ha:=λw1 h=>vz r q1 iZ w1 h
   cases h2:qP q1.rest iZ
   ·have e1:q1.sees iZ=q1:=by unfold Rd.sees;rw[h2];rfl
    rw[h2,e1]at ha;go_enter func161,ntmps161
    go_wp2_with(first|(go_at_call 89;refine(h3 _ (zD hc _)).mono ?_;clear h3;rintro e w1 ⟨rfl,h7,h4⟩)|(go_at_call 141;refine(h9 _ h7).mono ?_;clear h9;rintro e w2 ⟨rfl,h6,h5⟩)|(go_at_call 89;refine(ha _ h6).mono ?_;clear ha;rintro e w3 ⟨rfl,he,hd⟩;have h0:=qr (qr h4 h5) hd;have h8:=λo=>(zR h0).1 w.heap.size o (by simp) h1;have hf:=λo=>(zR h0).2 w.heap.size o (by simp) h1))
    refine bodyPost_ret (v:=.agg #[.int .i64 1,.string {data:= #[]},.string nm,.slice none 0 0]) (by simp[results,results161,go_sem,h8]) rfl ⟨_,rfl,.leaf _ _ _,rd4 he (Ne.symm h1) _ _ _ _,i8 (qr (zN _ _) h0) (Uc _) _ _ _ _⟩
   ·rw[h2]at ha
    have sS:=yj q1 iZ;have SS:Hid ((q1.sees iZ).rest.size<=maxLen):=by have:=SN.out;show _<=_;unfold maxLen;omega
    clear sS;generalize q1.sees iZ=q2 at *;go_enter func161,ntmps161
    go_wp2_with(first|(go_at_call 89;refine(h3 _ (zD hc _)).mono ?_;clear h3;rintro e w1 ⟨rfl,h7,h4⟩)|(go_at_call 141;refine(h9 _ h7).mono ?_;clear h9;rintro e w2 ⟨rfl,h6,h5⟩)|(go_at_call 89;refine(ha _ h6).mono ?_;clear ha;rintro e w3 ⟨rfl,he,hd⟩)|(go_at_call 159;refine(pz r q2 _ he SS.out).mono ?_;rintro e w4 ⟨rfl,hk,hl⟩;have h0:=qr (qr h4 h5) (qr hd hl);have h8:=λo=>(zR h0).1 w.heap.size o (by simp) h1;have hf:=λo=>(zR h0).2 w.heap.size o (by simp) h1))
    refine bodyPost_ret (v:=.agg #[.int .i64 2,.string nm,.string (zk q2.rest),.slice none 0 0]) (by simp[results,results161,go_sem,h8]) rfl ⟨_,rfl,.leaf _ _ _,rd4 hk (Ne.symm h1) _ _ _ _,i8 (qr (zN _ _) h0) (Uc _) _ _ _ _⟩
  ·go_enter func161,ntmps161
   go_wp2_with(first|(go_at_call 89;refine(h3 _ (zD hc _)).mono ?_;clear h3;rintro e w1 ⟨rfl,h7,h4⟩)|(go_at_call 141;refine(h9 _ h7).mono ?_;clear h9;rintro e w2 ⟨rfl,h6,h5⟩;have h0:=qr h4 h5;have h8:=λo=>(zR h0).1 w.heap.size o (by simp) h1;have hf:=λo=>(zR h0).2 w.heap.size o (by simp) h1))
   refine bodyPost_ret (v:=.agg #[.int .i64 0,.string {data:= #[]},.string {data:= #[]},.slice none 0 0]) (by simp[results,results161,go_sem,h8]) rfl ⟨_,rfl,.leaf _ _ _,rd4 h6 (Ne.symm h1) _ _ _ _,i8 (qr (zN _ _) h0) (Uc _) _ _ _ _⟩
 ·rw[hb]at h3
  have sS:=yj q opB;have hj:=λw1 h=>HB.out r (q.sees opB) w1 h (by omega) (by rw[yK];exact hp) (by rw[yK];exact ho)
  have e:qv d q=brP d (q.sees opB):=by
   cases d with
   |zero=>rw[qv,hb];rfl
   |succ d=>rw[qv,hb];unfold brP;dsimp only;rw[yK];rfl
  rw[e];clear e sS hp ho hs hM;generalize brP d (q.sees opB)=p at *;go_enter func161,ntmps161
  go_wp2_with(first|(go_at_call 89;refine(h3 _ (zD hc _)).mono ?_;clear h3;rintro e w1 ⟨rfl,h7,h4⟩)|(go_at_call 196;refine(hj _ h7).mono ?_;clear hj;rintro e w2 ⟨v,rfl,hi,h6,h5⟩;obtain⟨vi,va,vb,vx,vn,vc,rfl⟩:=hi.agg;have h0:=qr h4 h5;have h8:=λo=>(zR h0).1 w.heap.size o (by simp) h1;have hf:=λo=>(zR h0).2 w.heap.size o (by simp) h1))
  refine bodyPost_ret (v:=.agg #[.int .i64 vi,.string va,.string vb,.slice vx vn vc]) (by simp[results,results161,go_sem,h8]) rfl ⟨_,rfl,?_,rd4 h6 (Ne.symm h1) _ _ _ _,i8 (qr (zN _ _) h0) (Uc _) _ _ _ _⟩
  refine hi.move λg hg _=>?_;have hm:w.heap.size+1<=g:=Ue (by simp) (Ue h4.size hg)
  exact⟨Nat.le_of_succ_le hm,kv (by omega) _ _ _ _⟩
