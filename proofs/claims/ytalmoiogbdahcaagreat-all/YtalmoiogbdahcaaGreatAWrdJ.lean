import Derived.Test.YtalmoiogbdahcaaGreatAWrdG
import Derived.Test.YtalmoiogbdahcaaGreatARefE
open Go.Proofs.Tryz
namespace Go.Proofs.YtalmoiogbdahcaaGreat
set_option maxRecDepth 100000
set_option maxHeartbeats 8000000
open Go.RowKit
theorem Tryz.infoWay:(prog.info? 106).map (λi=>(i.zero,i.size,i.bytes))=some (some (.agg #[.int .i64 0,.string {data:= #[]},.string {data:= #[]},.slice none 0 0]),4,64):=by kernel_rfl
theorem Ks: ∃i,prog.info? 106=some i/\i.zero=some (.agg #[.int .i64 0,.string {data:= #[]},.string {data:= #[]},.slice none 0 0])/\i.size=4/\i.bytes=64:=by
 obtain⟨i,hi,h0⟩:=Un.1 Tryz.infoWay;simp only[Prod.mk.injEq]at h0;exact⟨i,hi,h0.1,h0.2.1,h0.2.2⟩
theorem sh(b k:Nat):(⟨b,0,none⟩:Addr).add k=⟨b,k,none⟩:=by
 unfold Addr.add;split
 ·rename_i h;rw[h]
 ·simp
theorem GE(w:World)(base:Nat)(g cap:Nat)(n:Nat)(xs:List Value)(c0 c1 c2 c3:Value)(h1: ∀u∈[c0,c1,c2,c3],u.oneCell'=true)(h7:w.ownsRow base 106 4 (.slice (some ⟨g,0,none⟩) n cap) n xs)(hb:base<=w.heap.size)(hl:n<=100000):
  ∃g' cap' w',(Builtin.append_ #[104,104] 104 #[.slice (some ⟨g,0,none⟩) n cap,.slice (some ⟨w.heap.size,0,none⟩) 1 1]).run prog (w.alloc (.cells #[c0,c1,c2,c3] 106))=.ok (.slice (some ⟨g',0,none⟩) (n+1) cap') w'/\
   w'.ownsRow base 106 4 (.slice (some ⟨g',0,none⟩) (n+1) cap') (n+1) (xs++[c0,c1,c2,c3])/\w.grownBy w' (some g)/\(g'=g\/w.heap.size<g'):=by
 obtain⟨i,hi,hz,hs,h9⟩:=Ks;have h5: ∀(j:Nat) (u:Value),[c0,c1,c2,c3][j]?=some u->(w.alloc (.cells #[c0,c1,c2,c3] 106)).cell? ((⟨w.heap.size,0,none⟩:Addr).add j)=some u:=by
  intro j u hj;rw[sh];exact qa (qn w [c0,c1,c2,c3] _) hj
 have h0:=h7.alloc (.cells #[c0,c1,c2,c3] 106);obtain⟨v',w',hr,h2,h3,h4⟩:=run_append_own (P:=prog) (w.alloc (.cells #[c0,c1,c2,c3] 106)) base 104 104 106 i _ 4 64 underlying104 hi hz hs h9 rfl (by decide) _ n xs h0 ⟨w.heap.size,0,none⟩ 1 1 [c0,c1,c2,c3] rfl h5
  h1 (by unfold maxLen;omega) (by omega) (by simp;omega)
 have he: ∃g' cap',v'=.slice (some ⟨g',0,none⟩) (n+1) cap'/\(g'=g\/w.heap.size<g'):=by
  rcases h0.2 with⟨hv,-⟩|⟨g0,cap0,cur,hv,hf,hg,hm,hk,hd,ha⟩
  ·cases hv
  ·simp only[Value.slice.injEq,Option.some.injEq,Addr.mk.injEq]at hv
   obtain⟨⟨rfl,-,-⟩,-,rfl⟩:=hv;by_cases hroom:n+1<=cap
   ·have h8:n * i.size+[c0,c1,c2,c3].length<=cur.size:=by rw[hs,hd];show n * 4+4<=_;omega
    have h6:=run_append_room (P:=prog) _ 104 104 106 i underlying104 hi g n cap cur hg ⟨w.heap.size,0,none⟩ 1 1 [c0,c1,c2,c3] (by rw[hs];rfl) h5 h1 hroom h8
    rw[hr]at h6;injection h6 with e1 e2;exact⟨g,cap,e1,Or.inl rfl⟩
   ·have h6:=run_append_grow (P:=prog) _ 104 104 106 i _ underlying104 hi hz ⟨g,0,none⟩ n cap xs (by rw[hs];exact h0.1) (h0.cells (g:=g) rfl) ⟨w.heap.size,0,none⟩ 1 1 [c0,c1,c2,c3] (by rw[hs];rfl) h5 (by omega) (by omega) (growslice_fits (by omega) (by rw[h9];omega))
    rw[hr]at h6;injection h6 with e1 e2;exact⟨_,_,e1,Or.inr (by simp)⟩
 obtain⟨g',cap',rfl,hc⟩:=he;exact⟨g',cap',w',hr,h2,uW h3,hc⟩
def pG(w:World)(r:Nat):Nat:=match w.cell? ⟨r,0,none⟩with|some (.string s)=>s.size|_=>0
variable{q:Rd}{r:Nat}{w:World}
theorem dy(h:zg w r q):pG w r=q.rest.size:=by unfold pG;rw[(uX h).1]
variable{base n:Nat}{w':World}
theorem YW{e:TypeId}{size:Nat}{v:Value}{xs:List Value}(h:w.ownsRow base e size v n xs)(hb: ∀g,v.ownBlock=some g->w'.heap[g]?=w.heap[g]?):w'.ownsRow base e size v n xs:=by
 obtain⟨h1,h2⟩:=h;refine⟨h1,?_⟩;rcases h2 with h|⟨g,cap,cur,rfl,a,b,c⟩
 ·exact Or.inl h
 ·exact Or.inr ⟨g,cap,cur,rfl,a,(hb g rfl).trans b,c⟩
def zeroWay:List Value:=[.int .i64 0,.string {data:= #[]},.string {data:= #[]},.slice none 0 0]
structure WInv(w:World)(fb r d:Nat)(mark:BA)(fin:List WayT×Rd)(t0:WayT)(v0:Value)(wr:World)(acc:List WayT)(vs:List Value)(q:Rd)(g cap n:Nat):Prop where
 own:wr.ownsRow (w.heap.size+1) 106 4 (.slice (some ⟨g,0,none⟩) acc.length cap) acc.length (vs.flatMap fl)
 lens:vs.length=acc.length
 at0:acc[0]?=some t0
 av0:vs[0]?=some v0
 ways: ∀(i:Nat) (t:WayT) (v:Value),acc[i]?=some t->vs[i]?=some v->WayAt wr (λk=>w.heap.size+1<=k/\k≠g) t v
 rd:zg wr r q
 left:q.rest.size<=n
 opn0:0<=q.opn
 opn:q.opn+d=5
 fin:zM (qv d) mark n acc q=fin
 few:acc.length+q.rest.size<=201
 kept:w.grownBy wr (some r)
 res:wr.heap[w.heap.size]?=some (.cells zeroWay.toArray 106 (0,0))
 first: ∃cs:List Value,v0=.agg cs.toArray/\wr.heap[fb]?=some (.cells cs.toArray 106 (0,0))
 apart:g≠fb/\w.heap.size<fb/\w.heap.size<g/\r<w.heap.size
variable{cs:List Value}{d:Nat}{mark:BA}
theorem WInv.start{w1:World}{p:WayT×Rd}(hr:r<w.heap.size)(hl:cs.length=4)(hv:WayAt w1 ((w.alloc (.cells zeroWay.toArray 106)).heap.size<= ·) p.1 (.agg cs.toArray))(h5:zg w1 r p.2)(h3:(w.alloc (.cells zeroWay.toArray 106)).grownBy w1 (some r))
  (hs:p.2.rest.size<=200) (hp:0<=p.2.opn) (ho:p.2.opn+d=5):
  WInv w w1.heap.size r d mark (zM (qv d) mark p.2.rest.size [p.1] p.2) p.1 (.agg cs.toArray) ((w1.alloc (.cells cs.toArray 106)).alloc (.cells cs.toArray 106)) [p.1] [.agg cs.toArray] p.2 (w1.heap.size+1) 1 p.2.rest.size:=by
 have h7:w.heap.size+1<=w1.heap.size:=by have:=h3.size;simp at this;omega
 have h0:((w1.alloc (.cells cs.toArray 106)).alloc (.cells cs.toArray 106)).heap[w1.heap.size+1]?=some (.cells cs.toArray 106 (0,0)):=by
  have e:(w1.alloc (.cells cs.toArray 106)).heap.size=w1.heap.size+1:=by simp
  have:=qn (w1.alloc (.cells cs.toArray 106)) cs 106;rw[e]at this;exact this
 refine⟨⟨by simp[fl,hl],Or.inr ⟨w1.heap.size+1,1,cs.toArray,rfl,by omega,h0,Uc _,by decide,by simp[hl],?_⟩⟩,rfl,rfl,rfl,?_,zD (zD h5 _) _,Uc _,hp,ho,rfl,by simp;omega,?_,?_,⟨cs,rfl,qG (qn _ _ _) _⟩,by omega,by omega,by omega,hr⟩
 ·simp[fl]
  rw[←hl];exact List.take_length
 ·intro i t v h1 h2
  match i with
  |0=>
   simp at h1 h2;subst h1;subst h2;refine hv.move λg hg h6=>?_;have h4:w.heap.size+1<=g:=by simpa using hg
   refine⟨⟨h4,by omega⟩,?_⟩
   rw[Oq _ _ _ (by simp;omega),Oq _ _ _ h6]
  |i+1=>simp at h1
 ·exact qr (zN _ _) (qr h3 (qr (zN _ _) (zN _ _)))
 ·exact qG (qG (xC h3 (qn w zeroWay _) (by omega)) _) _
variable{acc:List WayT}{cap fb g:Nat}{fin:List WayT×Rd}{t0:WayT}{v0:Value}{vs:List Value}{wr:World}
theorem WInv.next(h:WInv w fb r d mark fin t0 v0 wr acc vs q g cap n)
  (hm:mark.size=1) (hb:qP q.rest mark=true) {w2 w3:World} (h3:wr.grownBy w2 (some r)) (h7:w2.grownBy w3 (some r)) (hj:zg w3 r (qv d (q.sees mark)).2) {c0 c1 c2 c3:Value} (h1: ∀u∈[c0,c1,c2,c3],u.oneCell'=true) (hv:WayAt w3 (w2.heap.size<= ·) (qv d (q.sees mark)).1 (.agg #[c0,c1,c2,c3])):
  ∃g' cap' w4,(Builtin.append_ #[104,104] 104 #[.slice (some ⟨g,0,none⟩) acc.length cap,.slice (some ⟨w3.heap.size,0,none⟩) 1 1]).run prog (w3.alloc (.cells #[c0,c1,c2,c3] 106))=.ok (.slice (some ⟨g',0,none⟩) (acc.length+1) cap') w4/\
   WInv w fb r d mark fin t0 v0 w4 (acc++[(qv d (q.sees mark)).1]) (vs++[.agg #[c0,c1,c2,c3]]) (qv d (q.sees mark)).2 g' cap' (n-1)/\(qv d (q.sees mark)).2.rest.size<q.rest.size:=by
 obtain⟨e1,e2,e3,e4⟩:=h.apart;have hA:(q.sees mark).rest.size<q.rest.size:=by
  have:=(eh hb).1;unfold Rd.sees;rw[hb];simp;omega
 have hx:=ks d (q.sees mark);have hr:g<wr.heap.size:=by
  rcases h.own.2 with⟨hv,-⟩|⟨g',cap',cur,hv,-,hg,-⟩
  ·cases hv
  ·simp at hv;have:=qc hg;omega
 have h2: ∀k,k<wr.heap.size->k≠r->w3.heap[k]?=wr.heap[k]?:=λk hk hn=>by
  rw[h7.block k (Ug hk h3.size) (by simpa using hn),h3.block k hk (by simpa using hn)]
 have h4:=YW (w':=w3) h.own (λk hk=>by simp[Value.ownBlock]at hk;subst hk;exact h2 _ hr (by omega))
 have hd:=Ue h3.size h7.size;have hu:w.heap.size<=wr.heap.size:=h.kept.size;obtain⟨g',cap',w4,ha,h9,h6,hz⟩:=GE w3 (w.heap.size+1) g cap _ _ c0 c1 c2 c3 h1 h4 (by omega) (by have:=h.few;omega)
 have h0: ∀k,k<w3.heap.size->k≠g->w4.heap[k]?=w3.heap[k]?:=λk hk hn=>h6.block k hk (by simp;omega)
 have h8:=h.lens;have hq:fb<wr.heap.size:=by obtain⟨cs,-,hf⟩:=h.first;exact qc hf
 refine⟨g',cap',w4,ha,⟨?_,by simp[h8],?_,?_,?_,?_,?_,?_,?_,?_,?_,?_,?_,?_,?_⟩,by omega⟩
 ·rw[List.flatMap_append,OK];exact h9
 ·rw[Oz (by have:=OE.1 h.at0;exact this.1)];exact h.at0
 ·rw[Oz (by have:=OE.1 h.av0;exact this.1)];exact h.av0
 ·intro i t v ht h5
  by_cases hi:i<acc.length
  ·rw[Oz hi]at ht
   rw[Oz (by omega)]at h5
   refine(h.ways i t v ht h5).move λk hk hc=>?_;have ho:k≠r:=by omega
   refine⟨⟨hk.1,by omega⟩,?_⟩
   rw[h0 k (by omega) hk.2,h2 k hc ho]
  ·by_cases he:i=acc.length
   ·subst he
    rw[OA (Uc _)]at ht;rw[←h8,OA (Uc _)]at h5;simp at ht h5;subst ht;subst h5;refine hv.move λk hk hc=>?_;have:=h3.size;have hy:w2.heap.size<=k:=hk;exact⟨⟨by omega,by omega⟩,h0 k hc (by omega)⟩
   ·rw[OD (by simp;omega)]at ht;cases ht
 ·unfold zg;rw[h0 r (qc hj) (by omega)];exact hj
 ·have:=h.left;omega
 ·rw[j1,yK];exact h.opn0
 ·rw[j1,yK];exact h.opn
 ·have hf:=h.fin
  obtain⟨m,hl⟩: ∃m,n=m+1:=⟨n-1,by have:=h.left;omega⟩
  rw[hl,zM,if_pos hb]at hf;rw[hl];exact hf
 ·have:=h.few;simp;omega
 ·refine⟨h6.os.trans (h7.os.trans (h3.os.trans h.kept.os)),h6.tape.trans (h7.tape.trans (h3.tape.trans h.kept.tape)),h6.output.trans (h7.output.trans (h3.output.trans h.kept.output)),Ue hu (Ue hd h6.size),λk hk hn=>?_⟩
  rw[h0 k (by omega) (by omega),h2 k (by omega) (by simpa using hn),h.kept.block k hk hn]
 ·rw[h0 _ (by omega) (by omega),h2 _ (by omega) (by omega)];exact h.res
 ·obtain⟨cs,hp,hs⟩:=h.first
  exact⟨cs,hp,by rw[h0 fb (by omega) (by omega),h2 fb hq (by omega)];exact hs⟩
 ·omega
variable{m:BA}
theorem sees_no(h:qP q.rest m=false):q.sees m=q:=by unfold Rd.sees;rw[h];rfl
theorem WInv.over(h:WInv w fb r d mark fin t0 v0 wr acc vs q g cap n)(hb:qP q.rest mark=false):fin=(acc,q):=by
 have hf:=h.fin;cases n with
 |zero=>exact hf.symm
 |succ n=>rw[zM,if_neg (by rw[hb];decide)]at hf;exact hf.symm
theorem WInv.row(h:WInv w fb r d mark fin t0 (.agg cs.toArray) wr acc vs q g cap n):wr.heap[fb]?=some (.cells cs.toArray 106 (0,0)):=by
 obtain⟨cs',h1,h2⟩:=h.first
 injection h1 with h1;rw[h1];exact h2
theorem WInv.ways_end(h:WInv w fb r d mark fin t0 v0 wr acc vs q g cap n)(is:Int){W:World}(hW: ∀k,w.heap.size+1<=k->k<wr.heap.size->W.heap[k]?=wr.heap[k]?):
  (acc.length=1->WayAt W (w.heap.size<= ·) (u6 is acc) v0)/\(acc.length≠1->WayAt W (w.heap.size<= ·) (u6 is acc) (.agg #[.int .i64 is,.string qk,.string qk,.slice (some ⟨g,0,none⟩) acc.length cap])):=by
 have h3: ∀{t:WayT} {v:Value},WayAt wr (λk=>w.heap.size+1<=k/\k≠g) t v->WayAt W (w.heap.size<= ·) t v:=λhv=>hv.move λk hk h6=>⟨Nat.le_of_succ_le hk.1,hW k hk.1 h6⟩;refine⟨λhl=>?_,λhl=>?_⟩
 ·have e:acc=[t0]:=by
   have h0:=h.at0
   match acc,hl,h0 with
   | [t],_,h0=>simp at h0;rw[h0]
  rw[e];exact h3 (h.ways 0 t0 v0 h.at0 h.av0)
 ·have e:u6 is acc=.mk is qk qk acc:=by
   have h0:=h.at0
   match acc,hl,h0 with
   | [],_,h0=>simp at h0
   | [_],hl,_=>simp at hl
   |_::_::_,_,_=>rfl
  rw[e];rcases h.own.2 with⟨hv,-⟩|⟨g',cap',cur,hv,h5,hg,h8,h7,h9,h4⟩
  ·cases hv
  ·simp only[Value.slice.injEq,Option.some.injEq,Addr.mk.injEq]at hv
   obtain⟨⟨rfl,-,-⟩,-,rfl⟩:=hv;exact .node is acc vs g cap cur (Nat.le_of_succ_le h5) (by rw[hW g h5 (qc hg)];exact hg) h.lens (by have:=h.few;omega) h4 λi t v h1 h2=>h3 (h.ways i t v h1 h2)
theorem YX(d:Nat)(HO:Hid (Kr d)):Xq d:=by
 intro r q w hr hs hp ho;have hO:r<w.heap.size:=qc hr;have h6: ¬w.heap.size=r:=by omega
 have h5:Hid (∀w1,zg w1 r q->Calls prog 161 #[.pointer (some ⟨r,0,none⟩)] w1 (ay w1 r (qv d q))):=λw1 h=>HO.out r q w1 h hs hp ho;cases hA:qP (qv d q).2.rest yF
 ·go_enter func106,ntmps106
  go_wp2_with(first|(go_at_call 161;refine(h5.out _ (zD hr _)).mono ?_;rintro e w1 ⟨v,rfl,hc,hj,hn⟩;obtain⟨vi,va,vb,vx,vn,vc,rfl⟩:=hc.agg;have ht:=λo=>qa (qG hj o) (j:=0) rfl)|(go_at_call 152;refine(iE _ yF _).mono ?_;rintro e w2 ⟨rfl,hQ⟩;subst w2;rw[hA]))
  have he:Hid (WInv w w1.heap.size r d uY (zM (qv d) uY (qv d q).2.rest.size [(qv d q).1] (qv d q).2) (qv d q).1 (.agg #[.int .i64 vi,.string va,.string vb,.slice vx vn vc]) _ _ _ _ _ _ _):=WInv.start (cs:=[.int .i64 vi,.string va,.string vb,.slice vx vn vc]) hO rfl hc hj hn (Ue (ks d q) hs) (by rw[j1];exact hp) (by rw[j1];exact ho)
  have hg:Hid (zM (qv d) uY (qv d q).2.rest.size [(qv d q).1] (qv d q).2=uE (qv d) q):=by show _=_;unfold uE jI;rw[hA];rfl
  have hd:Hid (x7 (qv d) q=(u6 3 (uE (qv d) q).1,(uE (qv d) q).2)):=by show _=_;unfold x7 dW;rw[hA];rfl
  rw[hg.out]at he;generalize uE (qv d) q=fin at *;generalize (qv d q).1=t0 at *;generalize x7 (qv d) q=out at *;clear hc hn ht hA hg h5 hs hp ho hr
  go_loopw [6] (λo wr=> ∃acc vs q' g cap n,o=.slice (some ⟨g,0,none⟩) (acc:List WayT).length cap/\WInv w w1.heap.size r d uY fin t0 (.agg #[.int .i64 vi,.string va,.string vb,.slice vx vn vc]) wr acc vs q' g cap n) (λ_ wr=>pG wr r)
  case atStart=>exact⟨_,_,_,_,_,_,rfl,he.out⟩
  case round=>
   obtain⟨acc,vs,q',g,cap,n,rfl,hI⟩:=hrel;clear he;cases hb:qP q'.rest uY
   ·have HS:=vz r q' uY wr hI.rd
    rw[hb,sees_no hb]at HS;have h4:Hid (out=(u6 3 acc,q')):=by show _=_;rw[hd.out,hI.over hb]
    have HI:Hid (WInv w w1.heap.size r d uY fin t0 (.agg #[.int .i64 vi,.string va,.string vb,.slice vx vn vc]) wr acc vs q' g cap n):=hI;have hP:w.heap.size<w1.heap.size:=hI.apart.2.1;clear hd hb;by_cases hl:acc.length=1
    ·have hM:((acc.length:Int)==1)=true:=by simp[hl]
     have HL:Hid (acc.length=1):=hl;clear hl hI
     go_wp2_with(first|(go_at_call 89;refine HS.mono ?_;clear HS;rintro e w2 ⟨rfl,h3,h1⟩;have hF:=xC h1 (HI.out.row (cs:=[.int .i64 vi,.string va,.string vb,.slice vx vn vc])) (by omega);have hB:=xC h1 HI.out.res h6;have hL:=qa hF (j:=0) rfl;have hx:=qa hF (j:=1) rfl;have hz:=qa hF (j:=2) rfl;have hv:=qa hF (j:=3) rfl;have h9:=qa hB (j:=0) rfl;have hf:=qa hB (j:=1) rfl;have h7:=qa hB (j:=2) rfl;have ha:=qa hB (j:=3) rfl;have hK:=qd hB 0;have hD:=qd hB 1;have hC:=qd hB 2;have hJ:=qd hB 3;clear hF hB))
     rw[h4.out];have hN:=h1.size;have hw:=HI.out.kept.size;refine bodyPost_ret (v:=.agg #[.int .i64 vi,.string va,.string vb,.slice vx vn vc]) (by simp[results,results106,go_sem,h9,hf,h7,ha]) rfl ⟨_,rfl,(HI.out.ways_end 3 λk hk h2=>?_).1 HL.out,rd4 h3 (Ne.symm h6) _ _ _ _,i8 (qr HI.out.kept h1) (Uc _) _ _ _ _⟩
     rw[kv (by omega),h1.block k h2 (by simp;omega)]
    ·have hM:((acc.length:Int)==1)=false:=by simp;omega
     have HL:Hid (acc.length≠1):=hl;clear hl hI
     go_wp2_with(first|(go_at_call 89;refine HS.mono ?_;clear HS;rintro e w2 ⟨rfl,h3,h1⟩;have hF:=xC h1 (HI.out.row (cs:=[.int .i64 vi,.string va,.string vb,.slice vx vn vc])) (by omega);have hB:=xC h1 HI.out.res h6;have hL:=qa hF (j:=0) rfl;have hx:=qa hF (j:=1) rfl;have hz:=qa hF (j:=2) rfl;have hv:=qa hF (j:=3) rfl;have h9:=qa hB (j:=0) rfl;have hf:=qa hB (j:=1) rfl;have h7:=qa hB (j:=2) rfl;have ha:=qa hB (j:=3) rfl;have hK:=qd hB 0;have hD:=qd hB 1;have hC:=qd hB 2;have hJ:=qd hB 3;clear hF hB))
     rw[h4.out];have hN:=h1.size;have hw:=HI.out.kept.size;refine bodyPost_ret (v:=.agg #[.int .i64 3,.string {data:= #[]},.string {data:= #[]},.slice (some ⟨g,0,none⟩) acc.length cap]) (by simp[results,results106,go_sem,h9,hf,h7,ha]) rfl ⟨_,rfl,(HI.out.ways_end 3 λk hk h2=>?_).2 HL.out,rd4 h3 (Ne.symm h6) _ _ _ _,i8 (qr HI.out.kept h1) (Uc _) _ _ _ _⟩
     rw[kv (by omega),h1.block k h2 (by simp;omega)]
   ·have HS:=vz r q' uY wr hI.rd
    rw[hb]at HS;have sS:=yj q' uY;have HN:Hid (∀w2,zg w2 r (q'.sees uY)->Calls prog 161 #[.pointer (some ⟨r,0,none⟩)] w2 (ay w2 r (qv d (q'.sees uY)))):=λw2 h=>HO.out r _ w2 h (by have:=hI.few;have h0:=OE.1 hI.at0;have:=h0.1;omega) (by rw[yK];exact hI.opn0) (by rw[yK];exact hI.opn)
    have HB:Hid (qP q'.rest uY=true):=hb;have HI:Hid (WInv w w1.heap.size r d uY fin t0 (.agg #[.int .i64 vi,.string va,.string vb,.slice vx vn vc]) wr acc vs q' g cap n):=hI;have HM:Hid (pG wr r=q'.rest.size):=dy hI.rd;clear hd hb sS hI
    go_wp2_with(first|(go_at_call 89;refine HS.mono ?_;clear HS;rintro e w2 ⟨rfl,h3,h1⟩)|(go_at_call 161;refine(HN.out _ h3).mono ?_;rintro e w3 ⟨v3,rfl,hm,hG,hy⟩;obtain⟨xi,xa,xb,xx,xn,xc,rfl⟩:=hm.agg;obtain⟨g',cap',w4,h8,hq,h2⟩:=HI.out.next rfl HB.out h1 hy hG (by intro u hu;simp at hu;rcases hu with rfl|rfl|rfl|rfl<;>rfl) hm;have hi:Hid (WInv w w1.heap.size r d uY fin t0 (.agg #[.int .i64 vi,.string va,.string vb,.slice vx vn vc]) w4 _ _ _ g' cap' (n-1)):=hq;have hE:Hid ((qv d (q'.sees uY)).2.rest.size<q'.rest.size):=h2;clear hq h2)|(at_builtin;refine qo rfl (.tmp 19) (.tmp 22) 104 rfl _ _ _ rfl rfl h8 ?_))
    go_roundw
    case rel=>exact⟨_,_,_,_,_,_,by simp,hi.out⟩
    case measure=>rw[HM.out,dy hi.out.rd];exact hE.out
 ·go_enter func106,ntmps106
  go_wp2_with(first|(go_at_call 161;refine(h5.out _ (zD hr _)).mono ?_;rintro e w1 ⟨v,rfl,hc,hj,hn⟩;obtain⟨vi,va,vb,vx,vn,vc,rfl⟩:=hc.agg;have ht:=λo=>qa (qG hj o) (j:=0) rfl)|(go_at_call 152;refine(iE _ yF _).mono ?_;rintro e w2 ⟨rfl,hQ⟩;subst w2;rw[hA]))
  have he:Hid (WInv w w1.heap.size r d yF (zM (qv d) yF (qv d q).2.rest.size [(qv d q).1] (qv d q).2) (qv d q).1 (.agg #[.int .i64 vi,.string va,.string vb,.slice vx vn vc]) _ _ _ _ _ _ _):=WInv.start (cs:=[.int .i64 vi,.string va,.string vb,.slice vx vn vc]) hO rfl hc hj hn (Ue (ks d q) hs) (by rw[j1];exact hp) (by rw[j1];exact ho)
  have hg:Hid (zM (qv d) yF (qv d q).2.rest.size [(qv d q).1] (qv d q).2=uE (qv d) q):=by show _=_;unfold uE jI;rw[hA];rfl
  have hd:Hid (x7 (qv d) q=(u6 4 (uE (qv d) q).1,(uE (qv d) q).2)):=by show _=_;unfold x7 dW;rw[hA];rfl
  rw[hg.out]at he;generalize uE (qv d) q=fin at *;generalize (qv d q).1=t0 at *;generalize x7 (qv d) q=out at *;clear hc hn ht hA hg h5 hs hp ho hr
  go_loopw [6] (λo wr=> ∃acc vs q' g cap n,o=.slice (some ⟨g,0,none⟩) (acc:List WayT).length cap/\WInv w w1.heap.size r d yF fin t0 (.agg #[.int .i64 vi,.string va,.string vb,.slice vx vn vc]) wr acc vs q' g cap n) (λ_ wr=>pG wr r)
  case atStart=>exact⟨_,_,_,_,_,_,rfl,he.out⟩
  case round=>
   obtain⟨acc,vs,q',g,cap,n,rfl,hI⟩:=hrel;clear he;cases hb:qP q'.rest yF
   ·have HS:=vz r q' yF wr hI.rd
    rw[hb,sees_no hb]at HS;have h4:Hid (out=(u6 4 acc,q')):=by show _=_;rw[hd.out,hI.over hb]
    have HI:Hid (WInv w w1.heap.size r d yF fin t0 (.agg #[.int .i64 vi,.string va,.string vb,.slice vx vn vc]) wr acc vs q' g cap n):=hI;have hP:w.heap.size<w1.heap.size:=hI.apart.2.1;clear hd hb;by_cases hl:acc.length=1
    ·have hM:((acc.length:Int)==1)=true:=by simp[hl]
     have HL:Hid (acc.length=1):=hl;clear hl hI
     go_wp2_with(first|(go_at_call 89;refine HS.mono ?_;clear HS;rintro e w2 ⟨rfl,h3,h1⟩;have hF:=xC h1 (HI.out.row (cs:=[.int .i64 vi,.string va,.string vb,.slice vx vn vc])) (by omega);have hB:=xC h1 HI.out.res h6;have hL:=qa hF (j:=0) rfl;have hx:=qa hF (j:=1) rfl;have hz:=qa hF (j:=2) rfl;have hv:=qa hF (j:=3) rfl;have h9:=qa hB (j:=0) rfl;have hf:=qa hB (j:=1) rfl;have h7:=qa hB (j:=2) rfl;have ha:=qa hB (j:=3) rfl;have hK:=qd hB 0;have hD:=qd hB 1;have hC:=qd hB 2;have hJ:=qd hB 3;clear hF hB))
     rw[h4.out];have hN:=h1.size;have hw:=HI.out.kept.size;refine bodyPost_ret (v:=.agg #[.int .i64 vi,.string va,.string vb,.slice vx vn vc]) (by simp[results,results106,go_sem,h9,hf,h7,ha]) rfl ⟨_,rfl,(HI.out.ways_end 4 λk hk h2=>?_).1 HL.out,rd4 h3 (Ne.symm h6) _ _ _ _,i8 (qr HI.out.kept h1) (Uc _) _ _ _ _⟩
     rw[kv (by omega),h1.block k h2 (by simp;omega)]
    ·have hM:((acc.length:Int)==1)=false:=by simp;omega
     have HL:Hid (acc.length≠1):=hl;clear hl hI
     go_wp2_with(first|(go_at_call 89;refine HS.mono ?_;clear HS;rintro e w2 ⟨rfl,h3,h1⟩;have hF:=xC h1 (HI.out.row (cs:=[.int .i64 vi,.string va,.string vb,.slice vx vn vc])) (by omega);have hB:=xC h1 HI.out.res h6;have hL:=qa hF (j:=0) rfl;have hx:=qa hF (j:=1) rfl;have hz:=qa hF (j:=2) rfl;have hv:=qa hF (j:=3) rfl;have h9:=qa hB (j:=0) rfl;have hf:=qa hB (j:=1) rfl;have h7:=qa hB (j:=2) rfl;have ha:=qa hB (j:=3) rfl;have hK:=qd hB 0;have hD:=qd hB 1;have hC:=qd hB 2;have hJ:=qd hB 3;clear hF hB))
     rw[h4.out];have hN:=h1.size;have hw:=HI.out.kept.size;refine bodyPost_ret (v:=.agg #[.int .i64 4,.string {data:= #[]},.string {data:= #[]},.slice (some ⟨g,0,none⟩) acc.length cap]) (by simp[results,results106,go_sem,h9,hf,h7,ha]) rfl ⟨_,rfl,(HI.out.ways_end 4 λk hk h2=>?_).2 HL.out,rd4 h3 (Ne.symm h6) _ _ _ _,i8 (qr HI.out.kept h1) (Uc _) _ _ _ _⟩
     rw[kv (by omega),h1.block k h2 (by simp;omega)]
   ·have HS:=vz r q' yF wr hI.rd
    rw[hb]at HS;have sS:=yj q' yF;have HN:Hid (∀w2,zg w2 r (q'.sees yF)->Calls prog 161 #[.pointer (some ⟨r,0,none⟩)] w2 (ay w2 r (qv d (q'.sees yF)))):=λw2 h=>HO.out r _ w2 h (by have:=hI.few;have h0:=OE.1 hI.at0;have:=h0.1;omega) (by rw[yK];exact hI.opn0) (by rw[yK];exact hI.opn)
    have HB:Hid (qP q'.rest yF=true):=hb;have HI:Hid (WInv w w1.heap.size r d yF fin t0 (.agg #[.int .i64 vi,.string va,.string vb,.slice vx vn vc]) wr acc vs q' g cap n):=hI;have HM:Hid (pG wr r=q'.rest.size):=dy hI.rd;clear hd hb sS hI
    go_wp2_with(first|(go_at_call 89;refine HS.mono ?_;clear HS;rintro e w2 ⟨rfl,h3,h1⟩)|(go_at_call 161;refine(HN.out _ h3).mono ?_;rintro e w3 ⟨v3,rfl,hm,hG,hy⟩;obtain⟨xi,xa,xb,xx,xn,xc,rfl⟩:=hm.agg;obtain⟨g',cap',w4,h8,hq,h2⟩:=HI.out.next rfl HB.out h1 hy hG (by intro u hu;simp at hu;rcases hu with rfl|rfl|rfl|rfl<;>rfl) hm;have hi:Hid (WInv w w1.heap.size r d yF fin t0 (.agg #[.int .i64 vi,.string va,.string vb,.slice vx vn vc]) w4 _ _ _ g' cap' (n-1)):=hq;have hE:Hid ((qv d (q'.sees yF)).2.rest.size<q'.rest.size):=h2;clear hq h2)|(at_builtin;refine qo rfl (.tmp 19) (.tmp 22) 104 rfl _ _ _ rfl rfl h8 ?_))
    go_roundw
    case rel=>exact⟨_,_,_,_,_,_,by simp,hi.out⟩
    case measure=>rw[HM.out,dy hi.out.rd];exact hE.out
theorem GF: ∀d,Kr d:=by
 intro d
 induction d with
 |zero=>exact QX 0 (YV 0 (λe h=>by omega))
 |succ d ih=>exact QX (d+1) (YV (d+1) (λe h=>by
   have e':d=e:=by omega
   subst e';exact YX d ih))
theorem GG(d:Nat):Xq d:=YX d (GF d)
theorem si(w:World)(l:Value)(m:BA)(j:Nat)(hj:1<=j)(h7:j<=3)(h:uN w l m){gx nx cx:Nat}(hx:(Builtin.append_ #[28,28] 28 #[l,.slice (some ⟨w.heap.size,0,none⟩) j j]).run prog (w.alloc (.cells (qg (List.replicate j m)).toArray 9))=.ok (.slice (some ⟨gx,0,none⟩) nx cx) w'):yo l=some gx\/w.heap.size<=gx:=by
 obtain⟨i,hi,hz,hs,h3⟩:=jZ;have h0: ∀k u,(qg (List.replicate j m))[k]?=some u->(w.alloc (.cells (qg (List.replicate j m)).toArray 9)).cell? ((⟨w.heap.size,0,none⟩:Addr).add k)=some u:=by
  intro k u hu;rw[o9];exact qa (qn w (qg (List.replicate j m)) _) hu
 have h6:(w.alloc (.cells (qg (List.replicate j m)).toArray 9)).heap.size=w.heap.size+1:=by simp
 have h2: ∀{z n c:Nat} {w2:World},(.ok (.slice (some ⟨(w.alloc (.cells (qg (List.replicate j m)).toArray 9)).heap.size,0,none⟩) n c) w2:Result Value)=.ok (.slice (some ⟨z,0,none⟩) nx cx) w'->w.heap.size<=z:=by
  intro z n c w2 e;injection e with e _;injection e with e _ _;injection e with e;injection e with e _ _;rw[h6]at e;omega
 rcases h with(rfl|⟨b,off,rfl⟩)|⟨g,n,cap,cur,rfl,hg,hc,hn,hm,-⟩
 ·have hr:=run_append_nil (P:=prog) (w.alloc (.cells (qg (List.replicate j m)).toArray 9)) 28 28 9 i (.string {data:= #[]}) underlying28 hi hz ⟨w.heap.size,0,none⟩ j j (qg (List.replicate j m)) (by rw[hs,qH,ON,Nat.mul_one]) h0 (by omega) (by omega) (by rw[h3];omega)
  exact Or.inr (h2 (hr.symm.trans hx))
 ·have hr:=run_append_grow (P:=prog) (w.alloc (.cells (qg (List.replicate j m)).toArray 9)) 28 28 9 i (.string {data:= #[]}) underlying28 hi hz ⟨b,off,none⟩ 0 0 [] (by simp) (by intro k u hu;simp at hu) ⟨w.heap.size,0,none⟩ j j (qg (List.replicate j m)) (by rw[hs,qH,ON,Nat.mul_one]) h0 (by omega) (by omega) (growslice_fits (by omega) (by rw[h3];omega))
  exact Or.inr (h2 (hr.symm.trans hx))
 ·have h5:g<w.heap.size:=qc hg
  have h4:xK (w.alloc (.cells (qg (List.replicate j m)).toArray 9)) g cur:=by
   unfold xK;rw[Oq _ _ _ h5];exact hg
  by_cases hroom:n+j<=cap
  ·have hr:=run_append_room (P:=prog) (w.alloc (.cells (qg (List.replicate j m)).toArray 9)) 28 28 9 i underlying28 hi g n cap cur.toArray h4 ⟨w.heap.size,0,none⟩ j j (qg (List.replicate j m)) (by rw[hs,qH,ON,Nat.mul_one]) h0 (iM _) hroom (by rw[hs,qH,ON];simp;omega)
   have e:=hr.symm.trans hx;injection e with e _;injection e with e _ _;injection e with e;injection e with e _ _;refine Or.inl ?_;show(if n=0/\cap=0 then none else some g)=some gx
   rw[if_neg (by omega),e]
  ·have h1: ∀k u,(cur.take n)[k]?=some u->(w.alloc (.cells (qg (List.replicate j m)).toArray 9)).cell? ((⟨g,0,none⟩:Addr).add k)=some u:=by
    intro k u hu;rw[o9];have hk:k<n:=by
     rcases Uh k n with h|h
     ·exact h
     ·rw[OD (by rw[OQ];omega)]at hu;cases hu
    rw[OJ hk]at hu;exact qa h4 hu
   have hr:=run_append_grow (P:=prog) (w.alloc (.cells (qg (List.replicate j m)).toArray 9)) 28 28 9 i (.string {data:= #[]}) underlying28 hi hz ⟨g,0,none⟩ n cap (cur.take n) (by rw[hs,OQ];omega) h1 ⟨w.heap.size,0,none⟩ j j (qg (List.replicate j m)) (by rw[hs,qH,ON,Nat.mul_one]) h0 (by omega) (by omega) (growslice_fits (by omega) (by rw[h3];omega))
   exact Or.inr (h2 (hr.symm.trans hx))
def kA(w:World)(b base:Nat)(ps l1 l3 l:Value)(n1 n3:Nat)(us ws:List Value)(m:BA)(w':World):Prop:=
 ∃l1' l3' v1 v2 v3,St w' b base ps l1' l3' l (n1+1) (n3+1+1+1) (us++[l]) (ws++[v1]++[v2]++[v3]) m/\uf w' v1 m/\uf w' v2 m/\uf w' v3 m/\w.heap.size<=w'.heap.size/\w'.os=w.os/\w'.tape=w.tape/\w'.output=w.output/\
  (∀v,v=v1\/v=v2\/v=v3-> ∀k,yo v=some k->yo l=some k\/w.heap.size<=k)/\(∀k,l1'.ownBlock=some k->l1.ownBlock=some k\/w.heap.size<=k)/\(∀k,l3'.ownBlock=some k->l3.ownBlock=some k\/w.heap.size<=k)/\
  ∀k,k<w.heap.size->k≠b->yo l≠some k->l1.ownBlock≠some k->l3.ownBlock≠some k->w'.heap[k]?=w.heap[k]?
variable{b n1 n3:Nat}{l1 l3 ps:Value}{us ws:List Value}
theorem my{l:Value}(s:St w b base ps l1 l3 l n1 n3 us ws m)(h1:(n1+1) * 24<=140737488355328)(h3:(n3+3) * 24<=140737488355328):
  ∃x1 y1 z1 w1 x2 y2 z2 w2 x3 y3 z3 w3 g4 c4 w4 g5 c5 w5 g6 c6 w6 g7 c7 w7,
   (Builtin.append_ #[28,28] 28 #[l,.slice (some ⟨w.heap.size,0,none⟩) 1 1]).run prog (w.alloc (.cells #[.string m] 9))=.ok (.slice (some ⟨x1,0,none⟩) y1 z1) w1/\
   (Builtin.append_ #[28,28] 28 #[l,.slice (some ⟨w1.heap.size,0,none⟩) 2 2]).run prog (w1.alloc (.cells #[.string m,.string m] 9))=.ok (.slice (some ⟨x2,0,none⟩) y2 z2) w2/\
   (Builtin.append_ #[28,28] 28 #[l,.slice (some ⟨w2.heap.size,0,none⟩) 3 3]).run prog (w2.alloc (.cells #[.string m,.string m,.string m] 9))=.ok (.slice (some ⟨x3,0,none⟩) y3 z3) w3/\
   (Builtin.append_ #[59,59] 59 #[l1,.slice (some ⟨w3.heap.size,0,none⟩) 1 1]).run prog (w3.alloc (.cells #[l] 28))=.ok (.slice (some ⟨g4,0,none⟩) (n1+1) c4) w4/\
   (Builtin.append_ #[59,59] 59 #[l3,.slice (some ⟨w4.heap.size,0,none⟩) 1 1]).run prog ((w4.setCell ⟨b,1,none⟩ (.slice (some ⟨g4,0,none⟩) (n1+1) c4)).alloc (.cells #[.slice (some ⟨x1,0,none⟩) y1 z1] 28))=.ok (.slice (some ⟨g5,0,none⟩) (n3+1) c5) w5/\
   (Builtin.append_ #[59,59] 59 #[.slice (some ⟨g5,0,none⟩) (n3+1) c5,.slice (some ⟨w5.heap.size,0,none⟩) 1 1]).run prog ((w5.setCell ⟨b,2,none⟩ (.slice (some ⟨g5,0,none⟩) (n3+1) c5)).alloc (.cells #[.slice (some ⟨x2,0,none⟩) y2 z2] 28))=.ok (.slice (some ⟨g6,0,none⟩) (n3+1+1) c6) w6/\
   (Builtin.append_ #[59,59] 59 #[.slice (some ⟨g6,0,none⟩) (n3+1+1) c6,.slice (some ⟨w6.heap.size,0,none⟩) 1 1]).run prog ((w6.setCell ⟨b,2,none⟩ (.slice (some ⟨g6,0,none⟩) (n3+1+1) c6)).alloc (.cells #[.slice (some ⟨x3,0,none⟩) y3 z3] 28))=.ok (.slice (some ⟨g7,0,none⟩) (n3+1+1+1) c7) w7/\
   ue w3 b ps l1 l3/\ue w4 b ps l1 l3/\ue w5 b ps (.slice (some ⟨g4,0,none⟩) (n1+1) c4) l3/\ue w6 b ps (.slice (some ⟨g4,0,none⟩) (n1+1) c4) (.slice (some ⟨g5,0,none⟩) (n3+1) c5)/\ue w7 b ps (.slice (some ⟨g4,0,none⟩) (n1+1) c4) (.slice (some ⟨g6,0,none⟩) (n3+1+1) c6)/\
   kA w b base ps l1 l3 l n1 n3 us ws m (w7.setCell ⟨b,2,none⟩ (.slice (some ⟨g7,0,none⟩) (n3+1+1+1) c7)):=by
 obtain⟨e1,e2,e3⟩:=bd3 n3 h3;obtain⟨x1,y1,z1,w1,r1,f1,p1,s1,k1⟩:=stA s 1 (by decide) (by decide)
 obtain⟨x2,y2,z2,w2,r2,f2,p2,s2,k2⟩:=stA s1 2 (by decide) (by decide)
 obtain⟨x3,y3,z3,w3,r3,f3,p3,s3,k3⟩:=stA s2 3 (by decide) (by decide)
 obtain⟨g4,c4,w4,r4,lw4,p4,s4,k4,q4⟩:=stB s3 l (Yw s3.lf) h1;obtain⟨g5,c5,w5,r5,lw5,p5,s5,k5,q5⟩:=stC s4 (.slice (some ⟨x1,0,none⟩) y1 z1) (aa f1) e1;obtain⟨g6,c6,w6,r6,lw6,p6,s6,k6,q6⟩:=stC s5 (.slice (some ⟨x2,0,none⟩) y2 z2) (aa f2) e2;obtain⟨g7,c7,w7,r7,lw7,p7,s7,k7,q7⟩:=stC s6 (.slice (some ⟨x3,0,none⟩) y3 z3) (aa f3) e3;have o1:=si w l m 1 (by decide) (by decide) s.lf r1
 have o2:=si w1 l m 2 (by decide) (by decide) s1.lf r2
 have o3:=si w2 l m 3 (by decide) (by decide) s2.lf r3
 have d1:=k1.size;have d2:=k2.size;have d3:=k3.size;have d4:=k4.size;have d5:=k5.size;have d6:=k6.size;have d7:=k7.size;rw[iR]at d5 d6 d7 q5 q6 q7;have h5:=r5;have h0:=r6;have h4:=r7;rw[iR]at h5 h0 h4;refine⟨x1,y1,z1,w1,x2,y2,z2,w2,x3,y3,z3,w3,g4,c4,w4,g5,c5,w5,g6,c6,w6,g7,c7,w7,r1,r2,r3,r4,h5,h0,h4,s3.lw,lw4,lw5,lw6,lw7,?_⟩;refine⟨_,_,_,_,_,s7,?_,?_,?_,?_,?_,?_,?_,?_,?_,?_,?_⟩
 ·exact(((((f1.step p2).step p3).step p4).step p5).step p6).step p7
 ·exact((((f2.step p3).step p4).step p5).step p6).step p7
 ·exact(((f3.step p4).step p5).step p6).step p7
 ·rw[iR];exact Ue d1 (Ue d2 (Ue d3 (Ue d4 (Ue d5 (Ue d6 d7)))))
 ·exact k7.os.trans (k6.os.trans (k5.os.trans (k4.os.trans (k3.os.trans (k2.os.trans k1.os)))))
 ·exact k7.tape.trans (k6.tape.trans (k5.tape.trans (k4.tape.trans (k3.tape.trans (k2.tape.trans k1.tape)))))
 ·exact k7.output.trans (k6.output.trans (k5.output.trans (k4.output.trans (k3.output.trans (k2.output.trans k1.output)))))
 ·have h2: ∀{x y z k:Nat},yo (.slice (some ⟨x,0,none⟩) y z)=some k->k=x:=by
   intro x y z k e;have e:(if y=0/\z=0 then none else some x)=some k:=e
   split at e
   ·cases e
   ·injection e with e;exact e.symm
  rintro v (rfl|rfl|rfl) k hk
  ·rw[h2 hk];exact o1
  ·rw[h2 hk];exact o2.imp id λe=>by omega
  ·rw[h2 hk];exact o3.imp id λe=>by omega
 ·intro k hk
  have hk:some g4=some k:=hk;injection hk with hk;rw[←hk];exact q4.imp id λe=>by omega
 ·intro k hk
  have hk:some g7=some k:=hk;injection hk with hk;rw[←hk];rcases q7 with e|e
  ·have e:some g6=some g7:=e
   injection e with e;rw[←e];rcases q6 with e|e
   ·have e:some g5=some g6:=e
    injection e with e;rw[←e];exact q5.imp id λe=>by omega
   ·exact Or.inr (by omega)
  ·exact Or.inr (by omega)
 ·clear o1 o2 o3 r1 r2 r3 r4 r5 r6 r7 h5 h0 h4 s s1 s2 s3 s4 s5 s6 s7 f1 f2 f3 p1 p2 p3 p4 p5 p6 p7 lw4 lw5 lw6 lw7 e1 e2 e3 h1 h3
  intro k hk hb hl h8 h6;have t1:k<w1.heap.size:=Ug hk d1;have t2:k<w2.heap.size:=Ug t1 d2;have t3:k<w3.heap.size:=Ug t2 d3;have t4:k<w4.heap.size:=Ug t3 d4;have t5:k<w5.heap.size:=Ug t4 d5;have t6:k<w6.heap.size:=Ug t5 d6;have h7:g5≠k:=by
   rcases q5 with e|e
   ·intro e2;subst e2;exact h6 e
   ·exact λe2=>absurd (e2▸e) (Nat.not_le_of_lt t4)
  have h9:g6≠k:=by
   rcases q6 with e|e
   ·intro e2;subst e2;exact h7 (by injection e)
   ·exact λe2=>absurd (e2▸e) (Nat.not_le_of_lt t5)
  rw[kq _ _ _ _ _ hb,k7.block k (by rw[iR];exact t6) (by intro e;injection e with e;exact h9 e.symm),kq _ _ _ _ _ hb,k6.block k (by rw[iR];exact t5) (by intro e;injection e with e;exact h7 e.symm),kq _ _ _ _ _ hb,k5.block k (by rw[iR];exact t4) (Ne.symm h6),kq _ _ _ _ _ hb,k4.block k t3 (Ne.symm h8),k3.block k t2 (Ne.symm hl),k2.block k t1 (Ne.symm hl),k1.block k hk (Ne.symm hl)]
theorem Qg(b base:Nat)(ps l1 l3 l:Value)(us ws:List Value)(w:World)(hl:l=.slice none 0 0\/ ∃bb off,l=.slice (some ⟨bb,off,none⟩) 0 0)
  (s:St w b base ps l1 l3 l us.length ws.length us ws (zr us.length)) (h1:(us.length+1) * 24<=140737488355328) (h3:(ws.length+3) * 24<=140737488355328) (hm:us.length<=140737488355328):
  Calls prog 78 #[.pointer (some ⟨b,0,none⟩),l] w λe w'=>e=.returned (.tuple #[])/\kA w b base ps l1 l3 l us.length ws.length us ws (zr us.length) w':=by
 have h0:=λw=>dK us.length w hm;obtain⟨x1,y1,q1,w1,x2,y2,q2,w2,x3,y3,q3,w3,g4,c4,w4,g5,c5,w5,g6,c6,w6,g7,c7,w7,r1,r2,r3,r4,r5,r6,r7,lw3,lw4,lw5,lw6,lw7,hp⟩:=my s h1 h3;have HP:Hid (kA w b base ps l1 l3 l us.length ws.length us ws (zr us.length) (w7.setCell ⟨b,2,none⟩ (.slice (some ⟨g7,0,none⟩) (ws.length+1+1+1) c7))):=hp;clear hp h1 h3 hm;have a1:w.cell? ⟨b,1,none⟩=some l1:=qa s.lw rfl;have a3:w3.cell? ⟨b,1,none⟩=some l1:=qa lw3 rfl;have a4:w4.cell? ⟨b,1,none⟩=some l1:=qa lw4 rfl;have b4:w4.cell? ⟨b,2,none⟩=some l3:=qa lw4 rfl;have a5:w5.cell? ⟨b,2,none⟩=some l3:=qa lw5 rfl;have a6:w6.cell? ⟨b,2,none⟩=some (.slice (some ⟨g5,0,none⟩) (ws.length+1) c5):=qa lw6 rfl;have a7:w7.cell? ⟨b,2,none⟩=some (.slice (some ⟨g6,0,none⟩) (ws.length+1+1) c6):=qa lw7 rfl;have z4:w4.frozen? ⟨b,1,none⟩=false:=qd lw4 _;have z5:w5.frozen? ⟨b,2,none⟩=false:=qd lw5 _;have z6:w6.frozen? ⟨b,2,none⟩=false:=qd lw6 _;have z7:w7.frozen? ⟨b,2,none⟩=false:=qd lw7 _;have h2:(l1=.slice none 0 0/\us.length=0)\/ ∃g cap,l1=.slice (some ⟨g,0,none⟩) us.length cap:=by
  rcases s.o1.2 with h|⟨g,cap,cur,hv,-⟩
  ·exact Or.inl h
  ·exact Or.inr ⟨g,cap,hv⟩
 clear s lw3 lw4 lw5 lw6 lw7;generalize us.length=n1 at *;generalize ws.length=n3 at *;generalize zr n1=m at *;rcases h2 with⟨rfl,rfl⟩|⟨g1,cap1,rfl⟩
 all_goals
  rcases hl with rfl|⟨bb,off,rfl⟩
  all_goals
   go_enter func78,ntmps78
   go_wp2_with(go_at_call 81;refine(h0 _).mono ?_;rintro e w' ⟨rfl,rfl⟩)
   refine wp_loop_rounds 1 ?_;rw[rounds_succ]
   go_wp2_with(first|(at_builtin;refine qo rfl (.tmp 25) (.tmp 27) 28 rfl _ _ _ rfl rfl r1 ?_)|(at_builtin;refine qo rfl (.tmp 29) (.tmp 32) 28 rfl _ _ _ rfl rfl r2 ?_)|(at_builtin;refine qo rfl (.tmp 34) (.tmp 38) 28 rfl _ _ _ rfl rfl r3 ?_)|(at_builtin;refine qo rfl (.tmp 44) (.tmp 46) 59 rfl _ _ _ rfl rfl r4 ?_)|(at_builtin;refine qo rfl (.tmp 54) (.tmp 56) 59 rfl _ _ _ rfl rfl r5 ?_)|(at_builtin;refine qo rfl (.tmp 64) (.tmp 66) 59 rfl _ _ _ rfl rfl r6 ?_)|(at_builtin;refine qo rfl (.tmp 74) (.tmp 76) 59 rfl _ _ _ rfl rfl r7 ?_))
   go_end0
   exact⟨rfl,HP.out⟩
theorem eH(hz: ¬(n=0/\cap=0))(hk:w.grownBy wr (some g))(h:kA wr b base ps l1 l3 (.slice (some ⟨g,0,none⟩) n cap) n1 n3 us ws m w'):kA w b base ps l1 l3 (.slice (some ⟨g,0,none⟩) n cap) n1 n3 us ws m w':=by
 obtain⟨a1,a3,v1,v2,v3,s,f1,f2,f3,z,o1,o2,o3,h5,h2,h4,hf⟩:=h;refine⟨a1,a3,v1,v2,v3,s,f1,f2,f3,Ue hk.size z,o1.trans hk.os,o2.trans hk.tape,o3.trans hk.output,λv hv k h0=>(h5 v hv k h0).imp id λe=>Ue hk.size e,λk h0=>(h2 k h0).imp id λe=>Ue hk.size e,λk h0=>(h4 k h0).imp id λe=>Ue hk.size e,?_⟩;intro k hl hb hr h1 h3;have e:yo (.slice (some ⟨g,0,none⟩) n cap)=some g:=by
  show(if n=0/\cap=0 then none else some g)=some g
  rw[if_neg hz]
 rw[hf k (Ug hl hk.size) hb hr h1 h3];rw[e]at hr;exact hk.block k hl (Ne.symm hr)
theorem Xs(b base:Nat)(ps l1 l3:Value)(g n cap:Nat)(cur us ws:List Value)(w:World)(h2:ue w b ps l1 l3)(o1:w.ownsRow base 28 1 l1 us.length us)(o3:w.ownsRow base 28 1 l3 ws.length ws)
  (sep: ∀k,l1.ownBlock=some k->l3.ownBlock≠some k) (hb:b<base) (h0:base<=w.heap.size) (hg:xK w g cur) (hc:cur.length=cap) (hn:n<=cap) (ha:n<=549755813888) (hz: ¬(n=0/\cap=0))
  (h1:(us.length+1) * 24<=140737488355328) (h3:(ws.length+3) * 24<=140737488355328) (hm:us.length<=140737488355328):
  Calls prog 78 #[.pointer (some ⟨b,0,none⟩),.slice (some ⟨g,0,none⟩) n cap] w λe w'=>e=.returned (.tuple #[])/\kA w b base ps l1 l3 (.slice (some ⟨g,0,none⟩) n cap) us.length ws.length us ws (zr us.length) w':=by
 have h9:=λw=>dK us.length w hm;have a1:w.cell? ⟨b,1,none⟩=some l1:=qa h2 rfl;have he:(l1=.slice none 0 0/\us.length=0)\/ ∃g cap,l1=.slice (some ⟨g,0,none⟩) us.length cap:=by
  rcases o1.2 with h|⟨g,cap,cur,hv,-⟩
  ·exact Or.inl h
  ·exact Or.inr ⟨g,cap,hv⟩
 have h6: ∀k c2,w.heap[k]?=some (.cells (c2:List Value).toArray 28 (0,0))->some g≠some k:=by
  intro k c2 hk e;injection e with e;subst e;have:=iQ hg hk;revert this;decide
 have HT:Hid (∀wr cur',xK wr g cur'->cur'.length=cap->(∀i,i<n->cur'[i]?=some (.string (zr us.length)))->w.grownBy wr (some g)->St wr b base ps l1 l3 (.slice (some ⟨g,0,none⟩) n cap) us.length ws.length us ws (zr us.length)):=by
  intro wr cur' q1 q2 q3 q4;refine⟨aM h2 q4 ?_,ig o1 q4 ?_,ig o3 q4 ?_,Or.inr ⟨g,n,cap,cur',rfl,q1,q2,hn,ha,q3⟩,sep,hb,Ue h0 q4.size⟩
  ·intro e;injection e with e;subst e
   have:=iQ hg h2;revert this;decide
  ·intro k hk;obtain⟨c2,hd⟩:=dq o1 hk;exact h6 k c2 hd
  ·intro k hk;obtain⟨c2,hd⟩:=dq o3 hk;exact h6 k c2 hd
 have HG:Hid (xK w g cur):=hg;have hj:Hid (ue w b ps l1 l3):=h2;have h7:Hid ((us.length+1) * 24<=140737488355328/\(ws.length+3) * 24<=140737488355328):=⟨h1,h3⟩;have HZ:Hid (¬(n=0/\cap=0)):=hz;clear h6 o1 o3 sep hb h0 hg h2 h1 h3 hm hz;generalize us.length=n1 at *;generalize ws.length=n3 at *;generalize zr n1=m at *;rcases he with⟨rfl,rfl⟩|⟨g1,cap1,rfl⟩
 all_goals
  go_enter func78,ntmps78
  go_wp2_with(go_at_call 81;refine(h9 _).mono ?_;rintro e w' ⟨rfl,hf⟩;subst w')
  go_loopw [5] (λi wr=> ∃(k:Nat) (cur':List Value),k<=n/\i=.int .i64 k/\xK wr g cur'/\cur'.length=cap/\(∀i,i<k->cur'[i]?=some (.string m))/\w.grownBy wr (some g)) (λi _=>n-(intOf i).toNat)
  case atStart=>exact⟨0,cur,Um _,rfl,HG.out,hc,λi hi=>absurd hi (Uj _),xD _ _⟩
  case round=>
   obtain⟨k,cur',hk,rfl,hr,h8,h5,h4⟩:=hrel;by_cases hlt:k<n
   ·obtain⟨u,hu,hl⟩:=Gk hr (k:=k) (by omega)
    have HR:Hid (xK (wr.setCell ⟨g,k,none⟩ (.string m)) g (cur'.set k (.string m))/\(cur'.set k (.string m)).length=cap/\(∀i,i<k+1->(cur'.set k (.string m))[i]?=some (.string m))/\w.grownBy (wr.setCell ⟨g,k,none⟩ (.string m)) (some g)):=by
     refine⟨qL hr k _,by rw[OO];exact h8,?_,zf h4 k _⟩
     intro i hi;by_cases e:k=i
     ·subst e;rw[OI (by omega)]
     ·rw[OH e];exact h5 i (by omega)
    clear hr h5 h4;go_wp2
    go_roundw
    case rel=>exact⟨k+1,_,by omega,by go_num,HR.out.1,HR.out.2.1,HR.out.2.2.1,HR.out.2.2.2⟩
    case measure=>simp[intOf];omega
   ·obtain rfl:k=n:=by omega
    have hs:=HT.out wr cur' hr h8 h5 h4;obtain⟨x1,y1,q1,w1,x2,y2,q2,w2,x3,y3,q3,w3,g4,c4,w4,g5,c5,w5,g6,c6,w6,g7,c7,w7,r1,r2,r3,r4,r5,r6,r7,lw3,lw4,lw5,lw6,lw7,hp⟩:=my hs h7.out.1 h7.out.2;have HP:=show Hid _ from eH HZ.out h4 hp;have a3:=qa lw3 (j:=1) rfl;have a4:=qa lw4 (j:=1) rfl;have b4:=qa lw4 (j:=2) rfl;have a5:=qa lw5 (j:=2) rfl;have a6:=qa lw6 (j:=2) rfl;have a7:=qa lw7 (j:=2) rfl;have z4:=qd lw4 1;have z5:=qd lw5 2;have z6:=qd lw6 2;have z7:=qd lw7 2;clear hp hs lw3 lw4 lw5 lw6 lw7 hr h5 h4 HT
    go_wp2_with(first|(at_builtin;refine qo rfl (.tmp 25) (.tmp 27) 28 rfl _ _ _ rfl rfl r1 ?_)|(at_builtin;refine qo rfl (.tmp 29) (.tmp 32) 28 rfl _ _ _ rfl rfl r2 ?_)|(at_builtin;refine qo rfl (.tmp 34) (.tmp 38) 28 rfl _ _ _ rfl rfl r3 ?_)|(at_builtin;refine qo rfl (.tmp 44) (.tmp 46) 59 rfl _ _ _ rfl rfl r4 ?_)|(at_builtin;refine qo rfl (.tmp 54) (.tmp 56) 59 rfl _ _ _ rfl rfl r5 ?_)|(at_builtin;refine qo rfl (.tmp 64) (.tmp 66) 59 rfl _ _ _ rfl rfl r6 ?_)|(at_builtin;refine qo rfl (.tmp 74) (.tmp 76) 59 rfl _ _ _ rfl rfl r7 ?_))
    go_end0
    exact⟨rfl,HP.out⟩
