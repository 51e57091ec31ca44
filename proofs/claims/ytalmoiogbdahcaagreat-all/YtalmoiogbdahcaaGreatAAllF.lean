import Derived.Test.YtalmoiogbdahcaaGreatADskN
open Go.Proofs.Tryz
namespace Go.Proofs.YtalmoiogbdahcaaGreat
set_option maxRecDepth 100000
set_option maxHeartbeats 8000000
open Go.RowKit Go.Shelf
variable{D:Dk}{g:Gq}{xs:List BA}
variable{B b i wb:Nat}{D':Dk}{gs:List Gq}{q:Ql}{qs:List Ql}{r:Rg}{w:World}
variable{j:Nat}
def Y3(xs:List BA)(mr:Nat)(R:Nat->Prop)(db:Nat)(Q O:Nat->Prop)(D:Dk)(t:Tk)(wb:Nat)(w w':World):Prop:=
 Frm Q w w'/\ ∃Q' tv' ls',DkAt xs mr R db Q' (pO D t) tv' wb ls' w'/\ ∀k,Q' k->Q k\/O k\/(w.heap.size<=k/\k<w'.heap.size)
variable{O Q R:Nat->Prop}{db mr wkb:Nat}{ls:List Rl}{met:List Nod}{t:Tk}{tv:Value}
theorem QZ(h:DkAt xs mr R db Q D tv wb ls w)(hl:D.rs.length<30)(hT:TkNew xs mr R Q O wkb met t w):
  Calls prog 108 #[.pointer (some ⟨w.heap.size+1,0,none⟩),.int .i64 D.clock] ((w.alloc (.cells (tkL t wkb).toArray 115)).alloc (.cells (rqL (uC t) (.slice none 0 0) (.pointer (some ⟨w.heap.size,0,none⟩))).toArray 161)) λe w3=>e=.returned (.tuple #[])/\w3.cell? ⟨db,2,none⟩=some tv/\
   ∃o c w5,(Builtin.append_ #[155,155] 155 #[tv,.slice (some ⟨w3.heap.size,0,none⟩) 1 1]).run prog (w3.alloc (.cells #[.pointer (some ⟨w.heap.size+1,0,none⟩)] 158))=.ok (.slice o (D.rs.length+1) c) w5/\w5.cell? ⟨db,2,none⟩=some tv/\w5.frozen? ⟨db,2,none⟩=false/\(w5.setCell ⟨db,2,none⟩ (.slice o (D.rs.length+1) c)).cell? ⟨db,2,none⟩=some (.slice o (D.rs.length+1) c)/\Hid (Y3 xs mr R db Q O D t wb w (w5.setCell ⟨db,2,none⟩ (.slice o (D.rs.length+1) c))):=by
 have hO:=hT.wk.lt;have hj:=hT.rq;have hf:Below w.heap.size w ((w.alloc (.cells (tkL t wkb).toArray 115)).alloc (.cells (rqL (uC t) (.slice none 0 0) (.pointer (some ⟨w.heap.size,0,none⟩))).toArray 161)):=bl;refine(lj hj D.clock).mono ?_;rintro e w3 ⟨rfl,h4,hp,tp',h6⟩;have hq:w.heap.size+2<=w3.heap.size:=by have:=h6.lt (w.heap.size+1) (Or.inr (Or.inr rfl));omega
 have hd:Below w.heap.size w w3:=hf.trans ⟨h4.os,h4.tape,h4.output,h4.size,λk hk=>h4.block k (Ug hk hf.size) (by omega)⟩
 have h5:=h.below hd;have hb:ls.length<=100000000:=by rw[h.len];omega
 obtain⟨v',w5,h3,h2,h7,h9⟩:=pr underlying155 Tryz.infoReq rfl (by decide) (by decide) w3 0 tv ls.length (ls.map rlV) [.pointer (some ⟨w.heap.size+1,0,none⟩)] rfl (by intro u hu;simp at hu;rw[hu];rfl) h5.row (Um _) hb
 obtain⟨o,c,rfl⟩:=qz h2;have hn: ∀k,tv.ownBlock=some k->k≠db:=by
  intro k hk e;obtain⟨-,-,cur,h1⟩:=qf h.row k hk;rw[e,h.blk]at h1;injection h1 with h1;injection h1 with _ h1;revert h1;decide
 have hc:w5.heap[db]?=w3.heap[db]?:=h7.block db (qc h5.blk) λe=>hn db e.symm rfl;have h0:=hc.trans h5.blk;have h8:ls.length+1=D.rs.length+1:=by rw[h.len]
 rw[h8]at h3;refine⟨rfl,qa h5.blk (j:=2) rfl,o,c,w5,h3,qa h0 (j:=2) rfl,qd h0 2,qa (qL h0 2 _) (j:=2) rfl,?_⟩;have ha:Frm (λk=>k=db\/tv.ownBlock=some k) w (w5.setCell ⟨db,2,none⟩ (.slice o (D.rs.length+1) c)):=by
  refine((Frm.of_below hd).trans (Frm.of_grown (X:=λk=>tv.ownBlock=some k) h7 λk e=>e) λj _ e=>Or.inr e).trans (zu _ _ _ _) λj _ e=>Or.inl e
 have hm:=yG w5 ⟨db,2,none⟩ (.slice o (D.rs.length+1) c);have ho: ∀k,(O k\/k=w.heap.size\/k=w.heap.size+1)-> ¬Q k:=by
  intro k e q;have:=h.lt k q;rcases e with e|e|e
  ·exact hT.oq k e q
  ·omega
  ·omega
 have hi:RqAt xs mr (w.heap.size+1) (λk=>O k\/k=w.heap.size\/k=w.heap.size+1) (xF D.clock (uC t)) (.slice none 0 0) tp' (w5.setCell ⟨db,2,none⟩ (.slice o (D.rs.length+1) c)):=by
  refine h6.keep (by rw[hm];exact h7.size) (λk hk=>?_) (h.ru.frm ha λk hk e=>?_).now
  ·have he:=ho k hk
   have h1:(w5.setCell ⟨db,2,none⟩ (.slice o (D.rs.length+1) c)).heap[k]?=w5.heap[k]?:=Ot _ _ _ _ (λe=>he (e▸h.dQ));exact h1.trans (h7.block k (h6.lt k hk) λe=>he (h.tQ k e.symm))
  ·rcases e with e|e
   ·exact h.rq k hk (e▸h.dQ)
   ·exact h.rq k hk (h.tQ k e)
 have key:=h.take (w':=w5.setCell ⟨db,2,none⟩ (.slice o (D.rs.length+1) c)) (O:=O) (λk e=>⟨hO k e,hT.oq k e,λr=>hT.ro k r e⟩) (P:=λk=>O k\/k=w.heap.size\/k=w.heap.size+1) (λk e=>by
  rcases e with e|e|e
  ·exact Or.inl e
  ·exact Or.inr (by omega)
  ·exact Or.inr (by omega)) hi hl ha (qL h0 2 _) (by
   rw[←h8];exact qF h2 λg hg=>Ot _ _ _ _ (by
    intro e;obtain⟨-,-,cur,h1⟩:=qf h2 g hg;have e:g=db:=e;rw[e,h0]at h1;injection h1 with h1;injection h1 with _ h1;revert h1;decide)) (λk hk=>by
   rcases h9 k (by rw[h8];exact hk)with e|e
   ·exact Or.inl e
   ·refine Or.inr ⟨by omega,λp=>?_⟩
    have:=h6.lt k p;omega)
 exact⟨ha.mono λk _ e=>by
  rcases e with e|e
  ·rw[e];exact h.dQ
  ·exact h.tQ k e,_,_,_,key,λk e=>e⟩
theorem Q0(h:DkAt xs mr R db Q D tv wb ls w)(hl:D.rs.length<30)(hT:TkNew xs mr R Q O wkb met t w):
  Calls prog 59 #[.pointer (some ⟨db,0,none⟩),.agg #[.string t.x.k,.string t.x.n,.string t.x.r,.string t.y.k,.string t.y.n,.string t.y.r,.pointer (some ⟨wkb,0,none⟩),.int .i64 t.bud,.int .i64 t.til]] w λe w'=>e=.returned (.int .i64 ((D.rs.length+1:Nat):Int))/\Y3 xs mr R db Q O D t wb w w':=by
 have HC:Hid _:=QZ h hl hT;have d1:=qa h.blk (j:=1) rfl;have h5:=qc h.blk;have h3:=λo=>qa (qG h.blk o) (j:=1) rfl;have h4:=λo o'=>qa (qG (qG h.blk o) o') (j:=1) rfl;obtain⟨tx,tc,h2⟩:=qz h.row;have h0:=h.len;rw[h2,h0]at HC;generalize Y3 xs mr R db Q O D t wb w=PP at *;unfold tkL rqL uC at HC;generalize t.x=x at *;generalize t.y=y at *;generalize t.bud=bud at *;generalize t.til=til at *;generalize D.clock=clock at *;generalize D.rs.length=N at *;clear h hT h2 h0;go_enter func59,ntmps59
 go_wp2_with(first|(go_at_call 108;refine(Calls.mono HC.out) ?_;rintro e w3 ⟨rfl,k2,o,c,w5,h1,k5,z5,k6,HP⟩)|(at_builtin;refine qo rfl (.tmp 19) (.tmp 21) 155 rfl _ _ _ rfl rfl h1 ?_))
 go_ret;exact⟨rfl,HP.out⟩
theorem Tryz.infoRq:(prog.info? 212).map (λi=>(i.zero,i.size,i.bytes))=some (some (.pointer none),1,8):=by kernel_rfl
def Q1(B b:Nat)(r:Rg)(D:Dk)(gs:List Gq)(qs:List Ql)(g:Gq)(wb:Nat)(w w':World):Prop:=
 Frm (λk=>k=b\/r.reqV.ownBlock=some k) w w'/\ ∃v qs',QsAt B b {r with reqV:=v} (pO D g.t) (gs++[g]) qs' wb w'/\(∀q∈qs',q∈qs\/(w.heap.size<=q.b/\q.nv=r.nowV))/\ ∀k,v.ownBlock=some k->r.reqV.ownBlock=some k\/w.heap.size<=k
variable{w2:World}
theorem KI(h:QsAt B b r D gs qs wb w)(hg:gs.length=D.rs.length)(hl:D.rs.length<30)(hB:B<=w.heap.size)(hc:Below w.heap.size w w2)(ho:w.heap.size<=q.b)(hr:q.nv=r.nowV)(hq:w2.heap[q.b]?=some (.cells (dqL (xF D.clock (uC g.t)) g q.nv).toArray 211 (0,0)))(hp:zH w2 q.nv g.t.now):
  ∃o c w5,(Builtin.append_ #[122,122] 122 #[r.reqV,.slice (some ⟨w2.heap.size,0,none⟩) 1 1]).run prog (w2.alloc (.cells #[.pointer (some ⟨q.b,0,none⟩)] 212))=.ok (.slice o (D.rs.length+1) c) w5/\w5.cell? ⟨b,6,none⟩=some r.reqV/\w5.frozen? ⟨b,6,none⟩=false/\(w5.setCell ⟨b,6,none⟩ (.slice o (D.rs.length+1) c)).cell? ⟨b,6,none⟩=some (.slice o (D.rs.length+1) c)/\Hid (Q1 B b r D gs qs g wb w (w5.setCell ⟨b,6,none⟩ (.slice o (D.rs.length+1) c))):=by
 have h2:=h.below hc;have hi:qs.length<=100000000:=by rw[h.len];omega
 obtain⟨v',w5,ha,h7,hm,he⟩:=pr underlying122 Tryz.infoRq rfl (by decide) (by decide) w2 B r.reqV qs.length (qs.map qlV) [.pointer (some ⟨q.b,0,none⟩)] rfl (by intro u hu;simp at hu;rw[hu];rfl) h2.row (Ue hB hc.size) hi
 obtain⟨o,c,rfl⟩:=qz h7;have hs: ∀k,r.reqV.ownBlock=some k-> ∃cur:List Value,w2.heap[k]?=some (.cells cur.toArray 212 (0,0)):=by
  intro k hk;obtain⟨-,-,cur,e⟩:=qf h2.row k hk;exact⟨cur.toList,by rw[Oo];exact e⟩
 have hb: ∀(k:Nat) (cs:List Value) (t:TypeId),w2.heap[k]?=some (.cells cs.toArray t (0,0))->t≠212->w5.heap[k]?=some (.cells cs.toArray t (0,0)):=by
  intro k cs t hk ht;refine(hm.block k (qc hk) λe=>?_).trans hk;obtain⟨cur,e2⟩:=hs k e.symm;exact qV hk e2 ht rfl
 have h0: ∀(k:Nat) (cs:List Value) (t:TypeId),w2.heap[k]?=some (.cells cs.toArray t (0,0))->t≠212->t≠124->(w5.setCell ⟨b,6,none⟩ (.slice o (D.rs.length+1) c)).heap[k]?=some (.cells cs.toArray t (0,0)):=by
  intro k cs t hk ht hz;have hf:w2.heap[b]?=_:=h2.rg;exact(Ot _ _ _ _ (show k≠b from qV hk hf hz)).trans (hb k cs t hk ht)
 have h9: ∀v xs,zH w2 v xs->zH (w5.setCell ⟨b,6,none⟩ (.slice o (D.rs.length+1) c)) v xs:=λv xs hv=>xJ hv λk hk=>by
  obtain⟨-,cur,e⟩:=zG hv k hk;rw[h0 k cur _ e (by decide) (by decide),e]
 have h3:xX w5 b r:=hb b _ _ h2.rg (by decide)
 have hd:qs.length+1=D.rs.length+1:=by rw[h.len]
 rw[hd]at ha;refine⟨o,c,w5,ha,qa h3 (j:=6) rfl,qd h3 6,qa (qL h3 6 _) (j:=6) rfl,?_,.slice o (D.rs.length+1) c,qs++[q],?_,λq' h5=>?_,λk hk=>?_⟩
 ·exact((Frm.of_below hc).trans (Frm.of_grown (X:=λk=>r.reqV.ownBlock=some k) hm λk e=>e) λj _ e=>Or.inr e).trans (zu _ _ _ _) λj _ e=>Or.inl e
 ·have h4:(pO D g.t).rs=D.rs++[xF D.clock (uC g.t)]:=rfl
  refine{rg:=qL h3 6 _,clock:=h.clock,queue:=h.queue,row:=?_,wv:=h.wv,wrow:=h0 _ _ _ h2.wrow (by decide) (by decide),len:=(by rw[OK,h4,OK,h.len];rfl),at':=λj q' x g' h5 h6 h8=>?_,nd:=λi j q1 q2 h1 hn e=>?_,qB:=λq' h5=>?_,wB:=h.wB,w4:=h.w4,n30:=(by rw[h4,OK];show D.rs.length+1<=30;omega)}
  ·rw[OK,OR]
   show(w5.setCell ⟨b,6,none⟩ (.slice o (D.rs.length+1) c)).ownsRow B _ 1 (.slice o (D.rs.length+1) c) (qs.length+1) _
   rw[←hd];exact qF h7 λk hk=>Ot _ _ _ _ (by
    obtain⟨-,-,cur,e⟩:=qf h7 k hk;rw[←Oo (xs:=cur)]at e;exact qV e h3 (by decide))
  ·rw[h4]at h6
   rcases Nat.lt_trichotomy j D.rs.length with e|e|e
   ·rw[Oz (by rw[h.len];exact e)]at h5
    rw[Oz e]at h6;rw[Oz (by rw[hg];exact e)]at h8
    obtain⟨a1,a2⟩:=h2.at' j q' x g' h5 h6 h8;exact⟨h0 _ _ _ a1 (by decide) (by decide),h9 _ _ a2⟩
   ·have e1:(qs++[q])[j]?=some q:=by rw[e,←h.len];simp
    have e2:(D.rs++[xF D.clock (uC g.t)])[j]?=some (xF D.clock (uC g.t)):=by rw[e];simp
    have e3:(gs++[g])[j]?=some g:=by rw[e,←hg];simp
    rw[e1]at h5;rw[e2]at h6;rw[e3]at h8;injection h5 with h5;injection h6 with h6;injection h8 with h8;subst h5 h6 h8;exact⟨h0 _ _ _ hq (by decide) (by decide),h9 _ _ hp⟩
   ·have:=(OE.1 h6).1
    rw[OK]at this;simp at this;omega
  ·have hj: ∀(i:Nat) (q1:Ql),(qs++[q])[i]?=some q1->(i<qs.length/\qs[i]?=some q1/\q1.b<w.heap.size)\/(i=qs.length/\q1=q):=by
    intro i q1 h1;rcases Nat.lt_trichotomy i qs.length with e|e|e
    ·rw[Oz e]at h1
     obtain⟨x,hx⟩: ∃x,D.rs[i]?=some x:=⟨_,OC (by rw[←h.len];exact e)⟩
     obtain⟨g1,hy⟩: ∃x,gs[i]?=some x:=⟨_,OC (by rw[hg,←h.len];exact e)⟩
     exact Or.inl ⟨e,h1,qc (h.at' i q1 x g1 h1 hx hy).1⟩
    ·subst e
     rw[show(qs++[q])[qs.length]?=some q by simp]at h1
     injection h1 with h1;exact Or.inr ⟨rfl,h1.symm⟩
    ·have:=(OE.1 h1).1
     simp at this;omega
   rcases hj i q1 h1 with⟨a1,a2,a3⟩|⟨a1,a2⟩<;>rcases hj j q2 hn with⟨b1,b2,b3⟩|⟨b1,b2⟩
   ·exact h.nd i j q1 q2 a2 b2 e
   ·rw[b2]at e;omega
   ·rw[a2]at e;omega
   ·omega
  ·rcases OS.1 h5 with e|e
   ·exact h.qB q' e
   ·rw[O3]at e
    rw[e];omega
 ·rcases OS.1 h5 with e|e
  ·exact Or.inl e
  ·rw[O3]at e
   rw[e];exact Or.inr ⟨ho,hr⟩
 ·rcases he k (by rw[hd];exact hk)with e|e
  ·exact Or.inl e
  ·have:=hc.size
   exact Or.inr (by omega)
def smN(x:Nod):Prop:=x.k.size<=1000/\x.n.size<=1000/\x.r.size<=1000
def oe(x:Nod):List Value:=[.string x.k,.string x.n,.string x.r]
def aA:List Value:=[.string {data:= #[]},.string {data:= #[]},.string {data:= #[]}]
theorem gX(x:Nod)(hx:smN x)(w:World):Calls prog 109 #[.agg #[.string x.k,.string x.n,.string x.r]] w λe w'=>e=.returned (.agg #[.string x.k,.string x.n,.string x.r])/\Below w.heap.size w w':=by
 obtain⟨h1,h2,h3⟩:=hx;have h7:Below w.heap.size w ((w.alloc (.cells (oe x).toArray 75)).alloc (.cells aA.toArray 75)):=bl;have h5:((w.alloc (.cells (oe x).toArray 75)).alloc (.cells aA.toArray 75)).heap[w.heap.size]?=some (.cells (oe x).toArray 75 (0,0)):=qG (qn w (oe x) _) _;have h6:((w.alloc (.cells (oe x).toArray 75)).alloc (.cells aA.toArray 75)).heap[w.heap.size+1]?=some (.cells aA.toArray 75 (0,0)):=by
  have h1:=qn (w.alloc (.cells (oe x).toArray 75)) aA 75;have e:(w.alloc (.cells (oe x).toArray 75)).heap.size=w.heap.size+1:=by show(w.heap.push _).size=_;simp
  rw[e]at h1;exact h1
 obtain⟨w0,h9⟩: ∃w0,((w.alloc (.cells (oe x).toArray 75)).alloc (.cells aA.toArray 75))=w0:=⟨_,rfl⟩;rw[h9]at h7 h5 h6;have HC:Hid (∀w1,Below w0.heap.size w0 w1->w1.cell? ⟨w.heap.size,0,none⟩=some (.string x.k)/\w1.cell? ⟨w.heap.size,1,none⟩=some (.string x.n)/\w1.cell? ⟨w.heap.size,2,none⟩=some (.string x.r)/\w1.cell? ⟨w.heap.size+1,0,none⟩=some (.string {data:= #[]})/\w1.cell? ⟨w.heap.size+1,1,none⟩=some (.string {data:= #[]})/\w1.cell? ⟨w.heap.size+1,2,none⟩=some (.string {data:= #[]})/\w1.frozen? ⟨w.heap.size+1,0,none⟩=false/\w1.frozen? ⟨w.heap.size+1,1,none⟩=false/\w1.frozen? ⟨w.heap.size+1,2,none⟩=false):=by
  intro w1 h0;have ha:=(h0.block _ (qc h5)).trans h5;have h4:=(h0.block _ (qc h6)).trans h6;exact⟨qa ha (j:=0) rfl,qa ha (j:=1) rfl,qa ha (j:=2) rfl,qa h4 (j:=0) rfl,qa h4 (j:=1) rfl,qa h4 (j:=2) rfl,qd h4 0,qd h4 1,qd h4 2⟩
 have h8:Hid (∀(s:BA) (w1:World),s.size<=1000->Below w0.heap.size w0 w1->Calls prog 102 #[.string s] w1 λe w'=>e=.returned (.string s)/\Below w0.heap.size w0 w'):=by
  intro s w1 hs h0;refine(jU s w1 (by omega)).mono ?_
  rintro e w' ⟨he,hb⟩;exact⟨he,h0.trans (hb.mono h0.size)⟩
 have HK:Hid (∀w1,Below w0.heap.size w0 w1->Calls prog 102 #[.string x.k] w1 λe w2=>e=.returned (.string x.k)/\w2.cell? ⟨w.heap.size,1,none⟩=some (.string x.n)/\w2.cell? ⟨w.heap.size,2,none⟩=some (.string x.r)/\Hid (Calls prog 102 #[.string x.n] w2 λe w3=>e=.returned (.string x.n)/\w3.cell? ⟨w.heap.size,2,none⟩=some (.string x.r)/\Hid (Calls prog 102 #[.string x.r] w3 λe w4=>e=.returned (.string x.r)/\w4.cell? ⟨w.heap.size+1,0,none⟩=some (.string {data:= #[]})/\w4.cell? ⟨w.heap.size+1,1,none⟩=some (.string {data:= #[]})/\w4.cell? ⟨w.heap.size+1,2,none⟩=some (.string {data:= #[]})/\w4.frozen? ⟨w.heap.size+1,0,none⟩=false/\w4.frozen? ⟨w.heap.size+1,1,none⟩=false/\w4.frozen? ⟨w.heap.size+1,2,none⟩=false/\Hid (Below w.heap.size w w4)))):=by
  intro w1 h0;refine(h8.out x.k w1 h1 h0).mono ?_;rintro e w2 ⟨hj,hf⟩;obtain⟨-,m1,m2,-⟩:=HC.out w2 hf;refine⟨hj,m1,m2,?_⟩;refine(h8.out x.n w2 h2 hf).mono ?_;rintro e w3 ⟨hi,hc⟩;obtain⟨-,-,m2,-⟩:=HC.out w3 hc;refine⟨hi,m2,?_⟩;refine(h8.out x.r w3 h3 hc).mono ?_;rintro e w4 ⟨hk,hd⟩;obtain⟨-,-,-,p0,p1,p2,z0,z1,z2⟩:=HC.out w4 hd;exact⟨hk,p0,p1,p2,z0,z1,z2,h7.trans (hd.mono h7.size)⟩
 obtain⟨l0,l1,l2,-⟩:=HC.out w0 (Ou _ _);have hg:((w.alloc (.cells #[.string x.k,.string x.n,.string x.r] 75)).alloc (.cells #[.string {data:= #[]},.string {data:= #[]},.string {data:= #[]}] 75))=w0:=h9;clear h9 h7 h5 h6 HC h8;generalize x.k=k at *;generalize x.n=n at *;generalize x.r=r at *;go_enter func109,ntmps109;go_wp2;clear hg
 go_region_with(first|(go_at_call 102;refine(HK.out _ bl).mono ?_;rintro e w2 ⟨rfl,m1,m2,HN⟩;clear HK l0 l1 l2)|(go_at_call 102;refine(Calls.mono HN.out) ?_;rintro e w3 ⟨rfl,m3,HR⟩;clear HN m1 m2)|(go_at_call 102;refine(Calls.mono HR.out) ?_;rintro e w4 ⟨rfl,p0,p1,p2,z0,z1,z2,HB⟩;clear HR m3))
 all_goals go_wp2
 all_goals
  refine bodyPost_ret (v:=.agg #[.string k,.string n,.string r]) (by simp[results,results109,go_sem,p0,p1,p2]) rfl ⟨rfl,?_⟩
  exact((HB.out.setCell (by show w.heap.size<=w.heap.size+1;omega) _).setCell (by show w.heap.size<=w.heap.size+1;omega) _).setCell (by show w.heap.size<=w.heap.size+1;omega) _
theorem og(s:BA)(h: ∀w1,Below w.heap.size w w1->Calls prog 47 #[.pointer (some ⟨b,0,none⟩),.agg #[.string (qj s).k,.string (qj s).n,.string (qj s).r]] w1 λe w'=>e=.returned (.bool (x8 xs (qj s)))/\Below w1.heap.size w1 w')(hs:s.size<=maxLen):
  Calls prog 41 #[.pointer (some ⟨b,0,none⟩),.string s] w λe w'=>e=.returned (.tuple #[vk xs s,.int .i64 (zS xs s)])/\Below w.heap.size w w':=by
 have h5:=λw1=>vC s w1 hs;cases hok:zP s
 ·rw[hok,cP hok]at h5
  have HV:Hid (vk xs s=jK/\zS xs s=4):=by
   have e:zS xs s=4:=if_pos hok;refine⟨?_,e⟩;unfold vk;rw[e];exact if_neg (by decide)
  obtain⟨v1,v2⟩:=HV.out;rw[v1,v2];unfold jK;clear h hs hok HV v1 v2;go_enter func41,ntmps41
  go_wp2_with(go_at_call 45;refine(h5 _).mono ?_;rintro e w1 ⟨rfl,h0⟩;have h8:w.heap.size<w1.heap.size:=(by have:=h0.size;simp at this;omega);have h4:=λo=>h0.cell (p:=⟨w.heap.size,o,none⟩) (by simp);have h9:=λo=>h0.frozen (p:=⟨w.heap.size,o,none⟩) (by simp);have ha: ¬w.heap.size=w1.heap.size:=(by omega);have hb: ¬w1.heap.size=w.heap.size:=(by omega))
  have h1:Below w.heap.size w w1:=((Ou w.heap.size w).alloc (Uc _) _).trans (h0.mono (by simp))
  refine bodyPost_ret (v:=.tuple #[.agg #[.string qk,.string qk,.string qk,.string qk,.string qk,.string qk],.int .i64 4]) (by simp[results,results41,go_sem,h4,h8,qk]) rfl ⟨rfl,?_⟩
  refine Below.alloc ?_ (by simp;omega) _
  refine Below.setCell ?_ (by simp) _
  refine Below.setCell ?_ (by simp) _
  refine Below.setCell ?_ (by simp) _
  refine Below.setCell ?_ (by simp) _
  refine Below.setCell ?_ (by simp) _
  refine Below.setCell ?_ (by simp) _
  exact h1
 ·rw[hok,kH hok]at h5
  have h6:Hid (∀w1,Below w.heap.size w w1->Calls prog 47 #[.pointer (some ⟨b,0,none⟩),.agg #[.string (qj s).k,.string (qj s).n,.string (qj s).r]] w1 λe w'=>e=.returned (.bool (x8 xs (qj s)))/\Below w1.heap.size w1 w'):=h;cases hr:x8 xs (qj s)
  ·rw[hr]at h6
   have HV:Hid (vk xs s=jK/\zS xs s=5):=by
    have e:zS xs s=5:=by unfold zS;rw[hok,hr];rfl
    refine⟨?_,e⟩;unfold vk;rw[e];exact if_neg (by decide)
   obtain⟨v1,v2⟩:=HV.out;rw[v1,v2];unfold jK;clear h;generalize qj s=x at *;generalize qK s=y at *;clear hs hok HV v1 v2 hr;go_enter func41,ntmps41
   go_wp2_with(first|(go_at_call 45;refine(h5 _).mono ?_;rintro e w1 ⟨rfl,h0⟩;have h8:w.heap.size<w1.heap.size:=(by have:=h0.size;simp at this;omega);have ha: ¬w.heap.size=w1.heap.size:=(by omega);have hb: ¬w1.heap.size=w.heap.size:=(by omega);have h1:Below w.heap.size w w1:=((Ou w.heap.size w).alloc (Uc _) _).trans (h0.mono (by simp)))|(go_at_call 47;refine(h6.out _ (h1.alloc h1.size _)).mono ?_;rintro e w2 ⟨rfl,h3⟩;have hc:w.heap.size<w2.heap.size:=(by have:=h3.size;simp at this;omega);have h2:Below (w.heap.size+1) _ w2:=((h0.mono (by simp)).trans ((((Ou (w.heap.size+1) w1).alloc (by omega) _).trans (h3.mono (by simp;omega)))));have h4:=λo=>h2.cell (p:=⟨w.heap.size,o,none⟩) (by simp);have h9:=λo=>h2.frozen (p:=⟨w.heap.size,o,none⟩) (by simp)))
   have h7:Below w.heap.size w w2:=(h1.alloc h1.size _).trans (h3.mono (by simp;omega))
   refine bodyPost_ret (v:=.tuple #[.agg #[.string qk,.string qk,.string qk,.string qk,.string qk,.string qk],.int .i64 5]) (by simp[results,results41,go_sem,h4,qk]) rfl ⟨rfl,?_⟩
   refine Below.setCell ?_ (by simp) _
   refine Below.setCell ?_ (by simp) _
   refine Below.setCell ?_ (by simp) _
   refine Below.setCell ?_ (by simp) _
   refine Below.setCell ?_ (by simp) _
   refine Below.setCell ?_ (by simp) _
   exact h7
  ·rw[hr]at h6
   have HV:Hid (vk xs s=.agg #[.string (qj s).k,.string (qj s).n,.string (qj s).r,.string (qK s).k,.string (qK s).n,.string (qK s).r]/\zS xs s=0):=by
    have e:zS xs s=0:=by unfold zS;rw[hok,hr];rfl
    refine⟨?_,e⟩;unfold vk;rw[e];exact if_pos rfl
   obtain⟨v1,v2⟩:=HV.out;rw[v1,v2];clear HV v1 v2 h;generalize qj s=x at *;generalize qK s=y at *;clear hs hok hr;go_enter func41,ntmps41
   go_wp2_with(first|(go_at_call 45;refine(h5 _).mono ?_;rintro e w1 ⟨rfl,h0⟩;have h8:w.heap.size<w1.heap.size:=(by have:=h0.size;simp at this;omega);have ha: ¬w.heap.size=w1.heap.size:=(by omega);have hb: ¬w1.heap.size=w.heap.size:=(by omega);have h1:Below w.heap.size w w1:=((Ou w.heap.size w).alloc (Uc _) _).trans (h0.mono (by simp)))|(go_at_call 47;refine(h6.out _ (h1.alloc h1.size _)).mono ?_;rintro e w2 ⟨rfl,h3⟩;have hc:w.heap.size<w2.heap.size:=(by have:=h3.size;simp at this;omega);have h2:Below (w.heap.size+1) _ w2:=((h0.mono (by simp)).trans ((((Ou (w.heap.size+1) w1).alloc (by omega) _).trans (h3.mono (by simp;omega)))));have h4:=λo=>h2.cell (p:=⟨w.heap.size,o,none⟩) (by simp);have h9:=λo=>h2.frozen (p:=⟨w.heap.size,o,none⟩) (by simp);have hd:=λo=>h3.cell (p:=⟨w1.heap.size,o,none⟩) (by simp)))
   have h7:Below w.heap.size w w2:=(h1.alloc h1.size _).trans (h3.mono (by simp;omega))
   refine bodyPost_ret (v:=.tuple #[.agg #[.string x.k,.string x.n,.string x.r,.string y.k,.string y.n,.string y.r],.int .i64 0]) (by simp[results,results41,go_sem,h4]) rfl ⟨rfl,?_⟩
   refine Below.setCell ?_ (by simp) _
   refine Below.setCell ?_ (by simp) _
   refine Below.setCell ?_ (by simp) _
   refine Below.setCell ?_ (by simp) _
   refine Below.setCell ?_ (by simp) _
   refine Below.setCell ?_ (by simp) _
   exact h7
def cd:List Value:=[.string {data:= #[]},.string {data:= #[]},.string {data:= #[]},.string {data:= #[]},.string {data:= #[]},.string {data:= #[]}]
theorem Xv{s:BA}(h:zP s=true):smN (qj s)/\smN (qK s):=by
 obtain⟨k,n,r,hk,hn,hr,hx⟩:=om s h;have a1:=qQ hk;have a2:=qQ hn;have a3:=qQ hr;have hX:qj s=⟨mk k,mk n,mk r⟩:=by
  rcases hx with ht|⟨k2,n2,h0,h1,ht⟩
  ·exact(oo hk hn hr ht).2.2.1
  ·exact(d9 hk hn hr h0 h1 ht).2.2.1
 refine⟨?_,?_⟩
 ·rw[hX];exact⟨by show(mk k).size<=_;rw[zE];omega,by show(mk n).size<=_;rw[zE];omega,by show(mk r).size<=_;rw[zE];omega⟩
 ·rcases hx with ht|⟨k2,n2,h0,h1,ht⟩
  ·have hs:qK s=⟨qk,qk,qk⟩:=(oo hk hn hr ht).2.2.2
   rw[hs];exact⟨by show(0:Nat)<=_;omega,by show(0:Nat)<=_;omega,by show(0:Nat)<=_;omega⟩
  ·have a4:=qQ h0
   have a5:=qQ h1;have hs:=(d9 hk hn hr h0 h1 ht).2.2.2;rw[hs];exact⟨by show(mk k2).size<=_;rw[zE];omega,by show(mk n2).size<=_;rw[zE];omega,by show(0:Nat)<=_;omega⟩
theorem nT(x y:Nod)(hx:smN x)(hy:smN y)(w:World):Calls prog 61 #[.agg #[.string x.k,.string x.n,.string x.r,.string y.k,.string y.n,.string y.r]] w λe w'=>e=.returned (.agg #[.string x.k,.string x.n,.string x.r,.string y.k,.string y.n,.string y.r])/\Below w.heap.size w w':=by
 have h5:Below w.heap.size w ((w.alloc (.cells (ya x y).toArray 77)).alloc (.cells cd.toArray 77)):=bl;have h0:((w.alloc (.cells (ya x y).toArray 77)).alloc (.cells cd.toArray 77)).heap[w.heap.size]?=some (.cells (ya x y).toArray 77 (0,0)):=qG (qn w (ya x y) _) _;have h4:((w.alloc (.cells (ya x y).toArray 77)).alloc (.cells cd.toArray 77)).heap[w.heap.size+1]?=some (.cells cd.toArray 77 (0,0)):=by
  have h1:=qn (w.alloc (.cells (ya x y).toArray 77)) cd 77;have e:(w.alloc (.cells (ya x y).toArray 77)).heap.size=w.heap.size+1:=by show(w.heap.push _).size=_;simp
  rw[e]at h1;exact h1
 obtain⟨w0,h6⟩: ∃w0,((w.alloc (.cells (ya x y).toArray 77)).alloc (.cells cd.toArray 77))=w0:=⟨_,rfl⟩;rw[h6]at h5 h0 h4;have HK:Hid (∀w1,Below w0.heap.size w0 w1->Calls prog 109 #[.agg #[.string x.k,.string x.n,.string x.r]] w1 λe w2=>e=.returned (.agg #[.string x.k,.string x.n,.string x.r])/\w2.cell? ⟨w.heap.size,3,none⟩=some (.string y.k)/\w2.cell? ⟨w.heap.size,4,none⟩=some (.string y.n)/\w2.cell? ⟨w.heap.size,5,none⟩=some (.string y.r)/\Hid (Calls prog 109 #[.agg #[.string y.k,.string y.n,.string y.r]] w2 λe w3=>e=.returned (.agg #[.string y.k,.string y.n,.string y.r])/\Hid (w3.heap[w.heap.size+1]?=some (.cells cd.toArray 77 (0,0)))/\Hid (Below w.heap.size w w3))):=by
  intro w1 h8;refine(gX x hx w1).mono ?_;rintro e w2 ⟨hc,hd⟩;have h2:Below w0.heap.size w0 w2:=h8.trans (hd.mono h8.size);have h7:=(h2.block _ (qc h0)).trans h0;refine⟨hc,qa h7 (j:=3) rfl,qa h7 (j:=4) rfl,qa h7 (j:=5) rfl,?_⟩;refine(gX y hy w2).mono ?_;rintro e w3 ⟨hb,ha⟩;have h3:Below w0.heap.size w0 w3:=h2.trans (ha.mono h2.size);exact⟨hb,(h3.block _ (qc h4)).trans h4,h5.trans (h3.mono h5.size)⟩
 have l0:w0.cell? ⟨w.heap.size,0,none⟩=some (.string x.k):=qa h0 (j:=0) rfl;have l1:w0.cell? ⟨w.heap.size,1,none⟩=some (.string x.n):=qa h0 (j:=1) rfl;have l2:w0.cell? ⟨w.heap.size,2,none⟩=some (.string x.r):=qa h0 (j:=2) rfl;have l3:w0.cell? ⟨w.heap.size,3,none⟩=some (.string y.k):=qa h0 (j:=3) rfl;have l4:w0.cell? ⟨w.heap.size,4,none⟩=some (.string y.n):=qa h0 (j:=4) rfl;have l5:w0.cell? ⟨w.heap.size,5,none⟩=some (.string y.r):=qa h0 (j:=5) rfl;have h9:((w.alloc (.cells #[.string x.k,.string x.n,.string x.r,.string y.k,.string y.n,.string y.r] 77)).alloc (.cells #[.string {data:= #[]},.string {data:= #[]},.string {data:= #[]},.string {data:= #[]},.string {data:= #[]},.string {data:= #[]}] 77))=w0:=h6;clear h6 h5 h0 h4 hx hy;go_enter func61,ntmps61;go_wp2;clear h9
 go_region_with(first|(go_at_call 109;refine(HK.out _ bl).mono ?_;rintro e w2 ⟨rfl,m1,m2,m3,HN⟩;clear HK l0 l1 l2 l3 l4 l5)|(go_at_call 109;refine(Calls.mono HN.out) ?_;rintro e w3 ⟨rfl,HR,HB⟩;clear HN m1 m2 m3;have p0:=qa HR.out (j:=0) rfl;have p1:=qa HR.out (j:=1) rfl;have p2:=qa HR.out (j:=2) rfl;have p3:=qa HR.out (j:=3) rfl;have p4:=qa HR.out (j:=4) rfl;have p5:=qa HR.out (j:=5) rfl;have z0:=qd HR.out 0;have z1:=qd HR.out 1;have z2:=qd HR.out 2;have z3:=qd HR.out 3;have z4:=qd HR.out 4;have z5:=qd HR.out 5))
 all_goals go_wp2
 all_goals
  refine bodyPost_ret (v:=.agg #[.string x.k,.string x.n,.string x.r,.string y.k,.string y.n,.string y.r]) (by simp[results,results61,go_sem,p0,p1,p2,p3,p4,p5]) rfl ⟨rfl,?_⟩
  exact(((((HB.out.setCell (by show w.heap.size<=w.heap.size+1;omega) _).setCell (by show w.heap.size<=w.heap.size+1;omega) _).setCell (by show w.heap.size<=w.heap.size+1;omega) _).setCell (by show w.heap.size<=w.heap.size+1;omega) _).setCell (by show w.heap.size<=w.heap.size+1;omega) _).setCell (by show w.heap.size<=w.heap.size+1;omega) _
theorem mV(h:DkAt xs mr R db Q D tv wb ls w):
  Calls prog 58 #[.pointer (some ⟨db,0,none⟩)] w λe w'=>e=.returned (.bool (y9 D))/\Below w.heap.size w w':=by
 have d0:=qa h.blk (j:=0) rfl;have d2:=qa h.blk (j:=2) rfl;obtain⟨tx,tc,h0⟩:=qz h.row;rw[h0,h.len]at d2;have h1:Hid (∀w1,Below w.heap.size w w1->Calls prog 107 #[.pointer (some ⟨db,0,none⟩)] w1 λe w'=>e=.returned (.int .i64 (xA D.rs:Nat))/\w'=w1):=λw1 hb=>t8 (h.below hb);unfold y9;generalize xA D.rs=wn at *;have h3:=h.ok.rl;generalize D.rs.length=N at *;generalize D.qu=qu at *;clear h h0;by_cases hN:30<=N
 ·have hq:decide ((30:Int)<=(N:Nat))=true:=Up (by omega)
  have e1:decide (30<=N)=true:=Up hN;rw[e1,Bool.true_or];clear e1;go_enter func58,ntmps58;go_wp2
  go_region
  all_goals go_wp2
  all_goals go_ret
  all_goals exact⟨rfl,bl⟩
 ·have hq:decide ((30:Int)<=(N:Nat))=false:=Uo (by omega)
  have e1:decide (30<=N)=false:=Uo hN;rw[e1,Bool.false_or];clear e1;go_enter func58,ntmps58;go_wp2
  go_region_with(go_at_call 107;refine(h1.out _ bl).mono ?_;rintro e w1 ⟨rfl,h2⟩;subst w1)
  all_goals go_wp2
  all_goals go_ret
  all_goals exact⟨rfl,bl⟩
structure GPl(U xs now:List BA):Prop where
 tups:TupsOk U now
 uok:UOk U
 cov:Cov U xs
 sz: ∀t∈qt now,t.2.isTh=true->t.2.k.size+1+t.2.n.size<=maxLen
 inj: ∀t∈qt now,∀t'∈qt now,t.2.isTh=true->t'.2.isTh=true->thT t.2=thT t'.2->t.2=t'.2
variable{U now:List BA}
theorem GateQ.pl{g:Pg}(h:GateQ U xs now b g w):GPl U xs now:=⟨h.tups,h.uok,h.cov,h.sz,h.inj⟩
variable{lo mb:Nat}{x:Nod}
theorem GJ(h:GPl U xs now){tb:Nat}{f:Nod->Option Value}{who:Nod->Nat}{L:TL}{S:TS}{w1 w1' w1'':World}(hB:Bld U (qt now) xs lo tb f who L S w1 w1'){nb sb:Nat}{L':TL}{S':TS}{sv:Value}(hN:WNew U (qt now) xs lo tb f who L S w1'' x wb nb mb sb L' S' sv w2)(hm:L'.mb=mr):WkAt xs now x mr (λk=>lo<=k/\k<w2.heap.size) wb [x] 0 w2:=by
 have hu:S'.uss=S.uss:=hN.uss;have h0: ∀u,u∈S'.uss↔u.isTh=true/\ ∃t∈qt now,t.2=u:=by rw[hu];exact hB.us
 refine⟨⟨U,lo,tb,sb,f,who,nb,mb,L',S',sv,hN.wa,hN.wa.inLo hN.low,hm,⟨h.cov,hB.sm,by rw[hu];exact hB.th,hB.no,by rw[hu];exact Ue hB.ul hB.ta.tn,?_,?_,h0⟩⟩,⟨rfl,λy hy=>by rw[O3]at hy;rw[hy];exact Rch.here,λi y hi=>by omega⟩,λk e=>e.2⟩
 ·intro u hu
  obtain⟨h1,t,ht,e⟩:=(h0 u).1 hu;subst e;exact h.sz t ht h1
 ·intro i j u v hi hj e
  obtain⟨h1,t,ht,e1⟩:=(h0 u).1 (OZ hi);obtain⟨h2,t',h3,e2⟩:=(h0 v).1 (OZ hj);subst e1 e2;have:=h.inj t ht t' h3 h1 h2 e;have nd:S'.uss.Nodup:=hN.wa.ta.t.us.nd;rw[this]at hi;exact(List.getElem?_inj (OE.1 hi).1 nd).1 (hi.trans hj.symm)
def jJ(xs now:List BA)(x:Nod)(mr lo:Nat)(w w':World)(wkb:Nat):Prop:=
 Below w.heap.size w w'/\ ∃O:Nat->Prop,WkAt xs now x mr O wkb [x] 0 w'/\ ∀k,O k->lo<=k
variable{w':World}
theorem jJ.low{lo':Nat}(h:jJ xs now x mr lo w w' wkb)(hl:lo'<=lo):jJ xs now x mr lo' w w' wkb:=by
 obtain⟨h1,O,h2,h3⟩:=h;exact⟨h1,O,h2,λk e=>Ue hl (h3 k e)⟩
theorem Y4(h:Frm (λk=>k=b) w w')(i:Nat)(v:Value):Frm (λk=>k=b) w (w'.setCell ⟨b,i,none⟩ v):=by
 have h2:Frm (λk=>k=b) w' (w'.setCell ⟨b,i,none⟩ v):=⟨rfl,rfl,rfl,by simp[World.setCell],λk _ hx=>Ot _ _ _ _ hx⟩
 exact h.trans h2 λ_ _ e=>e
theorem jJ.set{w3 w4:World}(h:jJ xs now x mr lo w w3 wkb)(h1:w.heap.size<=b)(h2:b<lo){cs:List Value}(hr:w3.heap[b]?=some (.cells cs.toArray 115 (0,0)))(hf:Frm (λk=>k=b) w3 w4):jJ xs now x mr lo w w4 wkb:=by
 obtain⟨hb,O,hk,ho⟩:=h;refine⟨hb.trans ⟨hf.os,hf.tape,hf.output,hf.size,λk h0=>hf.block k (Ug h0 hb.size) (by omega)⟩,O,hk.keep hf.size (λk e=>hf.block k (hk.lt k e) (by have:=ho k e;omega)) ?_,ho⟩
 refine hk.rules.move (λGd m hm=>hf.block _ hm.lt λe=>?_) λg cur hg=>hf.block g (qc hg) λe=>?_
 ·obtain⟨es,c,q,-⟩:=hm
  rw[e,hr]at q;injection q with q;cases q
 ·rw[e,hr]at hg;injection hg with hg;injection hg with _ hg;revert hg;decide
theorem Q2(HN:Hid xS)(h:GPl U xs now){w0:World}(h2:Below w.heap.size w w0)(hr:zp w0 mb xs)(ht:zH w0 tv now)(hx:uq x)(h5:x.isTh=false)(h6:x.r∈U):
  Calls prog 84 #[.map (some mb),tv] w0 λe w1=> ∃tb,e=.returned (.pointer (some ⟨tb,0,none⟩))/\Below w0.heap.size w0 w1/\Hid (∀w1',Below w1.heap.size w1 w1'->Calls prog 43 #[.pointer (some ⟨tb,0,none⟩),.agg #[.string x.k,.string x.n,.string x.r]] w1' λe w2=> ∃wb,e=.returned (.pointer (some ⟨wb,0,none⟩))/\Below w0.heap.size w0 w2/\Hid (jJ xs now x mb w0.heap.size w w2 wb)):=by
 refine(QR HN h.uok hr ht.strs h.tups).mono ?_;rintro e w1 ⟨tb,f,who,L,S,he,hB,hL⟩;refine⟨tb,he,hB.b,?_⟩;intro w1' h1;have hT:TA U (qt now) xs w0.heap.size tb w1'.heap.size f who L S w1':=(hB.ta.below h1).wide (hB.ta.below h1).sb (Uc _);refine(bt HN hT hx h5 h6 (by have:=hB.tl;have:=hB.ta.tn;omega)).mono ?_
 rintro e w2 ⟨wb,nb,mb',sb,L',S',sv,h3,hN,h4⟩;have h0:Below w0.heap.size w0 w2:=(hB.b.trans (h1.mono hB.b.size)).trans hN.bel;refine⟨wb,h3,h0,h2.trans (h0.mono h2.size),_,GJ h hB hN (h4.trans hL),λk e=>e.1⟩
theorem Xw(HN:Hid xS)(h:GPl U xs now){g:Pg}(hg:zU w b g)(hr:zp w g.mb xs)(ht:zH w g.tv now){y:Nod}(hx:uq x)(hu:x.isTh=false)(hn:x.r∈U)(bud til:Int):
  Calls prog 60 #[.pointer (some ⟨b,0,none⟩),.agg #[.string x.k,.string x.n,.string x.r,.string y.k,.string y.n,.string y.r],.int .i64 bud,.int .i64 til] w λe w'=> ∃wkb,e=.returned (.agg #[.string x.k,.string x.n,.string x.r,.string y.k,.string y.n,.string y.r,.pointer (some ⟨wkb,0,none⟩),.int .i64 bud,.int .i64 til])/\jJ xs now x g.mb w.heap.size w w' wkb:=by
 have hb:Hid (∀w0,Below w.heap.size w w0->Calls prog 84 #[.map (some g.mb),g.tv] w0 λe w1=> ∃tb,e=.returned (.pointer (some ⟨tb,0,none⟩))/\Below w0.heap.size w0 w1/\Hid (∀w1',Below w1.heap.size w1 w1'->Calls prog 43 #[.pointer (some ⟨tb,0,none⟩),.agg #[.string x.k,.string x.n,.string x.r]] w1' λe w2=> ∃wb,e=.returned (.pointer (some ⟨wb,0,none⟩))/\Below w0.heap.size w0 w2/\Hid (jJ xs now x g.mb w0.heap.size w w2 wb))):=λw0 h2=>Q2 HN h h2 (hr.below h2) (xJ ht λk hk=>h2.block k (zG ht k hk).1) hx hu hn;have hj:=qa hg (j:=3) rfl;have hm:=qc hg;have h5: ∃o n c,g.tv=.slice o n c:=by
  rcases ht with⟨e,-⟩|⟨b,cap,cur,e,-⟩
  ·exact⟨_,_,_,e⟩
  ·exact⟨_,_,_,e⟩
 obtain⟨o,n,c,h5⟩:=h5;have c3:w.cell? ⟨b,3,none⟩=some (.slice o n c):=by rw[←h5];exact hj
 have HG:Hid (∀w0,Below w.heap.size w w0->w0.cell? ⟨b,2,none⟩=some (.map (some g.mb))/\w0.cell? ⟨b,3,none⟩=some (.slice o n c)):=by
  intro w0 h2;have hi:=(h2.block b hm).trans hg;exact⟨qa hi (j:=2) rfl,by rw[←h5];exact qa hi (j:=3) rfl⟩
 clear c3 hj;rw[h5]at hb;generalize g.mb=mb at *;clear hg hr ht h5 h HN;go_enter func60,ntmps60;go_wp2;have h2:Below w.heap.size w ((w.alloc (.cells #[.string x.k,.string x.n,.string x.r,.string y.k,.string y.n,.string y.r] 77)).alloc (.cells #[.string {data:= #[]},.string {data:= #[]},.string {data:= #[]},.string {data:= #[]},.string {data:= #[]},.string {data:= #[]},.pointer none,.int .i64 0,.int .i64 0] 115)):=bl;have h4:((w.alloc (.cells #[.string x.k,.string x.n,.string x.r,.string y.k,.string y.n,.string y.r] 77)).alloc (.cells #[.string {data:= #[]},.string {data:= #[]},.string {data:= #[]},.string {data:= #[]},.string {data:= #[]},.string {data:= #[]},.pointer none,.int .i64 0,.int .i64 0] 115)).heap[w.heap.size]?=some (.cells (ya x y).toArray 77 (0,0)):=qG (qn w (ya x y) _) _;have h9:((w.alloc (.cells #[.string x.k,.string x.n,.string x.r,.string y.k,.string y.n,.string y.r] 77)).alloc (.cells #[.string {data:= #[]},.string {data:= #[]},.string {data:= #[]},.string {data:= #[]},.string {data:= #[]},.string {data:= #[]},.pointer none,.int .i64 0,.int .i64 0] 115)).heap[w.heap.size+1]?=some (.cells [.string {data:= #[]},.string {data:= #[]},.string {data:= #[]},.string {data:= #[]},.string {data:= #[]},.string {data:= #[]},.pointer none,.int .i64 0,.int .i64 0].toArray 115 (0,0)):=by
  have h1:=qn (w.alloc (.cells #[.string x.k,.string x.n,.string x.r,.string y.k,.string y.n,.string y.r] 77)) [.string {data:= #[]},.string {data:= #[]},.string {data:= #[]},.string {data:= #[]},.string {data:= #[]},.string {data:= #[]},.pointer none,.int .i64 0,.int .i64 0] 115;have e:(w.alloc (.cells #[.string x.k,.string x.n,.string x.r,.string y.k,.string y.n,.string y.r] 77)).heap.size=w.heap.size+1:=by show(w.heap.push _).size=_;simp
  rw[e]at h1;exact h1
 generalize ((w.alloc (.cells #[.string x.k,.string x.n,.string x.r,.string y.k,.string y.n,.string y.r] 77)).alloc (.cells #[.string {data:= #[]},.string {data:= #[]},.string {data:= #[]},.string {data:= #[]},.string {data:= #[]},.string {data:= #[]},.pointer none,.int .i64 0,.int .i64 0] 115))=w0 at *;have h6:Hid (∀w1,Below w0.heap.size w0 w1->Calls prog 84 #[.map (some mb),.slice o n c] w1 λe w2=> ∃tb,e=.returned (.pointer (some ⟨tb,0,none⟩))/\w2.cell? ⟨w.heap.size,0,none⟩=some (.string x.k)/\w2.cell? ⟨w.heap.size,1,none⟩=some (.string x.n)/\w2.cell? ⟨w.heap.size,2,none⟩=some (.string x.r)/\Hid (∀w1',Below w2.heap.size w2 w1'->Calls prog 43 #[.pointer (some ⟨tb,0,none⟩),.agg #[.string x.k,.string x.n,.string x.r]] w1' λe w3=> ∃wb,e=.returned (.pointer (some ⟨wb,0,none⟩))/\Hid (w3.heap[w.heap.size]?=some (.cells (ya x y).toArray 77 (0,0))/\w3.heap[w.heap.size+1]?=some (.cells [.string {data:= #[]},.string {data:= #[]},.string {data:= #[]},.string {data:= #[]},.string {data:= #[]},.string {data:= #[]},.pointer none,.int .i64 0,.int .i64 0].toArray 115 (0,0))/\jJ xs now x mb w0.heap.size w w3 wb))):=by
  intro w1 h8;have hq:Below w.heap.size w w1:=h2.trans (h8.mono h2.size);have h7:=(h8.block _ (qc h4)).trans h4;have hf:=(h8.block _ (qc h9)).trans h9;refine(hb.out w1 hq).mono ?_;rintro e w2 ⟨tb,he,hp,HK⟩;have hc:=(hp.block _ (qc h7)).trans h7;refine⟨tb,he,qa hc (j:=0) rfl,qa hc (j:=1) rfl,qa hc (j:=2) rfl,?_⟩;intro w1' ha;refine(HK.out w1' ha).mono ?_;rintro e w3 ⟨wb,hl,hd,hT⟩;exact⟨wb,hl,(hd.block _ (qc h7)).trans h7,(hd.block _ (qc hf)).trans hf,hT.out.low h8.size⟩
 obtain⟨g2,g3⟩:=HG.out w0 h2;have l0:w0.cell? ⟨w.heap.size,0,none⟩=some (.string x.k):=qa h4 (j:=0) rfl;have l1:w0.cell? ⟨w.heap.size,1,none⟩=some (.string x.n):=qa h4 (j:=1) rfl;have l2:w0.cell? ⟨w.heap.size,2,none⟩=some (.string x.r):=qa h4 (j:=2) rfl;have ho:w.heap.size+1<w0.heap.size:=qc h9;clear hb HG h4 h9 h2
 go_cut [9]from 10 to 22 (λv w3=> ∃wb,v=.pointer (some ⟨wb,0,none⟩)/\w3.heap[w.heap.size]?=some (.cells (ya x y).toArray 77 (0,0))/\w3.heap[w.heap.size+1]?=some (.cells [.string {data:= #[]},.string {data:= #[]},.string {data:= #[]},.string {data:= #[]},.string {data:= #[]},.string {data:= #[]},.pointer none,.int .i64 0,.int .i64 0].toArray 115 (0,0))/\jJ xs now x mb w0.heap.size w w3 wb)
 case first=>
  go_region_with(first|(go_at_call 84;refine(h6.out _ bl).mono ?_;rintro e w2 ⟨tb,rfl,m0,m1,m2,hs⟩)|(go_at_call 43;refine(hs.out _ bl).mono ?_;rintro e w3 ⟨wb,rfl,HF⟩))
  all_goals (go_wp2_with fail;go_meet)
  all_goals exact⟨wb,rfl,HF.out⟩
 case rest=>
  obtain⟨wb,rfl,hF⟩:=hcut;obtain⟨w3,rfl⟩: ∃w3,w3=wc:=⟨_,rfl⟩;have HF:Hid (w3.heap[w.heap.size]?=some (.cells (ya x y).toArray 77 (0,0))/\w3.heap[w.heap.size+1]?=some (.cells [.string {data:= #[]},.string {data:= #[]},.string {data:= #[]},.string {data:= #[]},.string {data:= #[]},.string {data:= #[]},.pointer none,.int .i64 0,.int .i64 0].toArray 115 (0,0))/\jJ xs now x mb w0.heap.size w w3 wb):=hF;clear hF h6;have h3:=HF.out.1;have h0:=HF.out.2.1;have p0:=qa h3 (j:=0) rfl;have p1:=qa h3 (j:=1) rfl;have p2:=qa h3 (j:=2) rfl;have p3:=qa h3 (j:=3) rfl;have p4:=qa h3 (j:=4) rfl;have p5:=qa h3 (j:=5) rfl;have r0:=qa h0 (j:=0) rfl;have r1:=qa h0 (j:=1) rfl;have r2:=qa h0 (j:=2) rfl;have r3:=qa h0 (j:=3) rfl;have r4:=qa h0 (j:=4) rfl;have r5:=qa h0 (j:=5) rfl;have r6:=qa h0 (j:=6) rfl;have r7:=qa h0 (j:=7) rfl;have r8:=qa h0 (j:=8) rfl;have z0:=qd h0 0;have z1:=qd h0 1;have z2:=qd h0 2;have z3:=qd h0 3;have z4:=qd h0 4;have z5:=qd h0 5;have z6:=qd h0 6;have z7:=qd h0 7;have z8:=qd h0 8;clear h3 h0;go_wp2;refine bodyPost_ret (v:=.agg #[.string x.k,.string x.n,.string x.r,.string y.k,.string y.n,.string y.r,.pointer (some ⟨wb,0,none⟩),.int .i64 bud,.int .i64 til]) (by simp[results,results60,go_sem,r0,r1,r2,r3,r4,r5,r6,r7,r8]) rfl ⟨wb,rfl,?_⟩
  refine(HF.out.2.2.set (b:=w.heap.size+1) (by omega) ho HF.out.2.1 ?_).low (by omega)
  repeat refine Y4 ?_ _ _
  exact Frm.refl _ _
