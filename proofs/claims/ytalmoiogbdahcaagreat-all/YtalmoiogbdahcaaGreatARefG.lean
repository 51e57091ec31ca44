import Derived.Test.YtalmoiogbdahcaaGreatARefD
import Derived.Test.YtalmoiogbdahcaaGreatARefE
open Go.Proofs.Tryz
namespace Go.Proofs.YtalmoiogbdahcaaGreat
set_option maxRecDepth 100000
set_option maxHeartbeats 8000000
open Go.RowKit
structure Rg where
 rulesV:Value
 nowV:Value
 version:Int
 clock:Int
 closed:Bool
 queue:Int
 reqV:Value
 wrkV:Value
def Rg.cells(g:Rg):List Value:=[g.rulesV,g.nowV,.int .i64 g.version,.int .i64 g.clock,.bool g.closed,.int .i64 g.queue,g.reqV,g.wrkV]
def xX(w:World)(b:Nat)(g:Rg):Prop:=w.heap[b]?=some (.cells g.cells.toArray 124 (0,0))
def vL(w:World)(v:Value)(rs:List (BA×BA)):Prop:=
 (v=.slice none 0 0/\rs=[])\/ ∃b cap,v=.slice (some ⟨b,0,none⟩) rs.length cap/\ ∀i x,rs[i]?=some x->w.cell? ⟨b,i * 2,none⟩=some (.string x.1)/\w.cell? ⟨b,i * 2+1,none⟩=some (.string x.2)
def fL(node:BA):BA:=qX (qX node 35) 58
def Z4(node:BA):BA:=qS node 35
def ofS(node:BA):BA:=fL node++{data:= #[35]}++Z4 node
def qD(rs:List (BA×BA))(node:BA):BA:=match rs.find? (λx=>x.1.toList==(ofS node).toList)with|some x=>x.2|none=>{data:= #[]}
theorem rQ(s:BA)(c:Int):(qX s c).size+(qS s c).size<=s.size:=by
 unfold qX qS;split
 ·rename_i i hi
  have hl:i<s.data.toList.length:=by
   unfold ve at hi;rw[List.findIdx?_eq_some_iff_getElem]at hi;exact hi.1
  simp at hl ⊢;omega
 ·simp
theorem mP(b:Nat)(g:Rg)(rs:List (BA×BA))(node:BA)(w:World)(hg:xX w b g)(hr:vL w g.rulesV rs)(hl:rs.length<=12)(hn:node.size<=1125899906842624):
  Calls prog 72 #[.pointer (some ⟨b,0,none⟩),.string node] w λe w'=>e=.returned (.string (qD rs node))/\ ∃n,w'=w.drewN n:=by
 obtain⟨A1,Z1,O1,h4,h7,hc,h8,ho,h3⟩:=yZ node 35 (by unfold maxLen;omega)
 obtain⟨A2,Z2,O2,h6,hb,hj,he,hm,ha⟩:=yZ A1 58 h8;have HO:Hid (ofS node=A2++{data:= #[35]}++Z1):=by
  show _=_
  unfold ofS fL Z4;rw[h4,h6,h7]
 have hi:A2.size+1+Z1.size<=1125899906842625:=by
  have q1:=rQ node 35;have q2:=rQ A1 58;rw[h4,h7]at q1;rw[h6,hb]at q2;omega
 clear h4 h7 hc h6 hb hj h8 ho he hm;have h0:w.cell? ⟨b,0,none⟩=some g.rulesV:=qa hg rfl;obtain⟨rv,h9⟩: ∃rv,g.rulesV=rv:=⟨_,rfl⟩;rw[h9]at h0 hr;clear h9 hg;rcases hr with⟨rfl,rfl⟩|⟨rb,cap,rfl,h1⟩
 ·go_enter func72,ntmps72
  go_wp2_with(first|(go_at_call 117;refine(h3 _).mono ?_;clear h3;rintro e w' ⟨rfl,⟨n1,rfl⟩⟩)|(go_at_call 117;refine(ha _).mono ?_;rintro e w' ⟨rfl,⟨n2,rfl⟩⟩))
  refine wp_loop_rounds 1 ?_;rw[rounds_succ];go_wp2;go_ret;exact⟨rfl,⟨_,rfl⟩⟩
 ·obtain⟨n,h5⟩: ∃n,rs.length=n:=⟨_,rfl⟩
  have HX:Hid (rs.length=n):=h5;rw[h5]at hl h0;clear h5;go_enter func72,ntmps72
  go_wp2_with(first|(go_at_call 117;refine(h3 _).mono ?_;clear h3;rintro e w' ⟨rfl,⟨n1,rfl⟩⟩)|(go_at_call 117;refine(ha _).mono ?_;rintro e w' ⟨rfl,⟨n2,rfl⟩⟩))
  go_loop [11] (λi=> ∃k:Nat,k<=n/\i=.int .i64 k/\(rs.take k).find? (λx=>x.1.toList==(A2++{data:= #[35]}++Z1).toList)=none) (λi=>n-(intOf i).toNat)
  case atStart=>exact⟨0,Um _,rfl,rfl⟩
  case round=>
   obtain⟨k,hk,rfl,hf⟩:=hrel;have HF:Hid ((rs.take k).find? (λx=>x.1.toList==(A2++{data:= #[35]}++Z1).toList)=none):=hf;clear hf;by_cases hlt:k<n
   ·have h2:k<rs.length:=by have:=HX.out;omega
    obtain⟨x,hx⟩: ∃x,rs[k]=x:=⟨_,rfl⟩;obtain⟨g1,g2⟩:=h1 k x (by rw[OC h2,hx])
    have HT:Hid (rs=rs.take k++x::rs.drop (k+1)):=by
     show _=_
     have:=(O6 k rs).symm;rw[List.drop_eq_getElem_cons h2,hx]at this;exact this
    have hd:Hid (rs.take (k+1)=rs.take k++[x]):=by
     show _=_
     rw[O8 h2,hx]
    clear h2 hx h1;obtain⟨xo,xw⟩:=x;dsimp only at g1 g2;cases hq:(xo.toList==(A2++{data:= #[35]}++Z1).toList)
    ·go_wp2
     go_round
     case rel=>exact⟨k+1,by omega,by go_num,by rw[hd.out,List.find?_append,HF.out];simp[hq]⟩
     case measure=>simp[intOf];omega
    ·have HR:Hid (qD rs node=xw):=by
      show _=_
      unfold qD;rw[HO.out,HT.out,List.find?_append,HF.out];simp[hq]
     go_wp2;go_ret;exact⟨by rw[HR.out];rfl,⟨_,rfl⟩⟩
   ·obtain rfl:k=n:=by omega
    have HR:Hid (qD rs node={data:= #[]}):=by
     show _=_
     have:=HF.out;rw[O7 (by have:=HX.out;omega)]at this
     unfold qD;rw[HO.out,this]
    clear h1;go_wp2;go_ret;exact⟨by rw[HR.out];rfl,⟨_,rfl⟩⟩
variable{base:Nat}{v:Value}{w:World}{xs:List BA}
theorem yi(h:w.ownsRow base 9 1 v xs.length (qg xs)):qE w v xs:=by
 rcases h.2 with⟨hv,hn⟩|⟨g,cap,cur,hv,hg,hh,-,-,-,ht⟩
 ·exact Or.inl ⟨hv,Oy hn⟩
 ·refine Or.inr ⟨g,0,cap,hv,?_⟩
  intro i x hx;have hl:i<xs.length:=(OE.1 hx).1;have h1:cur.toList[i]?=some (.string x):=by
   have:(cur.toList.take (xs.length * 1))[i]?=some (.string x):=by rw[ht];exact x4 hx
   rw[OJ (by omega)]at this
   exact this
  rw[Ul];simp only[World.cell?,hh]
  simpa using h1
def zH(w:World)(v:Value)(xs:List BA):Prop:=
 (v=.slice none 0 0/\xs=[])\/ ∃(b cap:Nat) (cur:List Value),v=.slice (some ⟨b,0,none⟩) xs.length cap/\w.heap[b]?=some (.cells cur.toArray 9 (0,0))/\cur.take xs.length=qg xs
theorem zH.strs(h:zH w v xs):qE w v xs:=by
 rcases h with h|⟨b,cap,cur,hv,hh,ht⟩
 ·exact Or.inl h
 ·refine Or.inr ⟨b,0,cap,hv,λi x hx=>?_⟩
  have hl:i<xs.length:=(OE.1 hx).1;rw[Ul];refine qa hh ?_;have h1:(qg xs)[i]?=some (.string x):=x4 hx;rw[←ht,OJ hl]at h1;exact h1
variable{w':World}
theorem zH.move(h:zH w v xs)(hw: ∀(b:Nat) (cur:List Value),w.heap[b]?=some (.cells cur.toArray 9 (0,0))->w'.heap[b]?=w.heap[b]?):zH w' v xs:=by
 rcases h with h|⟨b,cap,cur,hv,hh,ht⟩
 ·exact Or.inl h
 ·exact Or.inr ⟨b,cap,cur,hv,(hw b cur hh).trans hh,ht⟩
theorem dr(h:w.ownsRow base 9 1 v xs.length (qg xs)):zH w v xs:=by
 rcases h.2 with⟨hv,hn⟩|⟨g,cap,cur,hv,hg,hh,-,-,-,ht⟩
 ·exact Or.inl ⟨hv,Oy hn⟩
 ·exact Or.inr ⟨g,cap,cur.toList,hv,by rw[Oo];exact hh,by rw[Nat.mul_one]at ht;exact ht⟩
theorem xg(h:qE w v xs)(hb:Below w.heap.size w w'):qE w' v xs:=by
 rcases h with h|⟨b,off,cap,hv,hc⟩
 ·exact Or.inl h
 ·exact Or.inr ⟨b,off,cap,hv,λi x hx=>by have h1:=hc i x hx;rw[←h1];exact hb.cell (qp h1)⟩
theorem i6{rs:List (BA×BA)}(h:vL w v rs)(hb:Below w.heap.size w w'):vL w' v rs:=by
 rcases h with h|⟨b,cap,hv,hc⟩
 ·exact Or.inl h
 ·refine Or.inr ⟨b,cap,hv,λi x hx=>?_⟩
  obtain⟨h1,h2⟩:=hc i x hx;exact⟨by rw[←h1];exact hb.cell (qp h1),by rw[←h2];exact hb.cell (qp h2)⟩
variable{b:Nat}{g:Rg}
theorem ut(h:xX w b g)(hb:Below w.heap.size w w'):xX w' b g:=by
 unfold xX at h ⊢;rw[hb.block b (qc h)];exact h
theorem qN(h: ∃n,w'=w.drewN n):Below w.heap.size w w':=by
 obtain⟨n,rfl⟩:=h;exact below_drewN (Ou _ _) _
theorem J4(s:BA)(xs:List BA): ∀q:Bool×List BA,(xs.foldl (qC s) q).2.length+(if(xs.foldl (qC s) q).1 then 1 else 0)<=q.2.length+xs.length+(if q.1 then 1 else 0):=by
 induction xs with
 |nil=>intro q;exact Uc _
 |cons x xs ih=>
  intro q;rw[List.foldl_cons];refine Ue (ih _) ?_;have:(qC s q x).2.length+(if(qC s q x).1 then 1 else 0)<=q.2.length+1+(if q.1 then 1 else 0):=by
   unfold qC;dsimp only;rw[OK];cases q.1<;>cases gtB x s<;>cases neB x s<;>simp
  simp only[OL];omega
theorem ab(xs:List BA)(s:BA)(there:Bool):(yN xs s there).length<=xs.length+1:=by
 have h:=J4 s xs (there,[]);unfold yN;rw[OK];dsimp only at h;have e:(if(xs.foldl (qC s) (there,[])).1 then[s]else[]).length=(if(xs.foldl (qC s) (there,[])).1 then 1 else 0):=by split<;>rfl
 rw[e];have h1:(if there then 1 else 0)<=1:=by split<;>omega
 simp at h;omega
def xk(rs:List (BA×BA))(s:BA):Int:=
 if s.size=0\/(qR s 0≠43/\qR s 0≠45)then 4
 else if y8 (s.extract 1 s.size)=false then 4
 else if(qD rs (qX (s.extract 1 s.size) 64)).size=0\/(xt (qS (s.extract 1 s.size) 64)=true/\(qD rs (qS (s.extract 1 s.size) 64)).size=0)then 5
 else 0
def yH(now:List BA)(s:BA):List BA:=yN now (s.extract 1 s.size) (decide (qR s 0=43))
def zJ(rs:List (BA×BA)):List BA->Nat->List BA->Sum (Nat×Int) (List BA)
 |now,_,[]=>.inr now
 |now,i,s::l=>if xk rs s=0 then zJ rs (yH now s) (i+1) l else .inl (i,xk rs s)
theorem nB(b:Nat)(g:Rg)(a:Addr)(n c:Nat)(w:World)(hg:xX w b g)(h0:g.closed=false)(hn:20<n)(hl:n<=maxLen):
  Calls prog 35 #[.pointer (some ⟨b,0,none⟩),.slice (some a) n c] w λe w'=>e=.returned (.tuple #[.int .i64 0,.int .i64 0,.int .i64 6])/\w'=w:=by
 have h4:w.cell? ⟨b,4,none⟩=some (.bool g.closed):=qa hg rfl;rw[h0]at h4;unfold maxLen at hl;go_enter func35,ntmps35;go_wp2;go_ret3;exact⟨rfl,rfl⟩
def jd:List BA:=[{data:= #[103,114,111,117,112,35,109,101,109,98,101,114,61,116,104,105,115]},{data:= #[100,111,99,35,114,101,97,100,101,114,61,116,104,105,115,124,112,97,114,101,110,116,45,62,114,101,97,100,101,114]},{data:= #[100,111,99,35,112,97,114,101,110,116,61,116,104,105,115]},{data:= #[100,111,99,35,101,100,105,116,111,114,61,114,101,97,100,101,114,38,116,104,105,115]}]
theorem Yx(w:World):
  Calls prog 34 #[] w λe w'=>e=.returned (.slice (some ⟨w.heap.size,0,none⟩) 4 4)/\zK w' w.heap.size jd/\Below w.heap.size w w':=by
 go_enter func34,ntmps34;go_wp2;go_ret;refine⟨rfl,?_,(Ou _ _).alloc (Uc _) _⟩;unfold zK;show(w.heap.push _)[w.heap.size]?=_
 rw[Array.getElem?_push_size]
 rfl
def uO(w:World)(b:Nat)(g:Rg)(r:Sum (Nat×Int) (List BA))(e:Ending)(w':World):Prop:=
 match r with
 | .inl (i,f)=>e=.returned (.tuple #[.int .i64 0,.int .i64 i,.int .i64 f])/\Below w.heap.size w w'
 | .inr ys=>if 50<ys.length then e=.returned (.tuple #[.int .i64 0,.int .i64 0,.int .i64 6])/\Below w.heap.size w w'
   else∃v,e=.returned (.tuple #[.int .i64 (g.version+1),.int .i64 0,.int .i64 0])/\xX w' b {g with nowV:=v,version:=g.version+1}/\zH w' v ys/\w.grownBy w' (some b)/\(∀k,v.ownBlock=some k->g.nowV.ownBlock=some k\/w.heap.size<=k)
theorem iz{r:Sum (Nat×Int) (List BA)}{i:Nat}{f:Int}{e:Ending}(hr:r=.inl (i,f))(he:e=.returned (.tuple #[.int .i64 0,.int .i64 i,.int .i64 f]))(hb:Below w.heap.size w w'):uO w b g r e w':=by
 subst hr;exact⟨he,hb⟩
theorem rR(b:Nat)(g:Rg)(rs:List (BA×BA))(now xs:List BA)(bb off cap:Nat)(w:World)(hg:xX w b g)(hO:g.closed=false)(hr:vL w g.rulesV rs)(hQ:rs.length<=12)(hl:zH w g.nowV now)(H1:now.length<=50)
  (hC: ∀i x,xs[i]?=some x->w.cell? ⟨bb,off+i,none⟩=some (.string x)) (hU:xs.length<=20) (hM: ∀x∈xs,x.size<=140737488355328) (hL: ∀a m c,g.nowV=.slice (some a) m c->a.block≠b) (hN:0<=g.version/\g.version<=4611686018427387904):
  Calls prog 35 #[.pointer (some ⟨b,0,none⟩),.slice (some ⟨bb,off,none⟩) xs.length cap] w λe w'=>uO w b g (zJ rs now 0 xs) e w':=by
 obtain⟨n,hn⟩: ∃n,xs.length=n:=⟨_,rfl⟩;have HX:Hid (xs.length=n):=hn;rw[hn]at hU ⊢;clear hn;have h4:w.cell? ⟨b,4,none⟩=some (.bool g.closed):=qa hg rfl;have h1:w.cell? ⟨b,1,none⟩=some g.nowV:=qa hg rfl;rw[hO]at h4;go_enter func35,ntmps35;go_wp2
 go_loopw [7,8] (λnv i wr=> ∃(k:Nat) (v:Value) (ys:List BA),v=nv/\k<=n/\i=.int .i64 k/\zH wr v ys/\ys.length<=50+k/\Below w.heap.size w wr/\zJ rs now 0 xs=zJ rs ys k (xs.drop k)/\(∀a m c,v=.slice (some a) m c->a.block≠b)/\(∀k,v.ownBlock=some k->g.nowV.ownBlock=some k\/w.heap.size<=k)) (λ_ i _=>n-(intOf i).toNat)
 case atStart=>exact⟨0,_,now,rfl,Um _,rfl,hl,by omega,Ou _ _,rfl,hL,λk e=>Or.inl e⟩
 case round=>
  obtain⟨k,v,ys,rfl,hk,rfl,hv,H2,hb,hd,hE,hG⟩:=hrel;have hK:Hid (∀k,v.ownBlock=some k->g.nowV.ownBlock=some k\/w.heap.size<=k):=hG;clear hG;have hX:Hid (∀a m c,v=.slice (some a) m c->a.block≠b):=hE;clear hE;have HV:Hid (zH wr v ys):=hv;have HB:Hid (Below w.heap.size w wr):=hb;have HR:Hid (zJ rs now 0 xs=zJ rs ys k (xs.drop k)):=hd;clear hv hb hd;by_cases hlt:k<n
  ·have ho:k<xs.length:=by have:=HX.out;omega
   obtain⟨x,hx⟩: ∃x,xs[k]=x:=⟨_,rfl⟩;have hi:=hC k x (by rw[OC ho,hx])
   have H4:wr.cell? ⟨bb,off+k,none⟩=some (.string x):=by rw[←hi];exact HB.out.cell (qp hi)
   have H3:x.size<=140737488355328:=hM x (by rw[←hx];exact List.getElem_mem ho)
   have HD:Hid (zJ rs now 0 xs=if xk rs x=0 then zJ rs (yH ys x) (k+1) (xs.drop (k+1))else .inl (k,xk rs x)):=by
    show _=_
    rw[HR.out,List.drop_eq_getElem_cons ho,hx,zJ]
   clear ho hx hi hC;have HG:Hid (xX wr b g):=ut hg HB.out;have HU:Hid (vL wr g.rulesV rs):=i6 hr HB.out;have hD:Hid (∀q:BA,q.size<=140737488355328-> ∀m,Calls prog 72 #[.pointer (some ⟨b,0,none⟩),.string q] (wr.drewN m) λe w'=>e=.returned (.string (qD rs q))/\ ∃n,w'=(wr.drewN m).drewN n):=λq hq m=>mP b g rs q (wr.drewN m) (ut HG.out (below_drewN (Ou _ _) _)) (i6 HU.out (below_drewN (Ou _ _) _)) hQ (by omega)
   by_cases hx0:0<x.size
   ·have hV:x.toList.isEmpty=false:=jb x hx0
    obtain⟨c0,hi⟩: ∃c:Int,(x[0].toNat:Int)=c:=⟨_,rfl⟩;have hs:qR x 0=c0:=by rw[uk x 0 hx0,hi]
    by_cases hsg:c0≠43/\c0≠45
    ·have HF:Hid (zJ rs now 0 xs=.inl (k,4)):=by
      have hf:xk rs x=4:=by unfold xk;rw[if_pos (Or.inr (by rw[hs];exact hsg))]
      show _=_
      rw[HD.out,hf];rfl
     have g1:(c0 !=43)=true:=by simpa using hsg.1
     have g2:(c0 !=45)=true:=by simpa using hsg.2
     clear hsg;go_wp2;go_ret3;exact iz HF.out rfl HB.out
    ·have h5:c0=43\/c0=45:=by omega
     clear hsg;have H0:(x.extract 1 x.size).size<=140737488355328:=by simp;omega
     have he:yH ys x=yN ys (x.extract 1 x.size) (decide (c0=43)):=by unfold yH;rw[hs]
     have ha:xk rs x=if y8 (x.extract 1 x.size)=false then 4 else if(qD rs (qX (x.extract 1 x.size) 64)).size=0\/(xt (qS (x.extract 1 x.size) 64)=true/\(qD rs (qS (x.extract 1 x.size) 64)).size=0)then 5 else 0:=by
      unfold xk;rw[if_neg (by rw[hs];omega)]
     have hm:=λw=>tC (x.extract 1 x.size) w (by unfold maxLen;omega)
     have hJ:=rQ (x.extract 1 x.size) 64;obtain⟨A,hA⟩: ∃A,qX (x.extract 1 x.size) 64=A:=⟨_,rfl⟩;obtain⟨Z,hZ⟩: ∃Z,qS (x.extract 1 x.size) 64=Z:=⟨_,rfl⟩;rw[hA,hZ]at ha hJ;rw[hA,hZ]at hm;have hc:=hD.out A (by omega)
     have hp:=hD.out Z (by omega)
     have hu:=λw=>cH Z w (by unfold maxLen;omega)
     clear hA hZ hJ hD hs;generalize qD rs A=RA at *;generalize qD rs Z=RZ at *;generalize xt Z=nz at *;generalize y8 (x.extract 1 x.size)=tok at *;cases tok
     ·have HF:Hid (zJ rs now 0 xs=.inl (k,4)):=by
       show _=_
       rw[HD.out,ha];rfl
      clear ha he;rcases h5 with rfl|rfl
      all_goals
       go_wp2_with(first|(go_at_call 71;refine(hm _).mono ?_;rintro e w1 ⟨rfl,⟨n1,rfl⟩⟩)|(go_at_call 72;refine(hc _).mono ?_;clear hc;rintro e w1 ⟨rfl,⟨n2,rfl⟩⟩)|(go_at_call 73;refine(hu _).mono ?_;rintro e w1 ⟨rfl,⟨n3,rfl⟩⟩)|(go_at_call 72;refine(hp _).mono ?_;rintro e w1 ⟨rfl,⟨n4,rfl⟩⟩))
       go_ret3;exact iz HF.out rfl (below_drewN HB.out _)
     ·by_cases h0:RA.size=0
      ·have HF:Hid (zJ rs now 0 xs=.inl (k,5)):=by
        show _=_
        rw[HD.out,show xk rs x=5 by rw[ha,if_neg (by simp),if_pos (Or.inl h0)]];rfl
       have hS:=cJ RA h0;clear ha he h0;rcases h5 with rfl|rfl
       all_goals
        go_wp2_with(first|(go_at_call 71;refine(hm _).mono ?_;rintro e w1 ⟨rfl,⟨n1,rfl⟩⟩)|(go_at_call 72;refine(hc _).mono ?_;clear hc;rintro e w1 ⟨rfl,⟨n2,rfl⟩⟩)|(go_at_call 73;refine(hu _).mono ?_;rintro e w1 ⟨rfl,⟨n3,rfl⟩⟩)|(go_at_call 72;refine(hp _).mono ?_;rintro e w1 ⟨rfl,⟨n4,rfl⟩⟩))
        go_ret3;exact iz HF.out rfl (below_drewN HB.out _)
      ·have hS:=jb RA (by omega)
       by_cases h3:nz=true/\RZ.size=0
       ·have HF:Hid (zJ rs now 0 xs=.inl (k,5)):=by
         show _=_
         rw[HD.out,show xk rs x=5 by rw[ha,if_neg (by simp),if_pos (Or.inr h3)]];rfl
        obtain⟨rfl,hF⟩:=h3;have hB:=cJ RZ hF;clear ha he h0 hF;rcases h5 with rfl|rfl
        all_goals
         go_wp2_with(first|(go_at_call 71;refine(hm _).mono ?_;rintro e w1 ⟨rfl,⟨n1,rfl⟩⟩)|(go_at_call 72;refine(hc _).mono ?_;clear hc;rintro e w1 ⟨rfl,⟨n2,rfl⟩⟩)|(go_at_call 73;refine(hu _).mono ?_;rintro e w1 ⟨rfl,⟨n3,rfl⟩⟩)|(go_at_call 72;refine(hp _).mono ?_;rintro e w1 ⟨rfl,⟨n4,rfl⟩⟩))
         go_ret3;exact iz HF.out rfl (below_drewN HB.out _)
       ·have HF:Hid (zJ rs now 0 xs=zJ rs (yN ys (x.extract 1 x.size) (decide (c0=43))) (k+1) (xs.drop (k+1))):=by
         show _=_
         rw[HD.out,if_pos (show xk rs x=0 by rw[ha,if_neg (by simp),if_neg (λh=>h.elim h0 h3)]),he]
        have hR:nz=false\/(nz=true/\RZ.toList.isEmpty=false):=by
         cases nz
         ·exact Or.inl rfl
         ·exact Or.inr ⟨rfl,jb RZ (by have h9: ¬RZ.size=0:=λe=>h3 ⟨rfl,e⟩;omega)⟩
        clear ha he h0 h3;rcases h5 with rfl|rfl
        all_goals
         rcases hR with rfl|⟨rfl,hB⟩
         all_goals
          go_wp2_with(first|(go_at_call 71;refine(hm _).mono ?_;rintro e w1 ⟨rfl,⟨n1,rfl⟩⟩)|(go_at_call 72;refine(hc _).mono ?_;clear hc;rintro e w1 ⟨rfl,⟨n2,rfl⟩⟩)|(go_at_call 73;refine(hu _).mono ?_;rintro e w1 ⟨rfl,⟨n3,rfl⟩⟩)|(go_at_call 72;refine(hp _).mono ?_;rintro e w1 ⟨rfl,⟨n4,rfl⟩⟩))
          go_region_with(go_at_call 74;refine(fH v ys (x.extract 1 x.size) _ _ (xg HV.out.strs bl) (by omega)).mono ?_;rintro e w5 ⟨v5,rfl,hy,hP⟩)
          all_goals
           go_wp2
           go_roundw
           case rel=>
            have hz:=λth=>ab ys (x.extract 1 x.size) th;refine⟨k+1,v5,_,rfl,by omega,by go_num,dr hy,Ue (hz _) (by omega),?_,HF.out,?_,λk5 hT=>Or.inr ?_⟩
            ·refine Below.trans ?_ (hP.mono (by have:=HB.out.size;simp;omega))
             first|exact below_drewN HB.out _|exact(below_drewN HB.out _).drew
            ·intro a0 n0 c0 e0
             have h6:=hy.lt a0.block (by rw[e0];rfl)
             have h7:=HB.out.size;have h8:=qc hg;simp at h6;omega
            ·have h6:=hy.lt k5 hT
             have h7:=HB.out.size;simp at h6;omega
           case measure=>simp[intOf];omega
   ·have HF:Hid (zJ rs now 0 xs=.inl (k,4)):=by
     have hf:xk rs x=4:=by unfold xk;rw[if_pos (Or.inl (by omega))]
     show _=_
     rw[HD.out,hf];rfl
    have hV:x.toList.isEmpty=true:=cJ x (by omega)
    go_wp2;go_ret3;exact iz HF.out rfl HB.out
  ·obtain rfl:k=n:=by omega
   have HF:Hid (zJ rs now 0 xs=.inr ys):=by
    show _=_
    rw[HR.out,Ox (by have:=HX.out;omega),zJ]
   have HG:Hid (xX wr b g):=ut hg HB.out;have c1:wr.cell? ⟨b,1,none⟩=some g.nowV:=qa HG.out rfl;have c2:wr.cell? ⟨b,2,none⟩=some (.int .i64 g.version):=qa HG.out rfl;have f1:wr.frozen? ⟨b,1,none⟩=false:=qd HG.out _;have f2:wr.frozen? ⟨b,2,none⟩=false:=qd HG.out _;have HK:Hid (∀v':Value,xX ((wr.setCell ⟨b,1,none⟩ v').setCell ⟨b,2,none⟩ (.int .i64 (g.version+1))) b {g with nowV:=v',version:=g.version+1}/\w.grownBy ((wr.setCell ⟨b,1,none⟩ v').setCell ⟨b,2,none⟩ (.int .i64 (g.version+1))) (some b)):=
    λv'=>⟨qL (qL HG.out 1 v') 2 _,zf (zf ⟨HB.out.os,HB.out.tape,HB.out.output,HB.out.size,λj hj _=>HB.out.block j hj⟩ _ _) _ _⟩
   have HS:Hid (∀u1 u2,zH ((wr.setCell ⟨b,1,none⟩ u1).setCell ⟨b,2,none⟩ u2) v ys):=by
    intro u1 u2;rcases HV.out with h|⟨sb,sc,cur,hv,hh,ht⟩
    ·exact Or.inl h
    ·have hI:sb≠b:=hX.out _ _ _ hv
     exact Or.inr ⟨sb,sc,cur,hv,by rw[Ot _ _ _ _ hI,Ot _ _ _ _ hI];exact hh,ht⟩
   have hY:Hid (50+k<=70):=by show _<=_;omega
   clear hC hr hl hM hL hg h1;by_cases hbig:50<ys.length
   ·have HP:Hid (∀e w',e=.returned (.tuple #[.int .i64 0,.int .i64 0,.int .i64 6])->Below w.heap.size w w'->uO w b g (zJ rs now 0 xs) e w'):=by
     intro e w' h1 h2;rw[HF.out];show if 50<ys.length then _ else _
     rw[if_pos hbig];exact⟨h1,h2⟩
    rcases HV.out with⟨rfl,rfl⟩|⟨sb,sc,cur,rfl,-⟩
    ·simp at hbig
    ·go_wp2
     go_ret3;exact HP.out _ _ rfl HB.out
   ·have HP:Hid (∀e w',(∃v,e=.returned (.tuple #[.int .i64 (g.version+1),.int .i64 0,.int .i64 0])/\xX w' b {g with nowV:=v,version:=g.version+1}/\zH w' v ys/\w.grownBy w' (some b)/\(∀k,v.ownBlock=some k->g.nowV.ownBlock=some k\/w.heap.size<=k))->uO w b g (zJ rs now 0 xs) e w'):=by
     intro e w' h;rw[HF.out];show if 50<ys.length then _ else _
     rw[if_neg hbig];exact h
    rcases HV.out with⟨rfl,rfl⟩|⟨sb,sc,cur,rfl,-⟩
    ·clear hbig
     go_wp2;go_ret3;exact HP.out _ _ ⟨_,rfl,(HK.out _).1,HS.out _ _,(HK.out _).2,hK.out⟩
    ·go_wp2
     go_ret3;exact HP.out _ _ ⟨_,rfl,(HK.out _).1,HS.out _ _,(HK.out _).2,hK.out⟩
theorem nC(b:Nat)(g:Rg)(rs:List (BA×BA))(now:List BA)(w:World)(hg:xX w b g)(h6:g.closed=false)(h0:zH w g.nowV now)(h7:now.length<=50)(h3: ∀a m c,g.nowV=.slice (some a) m c->a.block≠b)(h5:0<=g.version/\g.version<=4611686018427387904):
  Calls prog 35 #[.pointer (some ⟨b,0,none⟩),.slice none 0 0] w λe w'=>uO w b g (zJ rs now 0 []) e w':=by
 have h4:w.cell? ⟨b,4,none⟩=some (.bool g.closed):=qa hg rfl;have h1:w.cell? ⟨b,1,none⟩=some g.nowV:=qa hg rfl;have c2:w.cell? ⟨b,2,none⟩=some (.int .i64 g.version):=qa hg rfl;have f1:w.frozen? ⟨b,1,none⟩=false:=qd hg _;have f2:w.frozen? ⟨b,2,none⟩=false:=qd hg _;rw[h6]at h4;have HP:Hid (∀e w',(∃v,e=.returned (.tuple #[.int .i64 (g.version+1),.int .i64 0,.int .i64 0])/\xX w' b {g with nowV:=v,version:=g.version+1}/\zH w' v now/\w.grownBy w' (some b)/\(∀k,v.ownBlock=some k->g.nowV.ownBlock=some k\/w.heap.size<=k))->uO w b g (zJ rs now 0 []) e w'):=by
  intro e w' h;show if 50<now.length then _ else _
  rw[if_neg (by omega)];exact h
 have HK:Hid (∀v':Value,xX ((w.setCell ⟨b,1,none⟩ v').setCell ⟨b,2,none⟩ (.int .i64 (g.version+1))) b {g with nowV:=v',version:=g.version+1}/\w.grownBy ((w.setCell ⟨b,1,none⟩ v').setCell ⟨b,2,none⟩ (.int .i64 (g.version+1))) (some b)):=
  λv'=>⟨qL (qL hg 1 v') 2 _,zf (zf (xD _ _) _ _) _ _⟩
 have HS:Hid (∀u1 u2,zH ((w.setCell ⟨b,1,none⟩ u1).setCell ⟨b,2,none⟩ u2) g.nowV now):=by
  intro u1 u2;rcases h0 with h|⟨sb,sc,cur,hv,hh,ht⟩
  ·exact Or.inl h
  ·have h2:sb≠b:=h3 _ _ _ hv
   exact Or.inr ⟨sb,sc,cur,hv,by rw[Ot _ _ _ _ h2,Ot _ _ _ _ h2];exact hh,ht⟩
 have HV:Hid (zH w g.nowV now):=h0;clear h0 h3 hg;generalize g.nowV=nv at *;rcases HV.out with⟨rfl,rfl⟩|⟨sb,sc,cur,rfl,-⟩
 all_goals
  go_enter func35,ntmps35;go_wp2;refine wp_loop_rounds 1 ?_;rw[rounds_succ];go_wp2;go_ret3;exact HP.out _ _ ⟨_,rfl,(HK.out _).1,HS.out _ _,(HK.out _).2,λk e=>Or.inl e⟩
theorem rS(a:Addr)(b:Nat)(g:Rg)(rs:List (BA×BA))(now:List BA)(w:World)(hg:xX w b g)(h6:g.closed=false)(h0:zH w g.nowV now)(h7:now.length<=50)(h3: ∀a m c,g.nowV=.slice (some a) m c->a.block≠b)(h5:0<=g.version/\g.version<=4611686018427387904):
  Calls prog 35 #[.pointer (some ⟨b,0,none⟩),.slice (some a) 0 0] w λe w'=>uO w b g (zJ rs now 0 []) e w':=by
 have h4:w.cell? ⟨b,4,none⟩=some (.bool g.closed):=qa hg rfl;have h1:w.cell? ⟨b,1,none⟩=some g.nowV:=qa hg rfl;have c2:w.cell? ⟨b,2,none⟩=some (.int .i64 g.version):=qa hg rfl;have f1:w.frozen? ⟨b,1,none⟩=false:=qd hg _;have f2:w.frozen? ⟨b,2,none⟩=false:=qd hg _;rw[h6]at h4;have HP:Hid (∀e w',(∃v,e=.returned (.tuple #[.int .i64 (g.version+1),.int .i64 0,.int .i64 0])/\xX w' b {g with nowV:=v,version:=g.version+1}/\zH w' v now/\w.grownBy w' (some b)/\(∀k,v.ownBlock=some k->g.nowV.ownBlock=some k\/w.heap.size<=k))->uO w b g (zJ rs now 0 []) e w'):=by
  intro e w' h;show if 50<now.length then _ else _
  rw[if_neg (by omega)];exact h
 have HK:Hid (∀v':Value,xX ((w.setCell ⟨b,1,none⟩ v').setCell ⟨b,2,none⟩ (.int .i64 (g.version+1))) b {g with nowV:=v',version:=g.version+1}/\w.grownBy ((w.setCell ⟨b,1,none⟩ v').setCell ⟨b,2,none⟩ (.int .i64 (g.version+1))) (some b)):=
  λv'=>⟨qL (qL hg 1 v') 2 _,zf (zf (xD _ _) _ _) _ _⟩
 have HS:Hid (∀u1 u2,zH ((w.setCell ⟨b,1,none⟩ u1).setCell ⟨b,2,none⟩ u2) g.nowV now):=by
  intro u1 u2;rcases h0 with h|⟨sb,sc,cur,hv,hh,ht⟩
  ·exact Or.inl h
  ·have h2:sb≠b:=h3 _ _ _ hv
   exact Or.inr ⟨sb,sc,cur,hv,by rw[Ot _ _ _ _ h2,Ot _ _ _ _ h2];exact hh,ht⟩
 have HV:Hid (zH w g.nowV now):=h0;clear h0 h3 hg;generalize g.nowV=nv at *;rcases HV.out with⟨rfl,rfl⟩|⟨sb,sc,cur,rfl,-⟩
 all_goals
  go_enter func35,ntmps35;go_wp2;refine wp_loop_rounds 1 ?_;rw[rounds_succ];go_wp2;go_ret3;exact HP.out _ _ ⟨_,rfl,(HK.out _).1,HS.out _ _,(HK.out _).2,λk e=>Or.inl e⟩
