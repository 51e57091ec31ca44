import Derived.Test.YtalmoiogbdahcaaGreatATieR
import Derived.RangeFuncNested
import Derived.RangeFuncBound
import Derived.Shelf.RegionOpen
import Derived.OwnWalkIn
import Derived.LoopNIn
import Derived.LoopIn
open Go.Proofs.Tryz
namespace Go.Proofs.YtalmoiogbdahcaaGreat
set_option maxRecDepth 100000
set_option maxHeartbeats 8000000
open Go.RowKit Go.Shelf
attribute [local go_sem] Oper.semAt_some
theorem pN{p:Nat->Prop}(h: ∃n,p n): ∃n,p n/\ ∀m,p m->n<=m:=by
 obtain⟨n,hn⟩:=h
 induction n using Nat.strongRecOn with
 |_ n ih=>
  by_cases hm: ∃m,m<n/\p m
  ·obtain⟨m,h1,h0⟩:=hm
   exact ih m h1 h0
  ·exact⟨n,hn,λm h0=>Nat.le_of_not_lt λh1=>hm ⟨m,h1,h0⟩⟩
variable{F:Fence}{P:Program}{n:Nat}{w:World}
theorem m8{c:Code}{Q:Exit->Act->World->Prop}{a:Act}(I:Nat->Act->World->Prop)(m0:Nat)(h0:I m0 a w)
  (round: ∀m a w,I m a w->c.wpIn F n P (Exit.then (λa' w'=> ∃m',m'<m/\I m' a' w') Q) a w):(Code.loop c).wpIn F n P Q a w:=by
 classical
 refine wpIn_loop (λa w=> ∃m,I m a w) (λa w=>if h: ∃m,I m a w then Classical.choose (pN h)else 0) ⟨m0,h0⟩ ?_
 intro a w h;have hm:=Classical.choose_spec (pN h);refine wpIn_mono (round (Classical.choose (pN h)) a w hm.1) ?_;intro e a' w' he;cases e with
 |normal=>
  obtain⟨m',h1,hI⟩:=he;have h': ∃m,I m a' w':=⟨m',hI⟩;refine⟨h',?_⟩;rw[dif_pos h',dif_pos h];exact Uf ((Classical.choose_spec (pN h')).2 m' hI) h1
 |_=>exact he
def Zk(w:World)(ds:List Deferred)(Ds:List Nat):Prop:=ds=Ds.map (λD=>{target:=.collected D,args:= #[]})/\Ds.Nodup/\ ∀D∈Ds,w.heap[D]?=some (.deferred (some []))
variable{B:Nat}
theorem bq{fn:Func}{tmps:Array Value}{R:Ending->World->Prop}: ∀(Ds:List Nat) (ds:List Deferred) (w:World),Zk w ds Ds->(∀D∈Ds,B<=D)->(∀w',Frm (λk=>B<=k/\ ∃o:Obj,w.heap[k]?=some o/\o.isCells=false) w w'->LeavesIn F n P fn tmps R [] .returning w')->LeavesInM F n P fn tmps R ds .returning w:=by
 intro Ds
 induction Ds with
 |nil=>
  intro ds w h _ hR;obtain⟨e,-,-⟩:=h;rw[e];exact hR w (Frm.refl _ _)
 |cons D Ds ih=>
  intro ds w h hB hR;obtain⟨e,hn,hd⟩:=h;rw[List.nodup_cons]at hn;have h1:=hd D (by simp)
  rw[e,List.map_cons];refine⟨by simp,.inl ⟨D,_,rfl,run_takeDeferred h1,?_⟩⟩
  refine ih _ _ ⟨rfl,hn.2,λD' h0=>?_⟩ (λD' h0=>hB D' (by simp[h0])) λw' hf=>?_
  ·rw[World.putObj_heap_other (by intro e2;rw[e2]at h0;exact hn.1 h0)]
   exact hd D' (by simp[h0])
  ·refine hR w' (Frm.trans (b:=w.putObj D (.deferred none)) ?_ hf λj hj he=>?_)
   ·refine⟨rfl,rfl,rfl,by simp[World.putObj],λk _ hx=>World.putObj_heap_other ?_⟩
    intro e2;exact hx ⟨by rw[e2];exact hB D (by simp),_,by rw[e2];exact h1,rfl⟩
   ·obtain⟨h2,o,h3,h4⟩:=he
    by_cases e2:j=D
    ·exact⟨h2,_,by rw[e2];exact h1,rfl⟩
    ·rw[World.putObj_heap_other e2]at h3
     exact⟨h2,o,h3,h4⟩
def vP(Bs b:Nat)(W W':World):Prop:=W'.heap[Bs]?=W.heap[Bs]?/\W'.heap[b]?=W.heap[b]?
theorem vP.t{Bs b:Nat}{A B C:World}(h:vP Bs b A B)(k:vP Bs b B C):vP Bs b A C:=⟨k.1.trans h.1,k.2.trans h.2⟩
theorem eW(F:Fence)(n:Nat)(h1:F.fn 176)(h0:F.round=none)(a:Option Addr)(len cap:Nat)(w:World):
  CallsIn F n prog 176 #[.slice a len cap] w λe w'=>e=.returned (.func (.func 202) #[] #[.pointer (some ⟨w.heap.size,0,none⟩)])/\w'=w.alloc (.cells #[.slice a len cap] 170):=by
 refine callsIn_of_wp func176 rfl h1 ?_ h0;simp only[ntmps176,List.size_toArray,OL,List.length_nil,Nat.reduceAdd,Nat.reduceSub,Array.replicate_succ,Array.replicate_zero,List.push_toArray,List.append_toArray,List.nil_append,List.cons_append]
 gi_wp2
 go_ret;exact⟨rfl,rfl⟩
abbrev Ix(us:List Value):Type:={i:Nat//i<us.length}
def Zl(us:List Value)(i:Ix us):Array Value:= #[.int .i64 (i.1:Int),us[i.1]'i.2]
theorem bs(F:Fence)(n:Nat)(h7:F.fn 202)(ha:F.round=none)(hn:1<=n)(l Bs b cap:Nat)(us:List Value)(hj:us.length<=100000000)(J Jx:List (Ix us)->World->Prop)
  (hY: ∀pre x W,J pre W->pre.length<us.length->YieldAt F (n-1) prog l (Zl us x) W λe W'=>
    (e=.returned (.bool true)/\J (pre++[x]) W'/\vP Bs b W W')\/(e=.returned (.bool false)/\Jx (pre++[x]) W'))
  (W:World) (he:W.cell? ⟨Bs,0,none⟩=some (.slice (some ⟨b,0,none⟩) us.length cap)) (hc: ∀j u,us[j]?=some u->W.cell? ⟨b,j,none⟩=some u) (h0:J [] W):
  CallsIn F n prog 202 #[.func (.yield l) #[] #[],.pointer (some ⟨Bs,0,none⟩)] W λe W'=>(∃v,e=.returned v)/\
   ((∃ys:List (Ix us),(∀i,i∈ys)/\J ys W')\/(∃pre,Jx pre W')):=by
 refine callsIn_of_wp func202 rfl h7 ?_ ha;simp only[ntmps202,List.size_toArray,OL,List.length_nil,Nat.reduceAdd,Nat.reduceSub,Array.replicate_succ,Array.replicate_zero,List.push_toArray,List.append_toArray,List.nil_append,List.cons_append]
 gi_wp2
 gi_loopw [3] (λi wr=> ∃(k:Nat) (pre:List (Ix us)),k<=us.length/\i=.int .i64 ((us.length:Int)-k-1)/\pre.length=k/\(∀x:Ix us,us.length-k<=x.1->x∈pre)/\J pre wr/\vP Bs b W wr)
  (λi _=>(intOf i+1).toNat)
 case atStart=>exact⟨0,[],Um _,by simp,rfl,λx hx=>by have:=x.2;omega,h0,rfl,rfl⟩
 case round=>
  obtain⟨k,pre,hk,rfl,hf,h1,h6,h4⟩:=hrel;by_cases hlt:k<us.length
  ·obtain⟨m,hm⟩: ∃m,us.length=k+1+m:=⟨us.length-(k+1),by omega⟩
   have h8:(us.length:Int)-k-1=(m:Int):=by omega
   rw[h8];have h3:m<us.length:=by omega
   obtain⟨u,hu⟩: ∃u,us[m]?=some u:=⟨_,OC h3⟩;have h2:Hid ((∀x:Ix us,us.length-k<=x.1->x∈pre)/\vP Bs b W wr):=⟨h1,h4⟩;have hi:wr.cell? ⟨Bs,0,none⟩=some (.slice (some ⟨b,0,none⟩) us.length cap):=by rw[←he];exact World.cell?_of_block h4.1
   have hg:wr.cell? ⟨b,m,none⟩=some u:=by rw[←hc m u hu];exact World.cell?_of_block h4.2
   have h9:us[m]'h3=u:=(OE.1 hu).2;obtain⟨fn,tmps,assign,body,hy,hR⟩:=hY pre ⟨m,h3⟩ wr h6 (by omega)
   unfold Zl at hy;dsimp only at hy;rw[h9]at hy;have HM:Hid (us.length=k+1+m):=hm;clear hm h8 h9 hu h4 h1
   gi_wp2
   refine hR.mono ?_;rintro e W3 (⟨rfl,hd,hb⟩|⟨rfl,h5⟩)
   ·gi_wp2
    go_roundw
    case rel=>
     refine⟨k+1,pre++[⟨m,h3⟩],by omega,?hv,by simp[hf],?h1,hd,h2.out.2.t hb⟩
     case hv=>exact congrArg (Value.int .i64) (by have:=HM.out;omega)
     case h1=>
      intro x hx;by_cases e:us.length-k<=x.1
      ·exact List.mem_append_left _ (h2.out.1 x e)
      ·refine List.mem_append_right _ (O3.2 (Subtype.ext ?_))
       show x.1=m
       have:=HM.out;omega
    case measure=>simp[intOf]
   ·gi_wp2
    refine bodyPost_ret (results_none rfl _ _ _) rfl ?_;exact⟨⟨_,rfl⟩,.inr ⟨_,h5⟩⟩
  ·obtain rfl:k=us.length:=by omega
   gi_wp2
   go_end0
   exact⟨⟨_,rfl⟩,.inl ⟨pre,λi=>h1 i (by omega),h6⟩⟩
open Go.RowKit
variable{L:TL}{S:TS}{U xs:List BA}{X:Nat->Prop}{f:Nod->Option Value}{lo sb tb:Nat}{ts:List (Nod×Nod)}{w':World}{who:Nod->Nat}
theorem TA.own(h:TA U ts xs lo tb sb f who L S w)(hf:Frm X w w')(hx: ∀k,k<w.heap.size->X k->k∉[L.mb,L.mt,L.mr,L.mu,L.ms,L.mw]/\ ∃o:Obj,w.heap[k]?=some o/\o.isCells=false):TA U ts xs lo tb sb f who L S w':=by
 have kC: ∀(k:Nat) (cur:Array Value) (t:TypeId),w.heap[k]?=some (.cells cur t (0,0))->w'.heap[k]?=w.heap[k]?:=by
  intro k cur t hk;refine hf.block k (qc hk) λh0=>?_;obtain⟨-,o,h1,h2⟩:=hx k (qc hk) h0;rw[hk]at h1;injection h1 with h1;rw[←h1]at h2;cases h2
 have kM: ∀(k:Nat) (Gd:Value->Prop) (m:List (Value×Value)),zt w Gd k m->k∈[L.mb,L.mt,L.mr,L.mu,L.ms,L.mw]->w'.heap[k]?=w.heap[k]?:=λk Gd m hk hm=>hf.block k hk.lt λh0=>(hx k hk.lt h0).1 hm;have kN: ∀{α:Type} {enc:α->Value} {cl:α->List Value} {Gd:Value->Prop} {tN tE:TypeId} {size nb mb:Nat} {sv:Value} {vs:List α},NumAt enc cl Gd tN tE size w lo nb mb sv vs->mb∈[L.mb,L.mt,L.mr,L.mu,L.ms,L.mw]->NumAt enc cl Gd tN tE size w' lo nb mb sv vs:=by
  intro α enc cl Gd tN tE size nb mb sv vs hh h3;refine⟨(kC nb _ _ hh.blk).trans hh.blk,hh.map.move (kM mb _ _ hh.map h3),qF hh.row λg hg=>?_,hh.nd,hh.lob,hh.lom⟩;obtain⟨-,-,cur,q⟩:=qf hh.row g hg;exact kC g cur _ q
 obtain⟨ms,h5,h7⟩:=h.t.sub;obtain⟨mw,h4,h6⟩:=h.t.wh;refine⟨⟨(kC tb _ _ h.t.blk).trans h.t.blk,kN h.t.th (by simp),kN h.t.rl (by simp),kN h.t.us (by simp),⟨ms,h5.move (kM _ _ _ h5.map (by simp)),h7⟩,⟨mw,h4.move (kM _ _ _ h4 (by simp)),h6⟩,h.t.ok,h.t.maps,h.t.ntu,h.t.stu,h.t.lob,h.t.los,h.t.low⟩,?_,?_,Ue h.sb hf.size,h.tn⟩
 ·refine h.s.keep hf λk hk e cur hc=>?_
  obtain⟨-,o,h1,h2⟩:=hx k (Ug hk h.sb) e;rw[hc]at h1;injection h1 with h1;rw[←h1]at h2;cases h2
 ·exact h.r.move (λGd m hm=>kM _ Gd m hm (by simp)) λg cur hg=>kC g cur _ hg
theorem TA.wide{sb':Nat}(h:TA U ts xs lo tb sb f who L S w)(h1:sb<=sb')(h2:sb'<=w.heap.size):TA U ts xs lo tb sb' f who L S w:=⟨h.t,h.s.size h1,h.r,h2,h.tn⟩
variable{L':TL}{S':TS}{who':Nod->Nat}
theorem GStep.keepO{w'':World}(h:GStep U ts xs lo tb sb f who L S w who' L' S' w')(hf:Frm X w' w'')(hb: ∀k,k<w.heap.size-> ¬X k)(hta:TA U ts xs lo tb sb f who' L' S' w''):GStep U ts xs lo tb sb f who L S w who' L' S' w'':=
 ⟨hta,h.fr.trans hf λj hj e=>absurd e (hb j hj),h.own,h.loc,h.ths,h.uss,h.pre,rfl⟩
structure NmS(nmb nlo nsb:Nat)(S:TS)(prs:List (Nod×Nod))(g:Nod->Option Value)(w:World):Prop where
 e: ∃m,yM w CxG nmb m/\ae S m g
 sa:SubAt w nlo nsb S prs g
variable{g:Nod->Option Value}{nlo nmb nsb:Nat}{prs:List (Nod×Nod)}
theorem NmS.keep(h:NmS nmb nlo nsb S prs g w)(hf:Frm X w w')(h1: ¬X nmb)(h2: ∀k,k<nsb->X k-> ∀cur:Array Value,w.heap[k]?≠some (.cells cur 136 (0,0))):NmS nmb nlo nsb S prs g w':=by
 obtain⟨m,e1,e2⟩:=h.e;exact⟨⟨m,e1.move (hf.block _ e1.lt h1),e2⟩,h.sa.keep hf h2⟩
theorem NmS.le(h:NmS nmb nlo nsb S prs g w)(hl:S.le S')(ok:S'.Ok U):NmS nmb nlo nsb S' prs g w:=by
 obtain⟨m,e1,e2⟩:=h.e;exact⟨⟨m,e1,e2.le hl ok⟩,h.sa.le hl⟩
theorem NmS.gstep(h:NmS nmb nlo nsb S prs g w)(h0:TA U ts xs lo tb sb f who L S w)(hn:nmb∉[L.mb,L.mt,L.mr,L.mu,L.ms,L.mw])(r:GStep U ts xs lo tb sb f who L S w who' L' S' w'):NmS nmb nlo nsb S' prs g w':=by
 refine(h.keep r.fr ?_ ?_).le r.le r.at'.t.ok
 ·obtain⟨m,e1,-⟩:=h.e
  intro hx;rcases hx with hx|hx
  ·have:=h0.t.rl.kindM hx e1.map
   exact hn (by rw[this];simp)
  ·exact hn (by rw[hx];simp)
 ·intro k _ hx cur hc
  rcases hx with hx|hx
  ·rcases h0.t.rl.kind hx hc with e|e<;>revert e<;>decide
  ·obtain⟨m,hm,-⟩:=h0.t.wh
   obtain⟨es,c,q,-⟩:=hm;rw[hx,q]at hc;injection hc with hc;cases hc
theorem GStep.cells(h0:TA U ts xs lo tb sb f who L S w)(r:GStep U ts xs lo tb sb f who L S w who' L' S' w'){k:Nat}{cur:Array Value}{t:TypeId}(hk:w.heap[k]?=some (.cells cur t (0,0)))(h1:t≠223)(h2:t≠9):w'.heap[k]?=w.heap[k]?:=by
 refine r.fr.block k (qc hk) λhx=>?_;rcases hx with hx|hx
 ·rcases h0.t.rl.kind hx hk with e|e
  ·exact h1 e
  ·exact h2 e
 ·obtain⟨m,hm,-⟩:=h0.t.wh
  obtain⟨es,c,q,-⟩:=hm;rw[hx,q]at hk;injection hk with hk;cases hk
structure SE where
 U:List BA
 ts:List (Nod×Nod)
 xs:List BA
 lo:Nat
 tb:Nat
 sb:Nat
 f:Nod->Option Value
 nmb:Nat
 nlo:Nat
 prs:List (Nod×Nod)
 g:Nod->Option Value
 met:List Nod
 us:List Nod
 B2:Nat
 B4:Nat
 maps:List Nat
structure SE.Ok(E:SE):Prop where
 nm:E.nmb∉E.maps
 prs: ∀x y,(x,y)∈E.prs↔y∈E.met/\x∈qI E.ts (qi E.xs) y
 nd:E.met.Nodup
 closed: ∀x∈E.met,∀y∈qI E.ts (qi E.xs) x,y∈E.met
def dA(L:TL):List Nat:=[L.mb,L.mt,L.mr,L.mu,L.ms,L.mw]
structure RngI(E:SE)(w0:World)(who1:Nod->Nat)(L1:TL)(S1:TS)(B5 nb5 mb5 sz5:Nat)(ds:List Deferred)(Ds:List Nat)(pend:Nod->Prop)(who2:Nod->Nat)(L2:TL)(S2:TS)(nx:List Nod)(sv5:Value)(W:World):Prop where
 g:GStep E.U E.ts E.xs E.lo E.tb E.sb E.f who1 L1 S1 w0 who2 L2 S2 W
 mp:dA L2=E.maps
 nm:NmS E.nmb E.nlo E.sb S2 E.prs E.g W
 m:MetAt L2 E.sb S2 W sz5 nb5 mb5 sv5 nx
 nmb5:mb5≠E.nmb
 b2:W.heap[E.B2]?=some (.cells [Value.pointer (some ⟨E.tb,0,none⟩)].toArray 81 (0,0))
 b4:W.heap[E.B4]?=some (.cells [Value.map (some E.nmb)].toArray 179 (0,0))
 b5:W.heap[B5]?=some (.cells [Value.pointer (some ⟨nb5,0,none⟩)].toArray 134 (0,0))
 kn: ∀y∈E.met,Kn S2 y
 nxm: ∀y∈nx,y∈E.met
 lg:SInv E.ts (qi E.xs) E.met E.us who2 (λy=>y∈nx\/pend y)
 gap:uD who2 E.met<=uD who1 E.met
 less:nx≠[]->uD who2 E.met<uD who1 E.met
 mrk:Zk W ds Ds
 sz:sz5<=W.heap.size
variable{B5 mb5 nb5 sz5:Nat}{Ds:List Nat}{E:SE}{L1 L2:TL}{S1 S2:TS}{W W2 w0:World}{ds:List Deferred}{nx:List Nod}{pend:Nod->Prop}{sv5:Value}{who1 who2:Nod->Nat}{x:Nod}
theorem RngI.told(ok:E.Ok)(h:RngI E w0 who1 L1 S1 B5 nb5 mb5 sz5 ds Ds pend who2 L2 S2 nx sv5 W)(hx:x∈E.met){L3:TL}{S3:TS}
  (r:GStep E.U E.ts E.xs E.lo E.tb E.sb E.f who2 L2 S2 W (upd who2 x (crW E.ts who2 x (qi E.xs x))) L3 S3 W2):
  (crW E.ts who2 x (qi E.xs x)=who2 x-> ∀pend':Nod->Prop,(∀y,pend y->y≠x->pend' y)->RngI E w0 who1 L1 S1 B5 nb5 mb5 sz5 ds Ds pend' (upd who2 x (crW E.ts who2 x (qi E.xs x))) L3 S3 nx sv5 W2)/\
  (crW E.ts who2 x (qi E.xs x)≠who2 x->uD (upd who2 x (crW E.ts who2 x (qi E.xs x))) E.met<uD who1 E.met/\RngI E w0 who1 L1 S1 B5 nb5 mb5 sz5 ds Ds (λy=>(pend y/\y≠x)\/(y∈E.met/\x∈qI E.ts (qi E.xs) y)) (upd who2 x (crW E.ts who2 x (qi E.xs x))) L3 S3 nx sv5 W2):=by
 have h0:=h.g.at';have h8:E.nmb∉dA L2:=by rw[h.mp];exact ok.nm
 have h5:dA L3=E.maps:=by rw[←h.mp,r.loc];rfl
 have base: ∀(pend':Nod->Prop),SInv E.ts (qi E.xs) E.met E.us (upd who2 x (crW E.ts who2 x (qi E.xs x))) (λy=>y∈nx\/pend' y)->(uD (upd who2 x (crW E.ts who2 x (qi E.xs x))) E.met<=uD who2 E.met)->RngI E w0 who1 L1 S1 B5 nb5 mb5 sz5 ds Ds pend' (upd who2 x (crW E.ts who2 x (qi E.xs x))) L3 S3 nx sv5 W2:=by
  intro pend' ha h3;refine⟨h.g.trans r,h5,h.nm.gstep h0 h8 r,h.m.gstep h0 r,h.nmb5,?_,?_,?_,λy hy=>(h.kn y hy).le r.le,h.nxm,ha,Ue h3 h.gap,λh1=>Uf h3 (h.less h1),?_,Ue h.sz r.fr.size⟩
  ·rw[r.cells h0 h.b2 (by decide) (by decide)];exact h.b2
  ·rw[r.cells h0 h.b4 (by decide) (by decide)];exact h.b4
  ·rw[r.cells h0 h.b5 (by decide) (by decide)];exact h.b5
  ·obtain⟨m1,m2,m3⟩:=h.mrk
   refine⟨m1,m2,λD hD=>?_⟩;have hd:=m3 D hD;have h4:D<W.heap.size:=(Array.getElem?_eq_some_iff.1 hd).1;rw[r.fr.block D h4 (λh9=>?_)]
   ·exact hd
   ·rcases h9 with(e|e|e)|e
    ·have:=h0.t.rl.blk;rw[←e,hd]at this;injection this with this;cases this
    ·obtain⟨es,c,q,-⟩:=h0.t.rl.map;rw[←e,hd]at q;injection q with q;cases q
    ·obtain⟨-,-,cur,q⟩:=qf h0.t.rl.row D e;rw[hd]at q;injection q with q;cases q
    ·obtain⟨mm,hm,-⟩:=h0.t.wh;obtain⟨es,c,q,-⟩:=hm;rw[←e,hd]at q;injection q with q;cases q
 have hb: ∀i,i<64->(who2 x).testBit i=true->(crW E.ts who2 x (qi E.xs x)).testBit i=true:=h.lg.up x hx;have h7:=h.lg.small
 constructor
 ·intro he pend' hp
  refine base pend' (h.lg.next hx (λy hy h1=>?_) (λh1=>absurd he h1)) ?_
  ·rcases hy with hy|hy
   ·exact Or.inl hy
   ·exact Or.inr (hp y hy h1)
  ·exact(fE E.met (by rw[he];exact Uc _)).1
 ·intro h1
  have h4:=Ge hb (h7 x) (cI h7 _) h1;have h2:=fE (who:=who2) (x:=x) (c:=crW E.ts who2 x (qi E.xs x)) E.met (Ub h4);refine⟨Ug (h2.2 hx h4) h.gap,base _ (h.lg.next hx (λy hy h6=>?_) (λ_ y hy hn=>Or.inr (Or.inr ⟨hy,hn⟩))) h2.1⟩;rcases hy with hy|hy
  ·exact Or.inl hy
  ·exact Or.inr (Or.inl ⟨hy,h6⟩)
variable{met:List Nod}{pend':Nod->Prop}
theorem SInv.mono{rule:Nod->WayT}{us:List Nod}(h:SInv ts rule met us who pend)(hp: ∀y∈met,pend y->pend' y):SInv ts rule met us who pend':=
 ⟨h.small,h.things,h.up,λx hx=>(h.fix x hx).imp id (hp x hx),h.sound,h.nodes⟩
theorem RngI.mono(h:RngI E w0 who1 L1 S1 B5 nb5 mb5 sz5 ds Ds pend who2 L2 S2 nx sv5 W)(hp: ∀y∈E.met,pend y->y∈nx\/pend' y):RngI E w0 who1 L1 S1 B5 nb5 mb5 sz5 ds Ds pend' who2 L2 S2 nx sv5 W:=
 ⟨h.g,h.mp,h.nm,h.m,h.nmb5,h.b2,h.b4,h.b5,h.kn,h.nxm,h.lg.mono λy hy e=>e.elim Or.inl (hp y hy),h.gap,h.less,h.mrk,h.sz⟩
variable{y:Nod}
theorem RngI.num(h:RngI E w0 who1 L1 S1 B5 nb5 mb5 sz5 ds Ds pend who2 L2 S2 nx sv5 W)(h6:w0.heap.size<=sz5)(h3:uD who2 E.met<uD who1 E.met)(hy:y∈E.met):
  Calls prog 135 #[.pointer (some ⟨nb5,0,none⟩),cxN S2 y] W λe W'=>(∃i:Nat,e=.returned (.int .i64 i))/\ ∃sv6,RngI E w0 who1 L1 S1 B5 nb5 mb5 sz5 ds Ds pend who2 L2 S2 (zz nx y) sv6 W'/\Frm (ur nb5 mb5 sv5) W W':=by
 have h0:=h.g.at';have h5:=vM h0.t.ok h.m.num.nd h.m.kn;refine(lX h0 h.m h.sz (by omega) (h.kn y hy)).mono ?_
 rintro e W' ⟨he,sv6,t',m',hf,ho⟩;have h4: ∀(k:Nat) (cur:Array Value) (t:TypeId),W.heap[k]?=some (.cells cur t (0,0))->t≠172->t≠136->W'.heap[k]?=W.heap[k]?:=by
  intro k cur t hk h1 h2;refine hf.block k (qc hk) λhx=>?_;rcases h.m.num.kind hx hk with e|e
  ·exact h1 e
  ·exact h2 e
 refine⟨he,sv6,⟨h.g.keepO hf (λk hk hx=>?_) t',h.mp,h.nm.keep hf (λhx=>?_) (λk hk hx cur hc=>?_),m',h.nmb5,?_,?_,?_,h.kn,?_,h.lg.mono λy hy e=>e.imp (λe=>yJ.2 (Or.inl e)) id,h.gap,λ_=>h3,?_,Ue h.sz hf.size⟩,hf⟩
 ·have:=(h.m.num.lt hx).2;omega
 ·obtain⟨m,e1,-⟩:=h.nm.e
  exact h.nmb5 (h.m.num.kindM hx e1.map).symm
 ·rcases hx with e|e|e
  ·have:=h.m.num.blk;rw[←e,hc]at this;injection this with this;injection this with _ this;revert this;decide
  ·obtain⟨es,c,q,-⟩:=h.m.num.map;rw[←e,hc]at q;injection q with q;cases q
  ·have:=h.m.svb k e;omega
 ·rw[h4 _ _ _ h.b2 (by decide) (by decide)];exact h.b2
 ·rw[h4 _ _ _ h.b4 (by decide) (by decide)];exact h.b4
 ·rw[h4 _ _ _ h.b5 (by decide) (by decide)];exact h.b5
 ·intro z hz
  rcases yJ.1 hz with hz|hz
  ·exact h.nxm z hz
  ·rw[hz];exact hy
 ·obtain⟨m1,m2,m3⟩:=h.mrk
  refine⟨m1,m2,λD hD=>?_⟩;have hd:=m3 D hD;rw[hf.block D (Array.getElem?_eq_some_iff.1 hd).1 (λhx=>?_)]
  ·exact hd
  ·rcases hx with e|e|e
   ·have:=h.m.num.blk;rw[←e,hd]at this;injection this with this;cases this
   ·obtain⟨es,c,q,-⟩:=h.m.num.map;rw[←e,hd]at q;injection q with q;cases q
   ·obtain⟨-,-,cur,q⟩:=qf h.m.num.row D e;rw[hd]at q;injection q with q;cases q
variable{W':World}
theorem RngI.own(h:RngI E w0 who1 L1 S1 B5 nb5 mb5 sz5 ds Ds pend who2 L2 S2 nx sv5 W)(hf:Frm X W W')(hX: ∀k,k<W.heap.size->X k->B<=k/\ ∃o:Obj,W.heap[k]?=some o/\o.isCells=false)
  (h7:w0.heap.size<=B) (hm: ∀k∈E.maps,k<B) (h9:E.nmb<B) (h8:mb5<B) (hD: ∀D∈Ds,D<B):RngI E w0 who1 L1 S1 B5 nb5 mb5 sz5 ds Ds pend who2 L2 S2 nx sv5 W':=by
 have h3: ∀(k:Nat) (cur:Array Value) (t:TypeId),W.heap[k]?=some (.cells cur t (0,0))-> ¬X k:=by
  intro k cur t hk hx;obtain⟨-,o,h1,h2⟩:=hX k (qc hk) hx;rw[hk]at h1;injection h1 with h1;rw[←h1]at h2;cases h2
 have h0: ∀(k:Nat) (cur:Array Value) (t:TypeId),W.heap[k]?=some (.cells cur t (0,0))->W'.heap[k]?=some (.cells cur t (0,0)):=λk cur t hk=>(hf.block k (qc hk) (h3 k cur t hk)).trans hk;have h6:TA E.U E.ts E.xs E.lo E.tb E.sb E.f who2 L2 S2 W':=h.g.at'.own hf λk hk hx=>⟨λh4=>by
  have h1:k∈E.maps:=by rw[←h.mp];exact h4
  have:=hm k h1;have:=(hX k hk hx).1;omega,(hX k hk hx).2⟩
 refine⟨h.g.keepO hf (λk hk hx=>?_) h6,h.mp,h.nm.keep hf (λhx=>?_) (λk hk hx cur hc=>h3 k cur _ hc hx),h.m.keep hf λk hk hx=>?_,h.nmb5,h0 _ _ _ h.b2,h0 _ _ _ h.b4,h0 _ _ _ h.b5,h.kn,h.nxm,h.lg,h.gap,h.less,?_,Ue h.sz hf.size⟩
 ·have h1:=h.g.fr.size
  have:=(hX k (by omega) hx).1;omega
 ·obtain⟨m,e1,-⟩:=h.nm.e
  have:=(hX _ e1.lt hx).1;omega
 ·rcases hk with e|e|e
  ·rw[e]at hx;exact h3 _ _ _ h.m.num.blk hx
  ·rw[e]at hx
   have:=(hX _ h.m.num.map.lt hx).1;omega
  ·obtain⟨-,-,cur,q⟩:=qf h.m.num.row k e
   exact h3 _ _ _ q hx
 ·obtain⟨m1,m2,m3⟩:=h.mrk
  refine⟨m1,m2,λD h5=>?_⟩;have hd:=m3 D h5;rw[hf.block D (Array.getElem?_eq_some_iff.1 hd).1 (λhx=>?_)]
  ·exact hd
  ·have:=(hX D (Array.getElem?_eq_some_iff.1 hd).1 hx).1
   have:=hD D h5;omega
open Go.RowKit Go.Shelf
attribute [local go_sem] Oper.semAt_some
theorem rA(n:Nat)(hn:1<=n)(Bs b cap:Nat)(us:List Value)(hus:us.length<=100000000)(w:World)(hBs:Bs<w.heap.size)(hb:b<w.heap.size)(h0:w.cell? ⟨Bs,0,none⟩=some (.slice (some ⟨b,0,none⟩) us.length cap))(hc: ∀j u,us[j]?=some u->w.cell? ⟨b,j,none⟩=some u):
  SeqStopsK Fence.wide n prog 202 #[.pointer (some ⟨Bs,0,none⟩)] (Zl us) (vP Bs b) (λys=> ∀i,i∈ys) (λ_=>True) us.length w:=λl J Jx W hW _ _ hY hJ0=>by
 refine(bs Fence.wide n trivial rfl hn l Bs b cap us hus J Jx hY W ((hW.cell (p:=⟨Bs,0,none⟩) hBs).trans h0) (λj u hj=>(hW.cell (p:=⟨b,j,none⟩) hb).trans (hc j u hj)) hJ0).mono ?_;rintro e W' ⟨he,⟨ys,h1,h2⟩|⟨pre,h1⟩⟩
 ·exact⟨he,.inl ⟨ys,h1,h2⟩⟩
 ·exact⟨he,.inr ⟨pre,trivial,h1⟩⟩
structure SetI(E:SE)(wC:World)(who0:Nod->Nat)(L0:TL)(S0:TS)(cur:List Nod)(o:Option Addr)(ds:List Deferred)(Ds:List Nat)(who1:Nod->Nat)(L1:TL)(S1:TS)(m:Nat)(W:World):Prop where
 g:GStep E.U E.ts E.xs E.lo E.tb E.sb E.f who0 L0 S0 wC who1 L1 S1 W
 mp:dA L1=E.maps
 nm:NmS E.nmb E.nlo E.sb S1 E.prs E.g W
 b2:W.heap[E.B2]?=some (.cells [Value.pointer (some ⟨E.tb,0,none⟩)].toArray 81 (0,0))
 b4:W.heap[E.B4]?=some (.cells [Value.map (some E.nmb)].toArray 179 (0,0))
 row: ∀(j:Nat) (y:Nod),cur[j]?=some y-> ∃gg,o=some ⟨gg,0,none⟩/\W.cell? ⟨gg,j,none⟩=some (cxN S1 y)/\ ∃cr,W.heap[gg]?=some (.cells cr 136 (0,0))
 kc: ∀y∈cur,y∈E.met
 cl:cur.length<=32000000
 kn: ∀y∈E.met,Kn S1 y
 lg:SInv E.ts (qi E.xs) E.met E.us who1 (· ∈cur)
 mrk:Zk W ds Ds
 mD: ∀D∈Ds,wC.heap.size<=D
 ms:m=2 * uD who1 E.met+(if cur=[]then 0 else 1)
abbrev jM(cur:List Nod)(us:List Value)(pre:List (Ix us))(y:Nod):Prop:= ∃i:Ix us,i∉pre/\cur[i.1]?=some y
variable{L0:TL}{S0:TS}{cur:List Nod}{m:Nat}{o:Option Addr}{w2 w4 wC:World}{who0:Nod->Nat}
theorem SetI.begin(h:SetI E wC who0 L0 S0 cur o ds Ds who1 L1 S1 m W)
  (hn:lJ (cxN S1) w2 W.heap.size nb5 mb5 sv5 []) (h4:Below W.heap.size W w2) (h3:Below w2.heap.size w2 w4) (h5:w4.heap[B5]?=some (.cells [Value.pointer (some ⟨nb5,0,none⟩)].toArray 134 (0,0))):
  RngI E W who1 L1 S1 B5 nb5 mb5 W.heap.size ds Ds (jM cur (cur.map (cxN S1)) []) who1 L1 S1 [] sv5 w4:=by
 have hb:Below W.heap.size W w4:=h4.trans (h3.mono h4.size);have h0:=h.g.at';have r:=RStep.below h0.t hb;have h2: ∀k∈E.maps,k<W.heap.size:=λk hk=>by
  rw[←h.mp]at hk;exact h0.maps_lt hk
 obtain⟨m0,e1,e2⟩:=h.nm.e;refine⟨GStep.of h0 r,h.mp,⟨⟨m0,e1.move (hb.block _ e1.lt),e2⟩,h.nm.sa.keep (X:=λ_=>False) (Frm.of_below hb) (λ_ _ e=>e.elim)⟩,⟨hn.keep (X:=λ_=>False) (Frm.of_below h3) (λ_ _ e=>e),λy hy=>by simp at hy,λhm=>?_,λk hk=>Ue h0.sb (qf hn.row k hk).2.1⟩,?_,(hb.block _ (qc h.b2)).trans h.b2,(hb.block _ (qc h.b4)).trans h.b4,h5,h.kn,λy hy=>by simp at hy,h.lg.mono λy _ hy=>Or.inr ?_,Uc _,λh6=>absurd rfl h6,?_,hb.size⟩
 ·have h1:mb5∈E.maps:=by rw[←h.mp];exact hm
  have:=h2 mb5 h1;have:=hn.lom;omega
 ·have:=e1.lt;have:=hn.lom;omega
 ·obtain⟨i,hi⟩:=OX.1 hy
  exact⟨⟨i,by rw[OM];exact(OE.1 hi).1⟩,by simp,hi⟩
 ·obtain⟨m1,m2,m3⟩:=h.mrk
  exact⟨m1,m2,λD hD=>(hb.block D (Array.getElem?_eq_some_iff.1 (m3 D hD)).1).trans (m3 D hD)⟩
theorem SetI.over(h:SetI E wC who0 L0 S0 cur o ds Ds who1 L1 S1 m W)(h5:cur≠[])
  (hr:RngI E W who1 L1 S1 B5 nb5 mb5 W.heap.size ds Ds pend who2 L2 S2 nx sv5 W') (hp: ∀y,¬pend y) {D:Nat} (hD:W.heap.size<=D) (hK:W'.heap[D]?=some (.deferred (some []))):
  ∃o' c' m',sv5=.slice o' nx.length c'/\m'<m/\SetI E wC who0 L0 S0 nx o' ({target:=.collected D,args:= #[]}::ds) (D::Ds) who2 L2 S2 m' W':=by
 obtain⟨o',c',h2⟩:=qz hr.m.num.row;refine⟨o',c',2 * uD who2 E.met+(if nx=[]then 0 else 1),h2,?_,h.g.trans hr.g,hr.mp,hr.nm,hr.b2,hr.b4,λj y hj=>?_,hr.nxm,vM hr.g.at'.t.ok hr.m.num.nd hr.m.kn,hr.kn,hr.lg.mono λy _ e=>e.elim id λe=>absurd e (hp y),?_,λD' h1=>?_,rfl⟩
 ·rw[h.ms,if_neg h5]
  by_cases e:nx=[]
  ·rw[if_pos e];have:=hr.gap;omega
  ·rw[if_neg e];have:=hr.less e;omega
 ·have h3:0<nx.length:=by have:=(OE.1 hj).1;omega
  obtain⟨gg,cap,h4,hc⟩:=xj hr.m.num.row h3;rw[h2]at h4;have eo:=(Value.slice.inj h4).1;have h0:sv5.ownBlock=some gg:=by rw[h2,eo];rfl
  refine⟨gg,eo,hc j _ ?_,(qf hr.m.num.row gg h0).2.2⟩;rw[nN,OF,hj];rfl
 ·obtain⟨m1,m2,m3⟩:=hr.mrk
  refine⟨by rw[List.map_cons,m1],?_,λD' h1=>?_⟩
  ·rw[List.nodup_cons]
   refine⟨λhm=>?_,m2⟩;obtain⟨-,-,q3⟩:=h.mrk;have:=(Array.getElem?_eq_some_iff.1 (q3 D hm)).1;omega
  ·rcases OT.1 h1 with e|e
   ·rw[e];exact hK
   ·exact m3 D' e
 ·rcases OT.1 h1 with e|e
  ·rw[e];exact Ue h.g.fr.size hD
  ·exact h.mD D' e
theorem GStep.keepsFrom(h0:TA E.U E.ts E.xs E.lo E.tb E.sb E.f who L S W)(hm:dA L=E.maps)(r:GStep E.U E.ts E.xs E.lo E.tb E.sb E.f who L S W who' L' S' W2)(hB: ∀k∈E.maps,k<B):KeepsFrom B W W2:=by
 refine⟨r.fr.size,λk o hk ho hn=>?_⟩;rw[r.fr.block k (Array.getElem?_eq_some_iff.1 ho).1 (λhx=>?_)]
 ·exact ho
 ·have h1: ∀j,j∈dA L->j<B:=λj hj=>hB j (by rw[←hm];exact hj)
  rcases hx with(e|e|e)|e
  ·have:=h0.t.rl.blk;rw[←e,ho]at this;injection this with this;rw[this]at hn;cases hn
  ·have:=h1 L.mr (by simp[dA]);omega
  ·obtain⟨-,-,cur,q⟩:=qf h0.t.rl.row k e;rw[ho]at q;injection q with q;rw[q]at hn;cases hn
  ·have:=h1 L.mw (by simp[dA]);omega
variable{mb nb:Nat}{sv:Value}
theorem t7{α:Type}{enc:α->Value}{cl:α->List Value}{Gd:Value->Prop}{tN tE:TypeId}{size:Nat}{vs:List α}(h:NumAt enc cl Gd tN tE size W lo nb mb sv vs)(hf:Frm (ur nb mb sv) W W')(hB:mb<B):KeepsFrom B W W':=by
 refine⟨hf.size,λk o hk ho hn=>?_⟩;rw[hf.block k (Array.getElem?_eq_some_iff.1 ho).1 (λhx=>?_)]
 ·exact ho
 ·rcases hx with e|e|e
  ·have:=h.blk;rw[←e,ho]at this;injection this with this;rw[this]at hn;cases hn
  ·omega
  ·obtain⟨-,-,cur,q⟩:=qf h.row k e;rw[ho]at q;injection q with q;rw[q]at hn;cases hn
theorem NmS.look2(h:NmS nmb nlo nsb S prs g w)(ok:S.Ok U)(kx:Kn S x):
  ∃o c,(Instr.lookup 179 (.map (some nmb)) (cxN S x) false).run prog w=.ok (.slice o (qy prs x).length c) w/\(qy prs x=[]\/g x=some (.slice o (qy prs x).length c)):=by
 obtain⟨m,h1,h2⟩:=h.e;have hl:=(uV da underlying179 h1.map (ok.good kx) (zeroValue170 w)).2;rw[h2.2.1 x kx]at hl;cases hf:g x with
 |none=>
  rw[hf]at hl;rw[h.sa.no x hf];exact⟨none,0,hl,Or.inl rfl⟩
 |some v=>
  rw[hf]at hl;obtain⟨o,c,hv⟩:=qz (h.sa.row x v hf).1;subst hv;exact⟨o,c,hl,Or.inr rfl⟩
theorem NmS.cellAt(h:NmS nmb nlo nsb S prs g w){c:Nat}(hg:qy prs x=[]\/g x=some (.slice o (qy prs x).length c)){j:Nat}(hj:(qy prs x)[j]?=some y): ∃gg,o=some ⟨gg,0,none⟩/\w.cell? ⟨gg,j,none⟩=some (cxN S y):=by
 rcases hg with hg|hg
 ·rw[hg]at hj;simp at hj
 ·obtain⟨r1,-⟩:=h.sa.row x _ hg
  have h0:=vw (us:=(qy prs x).map (cxN S)) (by rw[OM];exact r1)
  obtain⟨o',c',he,hc⟩:=h0;obtain⟨gg,e1,e2⟩:=hc j (cxN S y) (by rw[OF,hj];rfl)
  exact⟨gg,(Value.slice.inj he).1.trans e1,e2⟩
attribute [local go_sem] Oper.semAt_some
theorem Zm(HW:Hid xh)(cov:Cov U xs)(h:TA U ts xs lo tb sb f who L S w){rv:Value}(H7:yz w rv (met.map (cxN S)))(hk: ∀y∈met,Kn S y)(Hf:met.Nodup)(h0: ∀y∈met,y.isTh=false)(hY: ∀x∈met,∀y∈qI ts (qi xs) x,y∈met)(Hm: ∀g n c,rv=.slice (some ⟨g,0,none⟩) n c-> ∃cur,w.heap[g]?=some (.cells cur 136 (0,0)))
  (HN: ∀y,who y<2 ^ 64) (I2: ∀y:Nod,y.isTh=true-> ∀i,i<64->((who y).testBit i=true↔S.uss[i]?=some y)) (He: ∀y:Nod,y.isTh=false->who y=0):
  Calls prog 129 #[.pointer (some ⟨tb,0,none⟩),rv] w λe w'=>e=.returned (.tuple #[])/\ ∃who' L' S',GStep U ts xs lo tb sb f who L S w who' L' S' w'/\(∀y,who' y<2 ^ 64)/\ ∀x∈met,∀i,i<64-> ∀u,S.uss[i]?=some u->((who' x).testBit i=true↔Std ts (qi xs) u x):=by
 obtain⟨o,c,rfl,h7⟩:=H7;rw[OM];have Hj:=vM h.t.ok Hf hk;have HU:Hid (∀w1,Below w.heap.size w w1->CallsIn Fence.wide 8 prog 175 #[.pointer (some ⟨tb,0,none⟩),.slice o met.length c] w1 λe w'=>e=.returned (.map (some w1.heap.size))/\ ∃g L' S',NmrInv U ts xs lo tb sb f who L S w1 (prK ts xs met met.length) g L' S' w'):=by
  intro w1 h9;have hP:yz w1 (.slice o met.length c) (met.map (cxN S)):=yz.below (w:=w) ⟨o,c,by rw[OM],h7⟩ h9
  exact callsIn_wide.2 (Xe HW cov (h.below h9) hP hk Hj λg n' c' e=>by
   obtain⟨cur,hc⟩:=Hm g n' c' (by rw[OM];exact e)
   exact⟨cur,(h9.block g (qc hc)).trans hc⟩)
 refine(callsIn_wide (n:=9)).1 ?_;refine callsIn_of_wp_marks func129 rfl trivial ?_ rfl;simp only[ntmps129,List.size_toArray,OL,List.length_nil,Nat.reduceAdd,Nat.reduceSub,Array.replicate_succ,Array.replicate_zero,List.push_toArray,List.append_toArray,List.nil_append,List.cons_append];have Iv: ∀k,Fence.wide.fn k:=λ_=>trivial;have HH:Hid (TA U ts xs lo tb sb f who L S w):=h
 gi_wp2_with (gi_at_call 175;refine(HU.out _ bl).mono ?_;rintro e w1 ⟨rfl,g,L1,S1,hI⟩;have HI:Hid (NmrInv U ts xs lo tb sb f who L S (w.alloc (.cells #[.pointer (some ⟨tb,0,none⟩)] 81)) (prK ts xs met met.length) g L1 S1 w1):=hI;clear hI)
 have Hx:(w.alloc (.cells #[.pointer (some ⟨tb,0,none⟩)] 81)).heap.size=w.heap.size+1:=by show(w.heap.push _).size=_;simp
 have hZ:Below w.heap.size w (w.alloc (.cells #[.pointer (some ⟨tb,0,none⟩)] 81)):=bl;obtain⟨E,hE⟩: ∃E:SE,E=⟨U,ts,xs,lo,tb,w1.heap.size,f,w.heap.size+1,w.heap.size+1,prK ts xs met met.length,g,met,S.uss,w.heap.size,w1.heap.size,dA L⟩:=⟨_,rfl⟩;have Hp:Hid (SetI E (w1.alloc (.cells #[.map (some (w.heap.size+1))] 179)) who L1 S1 met o [] [] who L1 S1 (2 * uD who met+(if met=[]then 0 else 1)) (w1.alloc (.cells #[.map (some (w.heap.size+1))] 179))):=by
  have hI:=HI.out;have h9:Below w1.heap.size w1 (w1.alloc (.cells #[.map (some (w.heap.size+1))] 179)):=bl;have rr:=(RStep.below h.t hZ).trans hI.st;have Ht:TA U ts xs lo tb w1.heap.size f who L1 S1 (w1.alloc (.cells #[.map (some (w.heap.size+1))] 179)):=(hI.ta.wide hI.ta.sb (Uc _)).below h9;obtain⟨m0,e1,e2⟩:=hI.e;have HP:=hI.sa;rw[Hx]at e1 HP;have HE:w1.heap[w.heap.size]?=some (.cells [Value.pointer (some ⟨tb,0,none⟩)].toArray 81 (0,0)):=by
   have hn:=qn w [Value.pointer (some ⟨tb,0,none⟩)] 81;rw[hI.st.kind (h.below hZ).t hn (by decide) (by decide)]
   exact hn
  rw[hE];refine⟨GStep.of Ht (RStep.below Ht.t (Ou _ _)),?_,⟨⟨m0,e1.move (h9.block _ e1.lt),e2⟩,HP.keep (X:=λ_=>False) (Frm.of_below h9) (λ_ _ e=>e.elim)⟩,(h9.block _ (qc HE)).trans HE,qn w1 [Value.map (some (w.heap.size+1))] _,?_,λy hy=>hy,Hj,λy hy=>(hk y hy).le rr.le,⟨HN,I2,?_,?_,?_,h0⟩,⟨rfl,List.nodup_nil,λD hD=>by simp at hD⟩,λD hD=>by simp at hD,rfl⟩
  ·rw[rr.loc];rfl
  ·intro j y hj
   obtain⟨gg,e3,e4⟩:=h7 j (cxN S y) (by rw[OF,hj];rfl)
   obtain⟨cr,hq⟩:=Hm gg _ c (by rw[e3])
   have h5:(w1.alloc (.cells #[.map (some (w.heap.size+1))] 179)).heap[gg]?=w.heap[gg]?:=by
    rw[h9.block gg (Ug (qc hq) rr.fr.size)];exact rr.kind h.t hq (by decide) (by decide)
   refine⟨gg,e3,?_,cr,h5.trans hq⟩;rw[yI rr.le (hk y (OZ hj)),←e4];exact World.cell?_of_block h5
  ·intro x hx i hi hb
   rw[He x (h0 x hx)]at hb;simp at hb
  ·intro x hx;exact Or.inr hx
  ·intro x hx i hi u hu hb
   rw[He x hx]at hb;simp at hb
 have hJ:Hid (SE.Ok E):=by
  rw[hE];refine⟨?_,λx y=>?_,Hf,hY⟩
  ·intro hm
   have H1:w.heap.size+1<w.heap.size:=h.maps_lt hm;omega
  ·show(x,y)∈prK ts xs met met.length↔_
   unfold prK;rw[O7 (Uc _),List.mem_flatMap]
   constructor
   ·rintro⟨z,hz,hm⟩
    obtain⟨v,hv,e⟩:=OY.1 hm;injection e with e1 e2;subst e1 e2;exact⟨hz,hv⟩
   ·rintro⟨h1,h2⟩
    exact⟨y,h1,OY.2 ⟨x,h2,rfl⟩⟩
 have H8:Hid (Cov E.U E.xs/\E.tb=tb/\E.nmb=w.heap.size+1/\E.B2=w.heap.size/\E.B4=w1.heap.size):=by rw[hE];exact⟨cov,rfl,rfl,rfl,rfl⟩
 have h6:Hid (RStep U lo tb f who L S w L1 S1 (w1.alloc (.cells #[.map (some (w.heap.size+1))] 179))):=((RStep.below h.t hZ).trans HI.out.st).trans (RStep.below HI.out.ta.t bl);clear h h7 Hm hk Hf hY h0 HN I2 He hZ Hx HI HU;obtain⟨wC,Ic⟩: ∃wC,w1.alloc (.cells #[.map (some (w.heap.size+1))] 179)=wC:=⟨_,rfl⟩;rw[Ic]at Hp h6 ⊢;refine m8 (λm a W=> ∃(cur:List Nod) (o1:Option Addr) (c1:Nat) (ds:List Deferred) (Ds:List Nat) (who1:Nod->Nat) (L2:TL) (S2:TS) (u5 u7 u9 u13 u14 u15 u16 u17 u18 u19 u20 u21 u22 u23 u24 u25 u26 u27 u28 u29 u30 u31 u32 u33 u34 u35 u36 u37 u38 u39 u40:Value),a={tmps:= #[.pointer (some ⟨tb,0,none⟩),.slice o1 cur.length c1,.pointer (some ⟨w.heap.size,0,none⟩),undef,.pointer (some ⟨w1.heap.size,0,none⟩),u5,undef,u7,undef,u9,.pointer (some ⟨tb,0,none⟩),.slice o met.length c,.map (some (w.heap.size+1)),u13,u14,u15,u16,u17,u18,u19,u20,u21,u22,u23,u24,u25,u26,u27,u28,u29,u30,u31,u32,u33,u34,u35,u36,u37,u38,u39,u40],defers:=ds}/\SetI E wC who L1 S1 cur o1 ds Ds who1 L2 S2 m W) _ ⟨met,o,c,[],[],who,L1,S1,undef,undef,undef,undef,undef,undef,undef,undef,undef,undef,undef,undef,undef,undef,undef,undef,undef,undef,undef,undef,undef,undef,undef,undef,undef,undef,undef,undef,undef,undef,undef,rfl,Hp.out⟩ ?_;rintro m a W ⟨cur,o1,c1,ds,Ds,who1,L2,S2,u5,u7,u9,u13,u14,u15,u16,u17,u18,u19,u20,u21,u22,u23,u24,u25,u26,u27,u28,u29,u30,u31,u32,u33,u34,u35,u36,u37,u38,u39,u40,rfl,hI⟩;have HI:Hid (SetI E wC who L1 S1 cur o1 ds Ds who1 L2 S2 m W):=hI;have hY:=hI.cl;clear hI Hp;by_cases hne:cur=[]
 ·subst hne
  dsimp only[List.length_nil]
  gi_wp2
  show LeavesInM Fence.wide 9 prog f129 _ _ ds .returning W
  refine bq (B:=wC.heap.size) Ds ds W HI.out.mrk HI.out.mD λw' hf=>?_;refine⟨.tuple #[],results_none rfl _ _ _,rfl,who1,L2,S2,?_,HI.out.lg.small,?_⟩
  ·have gI:=HI.out.g
   have HX:=HI.out.mp;rw[hE]at gI HX;have Hl: ∀k∈dA L2,k<wC.heap.size:=λk hk=>by
    rw[HX]at hk;exact Ug (HH.out.maps_lt hk) h6.out.fr.size
   have he:=gI.at'.own hf λk hk hx=>⟨λhm=>by have:=Hl k hm;have:=hx.1;omega,hx.2⟩
   have I5:TA U ts xs lo tb sb f who1 L2 S2 w':=⟨he.t,⟨λx v hv=>⟨(he.s.row x v hv).1,(HH.out.s.row x v hv).2⟩,he.s.no,he.s.kn,he.s.apart⟩,he.r,Ue HH.out.sb (Ue h6.out.fr.size (Ue gI.fr.size hf.size)),he.tn⟩;have H5:=h6.out.loc;refine⟨I5,((h6.out.fr.mono λ_ _ e=>Or.inl e).trans gI.fr (λj hj e=>?_)).trans hf (λj hj e=>?_),λk hk=>?_,by rw[gI.loc,H5],gI.ths.trans h6.out.ths,gI.uss.trans h6.out.uss,h6.out.pre.trans gI.pre,rfl⟩
   ·rcases e with(e|e|e)|e
    ·rw[H5]at e;exact Or.inl (Or.inl e)
    ·rw[H5]at e;exact Or.inl (Or.inr (Or.inl e))
    ·rcases h6.out.own j e with e|e
     ·exact Or.inl (Or.inr (Or.inr e))
     ·omega
    ·rw[H5]at e;exact Or.inr e
   ·have:=h6.out.fr.size
    have:=e.1;omega
   ·rcases gI.own k hk with e|e
    ·exact h6.out.own k e
    ·exact Or.inr (Ue h6.out.fr.size e)
  ·have HC:=HI.out.lg
   have HB:=hJ.out;rw[hE]at HC HB;intro x hx i hi u hu;exact HC.done (λx _ e=>by cases e) HB.closed hx hi hu
 ·obtain⟨nn,H3⟩: ∃nn,cur.length=nn:=⟨_,rfl⟩
  have Ho:0<nn:=by rw[←H3];exact List.length_pos_iff.2 hne
  have HT:Hid (cur.length=nn):=H3;have Im:Hid (cur≠[]):=hne;rw[H3]at hY ⊢;clear H3 hne;have Ik:Hid (CallsIn Fence.wide 8 prog 85 #[.slice none 0 0] W (yY (cxN S2) (λa=>[cxN S2 a]) CxG 172 136 1 W [])):=callsIn_wide.2 (Yj (cxN S2) W);have Ie:Hid (∀w3,CallsIn Fence.wide 8 prog 176 #[.slice o1 nn c1] w3 λe w'=>e=.returned (.func (.func 202) #[] #[.pointer (some ⟨w3.heap.size,0,none⟩)])/\w'=w3.alloc (.cells #[.slice o1 nn c1] 170)):=λw3=>eW Fence.wide 8 trivial rfl o1 nn c1 w3
  gi_wp2_with (first|(gi_at_call 85;refine Ik.out.mono ?_;rintro e w2 ⟨nb5,mb5,sv5,rfl,Hv,HM⟩;have hL:Hid (lJ (cxN S2) w2 W.heap.size nb5 mb5 sv5 []/\Below W.heap.size W w2):=⟨Hv,HM⟩;clear Hv HM)|(gi_at_call 176;refine(Ie.out _).mono ?_;rintro e w4 ⟨rfl,hN⟩;subst w4))
  obtain⟨y0,I8⟩: ∃y0,cur[0]?=some y0:=⟨_,OC (by rw[HT.out];exact Ho)⟩
  obtain⟨b,Iq,-,cr,hq⟩:=HI.out.row 0 y0 I8;subst Iq;have HK:(w2.alloc (.cells #[.pointer (some ⟨nb5,0,none⟩)] 134)).heap.size=w2.heap.size+1:=by show(w2.heap.push _).size=_;simp
  have Hc:Below w2.heap.size w2 ((w2.alloc (.cells #[.pointer (some ⟨nb5,0,none⟩)] 134)).alloc (.cells #[.slice (some ⟨b,0,none⟩) nn c1] 170)):=bl;obtain⟨w4,hN⟩: ∃w4,(w2.alloc (.cells #[.pointer (some ⟨nb5,0,none⟩)] 134)).alloc (.cells #[.slice (some ⟨b,0,none⟩) nn c1] 170)=w4:=⟨_,rfl⟩;have Ij:w4.heap[w2.heap.size]?=some (.cells [Value.pointer (some ⟨nb5,0,none⟩)].toArray 134 (0,0)):=by rw[←hN];exact qG (qn w2 [Value.pointer (some ⟨nb5,0,none⟩)] _) _
  have HF:w4.heap[w2.heap.size+1]?=some (.cells [Value.slice (some ⟨b,0,none⟩) nn c1].toArray 170 (0,0)):=by rw[←hN,←HK];exact qn _ [Value.slice (some ⟨b,0,none⟩) nn c1] _
  have Iz:w4.heap.size=w2.heap.size+2:=by rw[←hN];show((w2.alloc _).heap.push _).size=_;rw[Array.size_push,HK]
  rw[hN]at Hc ⊢;have hp:Below W.heap.size W w4:=hL.out.2.trans (Hc.mono hL.out.2.size);have H4:b<W.heap.size:=qc hq;have It:W.heap.size<=w2.heap.size:=hL.out.2.size;have hM:Hid (RngI E W who1 L2 S2 w2.heap.size nb5 mb5 W.heap.size ds Ds (jM cur (cur.map (cxN S2)) []) who1 L2 S2 [] sv5 w4):=HI.out.begin hL.out.1 hL.out.2 Hc Ij;have hU:mb5<w4.heap.size:=hM.out.m.num.map.lt;have ha: ∀k∈E.maps,k<w4.heap.size:=λk hk=>by
   have h1:k<W.heap.size:=by rw[←HI.out.mp]at hk;exact HI.out.g.at'.maps_lt hk
   have:=hp.size;omega
  have Hn:E.nmb<w4.heap.size:=by
   obtain⟨m0,e1,-⟩:=hM.out.nm.e;exact e1.lt
  have Hb: ∀D∈Ds,D<w4.heap.size:=λD hD=>(Array.getElem?_eq_some_iff.1 (hM.out.mrk.2.2 D hD)).1;have h8:Hid ((∀k∈E.maps,k<w4.heap.size)/\mb5<w4.heap.size/\b<W.heap.size/\W.heap.size<=w4.heap.size):=⟨ha,hU,H4,hp.size⟩;obtain⟨us,hT⟩: ∃us,cur.map (cxN S2)=us:=⟨_,rfl⟩;have If:us.length=nn:=by rw[←hT,OM,HT.out]
  have Is: ∀(j:Nat) (y:Nod),cur[j]?=some y->us[j]?=some (cxN S2 y):=λj y hj=>by rw[←hT,OF,hj];rfl
  have HD: ∀(j:Nat) (u:Value),us[j]?=some u-> ∃y,cur[j]?=some y/\u=cxN S2 y:=λj u hj=>by
   rw[←hT,OF,Un]at hj;obtain⟨y,hy,e⟩:=hj;exact⟨y,hy,e.symm⟩
  rw[hT]at hM;clear hT;have Hg:Hid (∀W',W'.heap[w2.heap.size+1]?=some (.cells [Value.slice (some ⟨b,0,none⟩) nn c1].toArray 170 (0,0))/\(∃cr,W'.heap[b]?=some (.cells cr 136 (0,0)))-> ∀W2,(∀(k:Nat) (cr:Array Value) (t:TypeId),W'.heap[k]?=some (.cells cr t (0,0))->(t=136/\k<W.heap.size)\/t=170->W2.heap[k]?=W'.heap[k]?)->vP (w2.heap.size+1) b W' W2/\W2.heap[w2.heap.size+1]?=some (.cells [Value.slice (some ⟨b,0,none⟩) nn c1].toArray 170 (0,0))/\(∃cr,W2.heap[b]?=some (.cells cr 136 (0,0)))):=by
   rintro W' ⟨h1,cr,h2⟩ W2 hk;have e1:=hk _ _ _ h1 (Or.inr rfl);have e2:=hk _ _ _ h2 (Or.inl ⟨rfl,H4⟩);exact⟨⟨e1,e2⟩,e1.trans h1,cr,e2.trans h2⟩
  refine wpIn_rangeFunc_ownG rfl (by decide) (gf:=202) (lb:= #[.pointer (some ⟨w2.heap.size+1,0,none⟩)]) rfl trivial (enters_of func202 (by kernel_rfl) rfl)
   (rA 8 (by decide) (w2.heap.size+1) b c1 us (by omega) w4 (by omega) (by have:=hp.size;omega) (by rw[If];exact qa HF (j:=0) rfl) (λj u hj=>by
     obtain⟨y,hy,rfl⟩:=HD j u hj;obtain⟨b',e1,e2,-⟩:=HI.out.row j y hy;have e3:b=b':=by simpa using e1
     rw[←e3]at e2;exact(hp.cell (p:=⟨b,j,none⟩) H4).trans e2))
   (λh1 h2=>h1.t h2) (λW' l o o' hl ho hc hw=>⟨World.putObj_heap_other (by omega),World.putObj_heap_other (by omega)⟩) (Ou _ _) (λ_=>rfl)
   (λpre W'=>(∃who2 L3 S3 nx sv6,RngI E W who1 L2 S2 w2.heap.size nb5 mb5 W.heap.size ds Ds (jM cur us pre) who2 L3 S3 nx sv6 W')/\W'.heap[w2.heap.size+1]?=some (.cells [Value.slice (some ⟨b,0,none⟩) nn c1].toArray 170 (0,0))/\(∃cr,W'.heap[b]?=some (.cells cr 136 (0,0))))
   (λ_ _ _=>False)
   (λpre A B row hs hg hr=>by
     obtain⟨⟨who2,L3,S3,nx,sv6,hR⟩,I7,crr,Ib⟩:=hs;have I3: ∀(k:Nat) (cr:Array Value) (t:TypeId),A.heap[k]?=some (.cells cr t (0,0))->B.heap[k]?=some (.cells cr t (0,0)):=λk cr t hk=>by
      rw[hg.block k (qc hk) (λe=>?_)]
      ·exact hk
      ·obtain⟨-,o,h1,h2⟩:=hr k e.symm
       rw[hk]at h1;injection h1 with h1;rw[←h1]at h2;cases h2
     refine⟨?_,I3 _ _ _ I7,crr,I3 _ _ _ Ib⟩;exact⟨who2,L3,S3,nx,sv6,hR.own (X:=λk=>row=some k) (Frm.of_grown hg λk e=>e) (λk _ e=>hr k e) (by have:=hp.size;omega) ha Hn hU Hb⟩)
   (λ_ _ _ _ _ hs _ _=>hs)
   ⟨⟨who1,L2,S2,[],sv5,hM.out⟩,HF,cr,(hp.block b H4).trans hq⟩
   (λx=>{tmps:= #[Value.pointer (some ⟨tb,0,none⟩),.slice (some ⟨b,0,none⟩) nn c1,.pointer (some ⟨w.heap.size,0,none⟩),undef,.pointer (some ⟨w1.heap.size,0,none⟩),.pointer (some ⟨w2.heap.size,0,none⟩),undef,us[x.1]'x.2,undef,u9,.pointer (some ⟨tb,0,none⟩),.slice o met.length c,.map (some (w.heap.size+1)),.slice (some ⟨b,0,none⟩) nn c1,.int .i64 nn,.bool true,.pointer (some ⟨nb5,0,none⟩),.slice (some ⟨b,0,none⟩) nn c1,.func (.func 202) #[] #[.pointer (some ⟨w2.heap.size+1,0,none⟩)],.int .i64 (x.1:Int),us[x.1]'x.2,u21,u22,u23,u24,u25,u26,u27,u28,u29,u30,u31,u32,u33,u34,u35,u36,u37,u38,u39,u40],defers:=[]}) ?assign ?body ?done ?stop
  case assign=>
   intro l x W' K hK;unfold Zl
   gi_wp2
   exact hK
  case body=>
   rintro l pre x W' ⟨⟨who2,L3,S3,nx,sv6,hR⟩,hQ⟩ _;obtain⟨y,hy,I0⟩:=HD x.1 _ (OC x.2);have H2:y∈E.met:=HI.out.kc y (OZ hy);have Hs:Kn S3 y:=hR.kn y H2;have Hq:cxN S3 y=cxN S2 y:=yI hR.g.le (HI.out.kn y H2);obtain⟨Ha,etb,enm,eb2,eb4⟩:=H8.out;have HG:Hid (∀n,CallsIn Fence.wide n prog 177 #[.pointer (some ⟨tb,0,none⟩),cxN S2 y] W' λe W2=>e=.returned (.bool (decide (crW E.ts who2 y (qi E.xs y)≠who2 y)))/\ ∃L4 S4,GStep E.U E.ts E.xs E.lo E.tb E.sb E.f who2 L3 S3 W' (upd who2 y (crW E.ts who2 y (qi E.xs y))) L4 S4 W2):=λn=>by
    have:=YI HW Ha hR.lg.small hR.g.at' Hs;rw[Hq,etb]at this;rw[etb];exact callsIn_wide.2 this
   have HR:Hid (RngI E W who1 L2 S2 w2.heap.size nb5 mb5 W.heap.size ds Ds (jM cur us pre) who2 L3 S3 nx sv6 W'):=hR;have b2:=qa hR.b2 (j:=0) rfl;rw[eb2,etb]at b2;have HZ:Hid (∀z,jM cur us pre z->z≠y->jM cur us (pre++[x]) z):=by
    rintro z ⟨i,h1,h2⟩ hz;refine⟨i,λhm=>?_,h2⟩;rcases OS.1 hm with hm|hm
    ·exact h1 hm
    ·rw[O3]at hm
     rw[hm,hy]at h2;exact hz (Option.some.inj h2).symm
   have HQ:Hid (W'.heap[w2.heap.size+1]?=some (.cells [Value.slice (some ⟨b,0,none⟩) nn c1].toArray 170 (0,0))/\(∃cr,W'.heap[b]?=some (.cells cr 136 (0,0)))):=hQ;rw[I0];have HY:Hid (y∈E.met/\cxN S3 y=cxN S2 y/\Kn S3 y):=⟨H2,Hq,Hs⟩;clear hR hy I0 H2 Hs Hq hQ;by_cases hcr':crW E.ts who2 y (qi E.xs y)=who2 y
   ·have hd:decide (crW E.ts who2 y (qi E.xs y)≠who2 y)=false:=by simpa using hcr'
    rw[hd]at HG;have Hr:Hid (crW E.ts who2 y (qi E.xs y)=who2 y):=hcr';clear hd hcr';generalize cxN S2 y=cz at *
    gi_wp2_with (gi_at_call 177;refine(CallsIn.inRound l (HG.out _)).mono ?_;rintro e W2 ⟨rfl,L4,S4,hG⟩;have hA:Hid (GStep E.U E.ts E.xs E.lo E.tb E.sb E.f who2 L3 S3 W' (upd who2 y (crW E.ts who2 y (qi E.xs y))) L4 S4 W2):=hG;clear hG)
    obtain⟨q1,q2⟩:=Hg.out W' HQ.out W2 λk cr t hk ht=>hA.out.cells HR.out.g.at' hk (by rcases ht with⟨e,-⟩|e<;>rw[e]<;>decide) (by rcases ht with⟨e,-⟩|e<;>rw[e]<;>decide)
    exact⟨hA.out.keepsFrom HR.out.g.at' HR.out.mp h8.out.1,q1,⟨_,L4,S4,nx,sv6,(HR.out.told hJ.out HY.out.1 hA.out).1 Hr.out _ HZ.out⟩,q2⟩
   ·have hd:decide (crW E.ts who2 y (qi E.xs y)≠who2 y)=true:=by simpa using hcr'
    rw[hd]at HG;have Hr:Hid (crW E.ts who2 y (qi E.xs y)≠who2 y):=hcr';obtain⟨ll,hB⟩: ∃ll,qy E.prs y=ll:=⟨_,rfl⟩;have Hi:Hid (qy E.prs y=ll):=hB;have HV: ∀z∈ll,z∈E.met:=λz hz=>by
     rw[←hB]at hz;exact((hJ.out.prs y z).1 (vu.1 hz)).1
    have Ip:ll.length<=1000000000000:=by
     rw[←hB,hE];show(qy (prK ts xs met met.length) y).length<=_
     have h1:(qy (prK ts xs met met.length) y).length<=(prK ts xs met met.length).length:=by
      unfold qy;rw[OM];exact List.length_filter_le _ _
     have h2:=QQ (ts:=ts) (xs:=xs) (l:=met) (λy=>tH cov HH.out.tn y) met.length;have h3:met.length * 10251<=32000000 * 10251:=Nat.mul_le_mul_right _ Hj;omega
    clear hd hcr';have Ia:Hid (∀z∈ll,z∈E.met):=HV;have HJ:Hid (∀L4 S4 W2,GStep E.U E.ts E.xs E.lo E.tb E.sb E.f who2 L3 S3 W' (upd who2 y (crW E.ts who2 y (qi E.xs y))) L4 S4 W2->uD (upd who2 y (crW E.ts who2 y (qi E.xs y))) E.met<uD who1 E.met/\RngI E W who1 L2 S2 w2.heap.size nb5 mb5 W.heap.size ds Ds (λz=>(jM cur us pre z/\z≠y)\/(z∈E.met/\y∈qI E.ts (qi E.xs) z)) (upd who2 y (crW E.ts who2 y (qi E.xs y))) L4 S4 nx sv6 W2/\W2.cell? ⟨w1.heap.size,0,none⟩=some (.map (some (w.heap.size+1)))/\ ∃no nc,(Instr.lookup 179 (.map (some (w.heap.size+1))) (cxN S2 y) false).run prog W2=.ok (.slice no ll.length nc) W2/\(ll=[]\/E.g y=some (.slice no ll.length nc))):=by
     intro L4 S4 W2 hG;obtain⟨h1,h2⟩:=(HR.out.told hJ.out HY.out.1 hG).2 Hr.out;have b4:=qa h2.b4 (j:=0) rfl;rw[eb4,enm]at b4;obtain⟨no,nc,h3,h4⟩:=h2.nm.look2 h2.g.at'.t.ok (HY.out.2.2.le hG.le);rw[yI hG.le HY.out.2.2,HY.out.2.1,enm,hB]at h3;rw[hB]at h4;exact⟨h1,h2,b4,no,nc,h3,h4⟩
    clear hB HV;obtain⟨mm,H6⟩: ∃mm,ll.length=mm:=⟨_,rfl⟩;have Hd:Hid (ll.length=mm):=H6;rw[H6]at Ip HJ;clear H6;generalize upd who2 y (crW E.ts who2 y (qi E.xs y))=who3 at *;generalize cxN S2 y=cz at *
    gi_wp2_with (gi_at_call 177;refine(CallsIn.inRound l (HG.out _)).mono ?_;rintro e W2 ⟨rfl,L4,S4,hG⟩;have hA:Hid (GStep E.U E.ts E.xs E.lo E.tb E.sb E.f who2 L3 S3 W' who3 L4 S4 W2):=hG;obtain⟨hV,I1,b4,no,nc,Iu,HL⟩:=HJ.out L4 S4 W2 hG;have Hk:Hid (uD who3 E.met<uD who1 E.met):=hV;have Io:Hid (RngI E W who1 L2 S2 w2.heap.size nb5 mb5 W.heap.size ds Ds (λz=>(jM cur us pre z/\z≠y)\/(z∈E.met/\y∈qI E.ts (qi E.xs) z)) who3 L4 S4 nx sv6 W2):=I1;have Ig:Hid (ll=[]\/E.g y=some (.slice no mm nc)):=HL;clear hG hV I1 HL)
    obtain⟨q1,q2⟩:=Hg.out W' HQ.out W2 λk cr t hk ht=>hA.out.cells HR.out.g.at' hk (by rcases ht with⟨e,-⟩|e<;>rw[e]<;>decide) (by rcases ht with⟨e,-⟩|e<;>rw[e]<;>decide)
    have I4:Hid (KeepsFrom w4.heap.size W' W2):=hA.out.keepsFrom HR.out.g.at' HR.out.mp h8.out.1;have Il:Hid (vP (w2.heap.size+1) b W' W2/\W2.heap[w2.heap.size+1]?=some (.cells [Value.slice (some ⟨b,0,none⟩) nn c1].toArray 170 (0,0))/\(∃cr,W2.heap[b]?=some (.cells cr 136 (0,0)))):=⟨q1,q2⟩;clear q1 q2
    gi_loopw [29] (λi wi=> ∃(j:Nat) (svj:Value),j<=mm/\i=.int .i64 j/\RngI E W who1 L2 S2 w2.heap.size nb5 mb5 W.heap.size ds Ds (λz=>(jM cur us pre z/\z≠y)\/(z∈E.met/\y∈qI E.ts (qi E.xs) z)) who3 L4 S4 (xf nx (ll.take j)) svj wi/\KeepsFrom w4.heap.size W' wi/\vP (w2.heap.size+1) b W' wi/\wi.heap[w2.heap.size+1]?=some (.cells [Value.slice (some ⟨b,0,none⟩) nn c1].toArray 170 (0,0))/\(∃cr,wi.heap[b]?=some (.cells cr 136 (0,0)))) (λi _=>mm-(intOf i).toNat)
    case atStart=>exact⟨0,sv6,Um _,rfl,by rw[List.take_zero];exact Io.out,I4.out,Il.out⟩
    case round=>
     obtain⟨j,svj,hj,rfl,H9,Hz,hO,HO⟩:=hrel;have hC:Hid (RngI E W who1 L2 S2 w2.heap.size nb5 mb5 W.heap.size ds Ds (λz=>(jM cur us pre z/\z≠y)\/(z∈E.met/\y∈qI E.ts (qi E.xs) z)) who3 L4 S4 (xf nx (ll.take j)) svj wr):=H9;have H0:Hid (KeepsFrom w4.heap.size W' wr/\vP (w2.heap.size+1) b W' wr/\wr.heap[w2.heap.size+1]?=some (.cells [Value.slice (some ⟨b,0,none⟩) nn c1].toArray 170 (0,0))/\(∃cr,wr.heap[b]?=some (.cells cr 136 (0,0)))):=⟨Hz,hO,HO⟩;have d5:=qa H9.b5 (j:=0) rfl;clear H9 Hz hO HO;by_cases hjt:j<mm
     ·obtain⟨z,hz⟩: ∃z,ll[j]?=some z:=⟨_,OC (by rw[Hd.out];exact hjt)⟩
      obtain⟨gg,I9,Iy⟩:=hC.out.nm.cellAt (x:=y) (o:=no) (c:=nc) (by rw[Hi.out,Hd.out];exact Ig.out) (j:=j) (y:=z) (by rw[Hi.out];exact hz)
      subst I9;have In:Hid (∀n,CallsIn Fence.wide n prog 135 #[.pointer (some ⟨nb5,0,none⟩),cxN S4 z] wr λe W4=>(∃i:Nat,e=.returned (.int .i64 i))/\ ∃sv7,RngI E W who1 L2 S2 w2.heap.size nb5 mb5 W.heap.size ds Ds (λz=>(jM cur us pre z/\z≠y)\/(z∈E.met/\y∈qI E.ts (qi E.xs) z)) who3 L4 S4 (xf nx (ll.take (j+1))) sv7 W4/\KeepsFrom w4.heap.size W' W4/\vP (w2.heap.size+1) b W' W4/\W4.heap[w2.heap.size+1]?=some (.cells [Value.slice (some ⟨b,0,none⟩) nn c1].toArray 170 (0,0))/\(∃cr,W4.heap[b]?=some (.cells cr 136 (0,0)))):=λn=>by
       refine callsIn_wide.2 ((hC.out.num (Uc _) Hk.out (Ia.out z (OZ hz))).mono ?_);rintro e W4 ⟨hi,sv7,hX,HA⟩;obtain⟨k1,k2,k3⟩:=H0.out;obtain⟨q1,q2⟩:=Hg.out wr k3 W4 λk cr t hk ht=>HA.block k (qc hk) λhx=>by
        rcases ht with⟨e,H1⟩|e
        ·have:=(hC.out.m.num.lt hx).2;omega
        ·rcases hC.out.m.num.kind hx hk with e2|e2<;>rw[e]at e2<;>revert e2<;>decide
       exact⟨hi,sv7,by rw[ak hz];exact hX,k1.trans (t7 hC.out.m.num HA h8.out.2.1),k2.t q1,q2⟩
      clear hz;generalize cxN S4 z=cw at *
      gi_wp2_with (gi_at_call 135;refine(CallsIn.inRound l (In.out _)).mono ?_;rintro e W4 ⟨⟨i,rfl⟩,sv7,hX,Hu⟩;have Ir:Hid (RngI E W who1 L2 S2 w2.heap.size nb5 mb5 W.heap.size ds Ds (λz=>(jM cur us pre z/\z≠y)\/(z∈E.met/\y∈qI E.ts (qi E.xs) z)) who3 L4 S4 (xf nx (ll.take (j+1))) sv7 W4):=hX;have Ii:Hid (KeepsFrom w4.heap.size W' W4/\vP (w2.heap.size+1) b W' W4/\W4.heap[w2.heap.size+1]?=some (.cells [Value.slice (some ⟨b,0,none⟩) nn c1].toArray 170 (0,0))/\(∃cr,W4.heap[b]?=some (.cells cr 136 (0,0)))):=Hu;clear hX Hu)
      go_roundw
      case rel=>exact⟨j+1,sv7,by omega,by go_num,Ir.out,Ii.out⟩
      case measure=>simp[intOf];omega
     ·obtain rfl:j=mm:=by omega
      gi_wp2
      have Hy:=hC.out;rw[O7 (by rw[Hd.out];exact Uc _)]at Hy
      refine⟨H0.out.1,H0.out.2.1,⟨who3,L4,S4,xf nx ll,svj,Hy.mono λz _ hz=>?_⟩,H0.out.2.2⟩;rcases hz with⟨h1,h2⟩|⟨h1,h2⟩
      ·exact Or.inr (HZ.out z h1 h2)
      ·refine Or.inl ((j0 ll nx z).2 (Or.inr ?_))
       rw[←Hi.out];exact vu.2 ((hJ.out.prs y z).2 ⟨h1,h2⟩)
  case done=>
   rintro D ys W' hD Id ⟨⟨who2,L3,S3,nx,sv6,hR⟩,-⟩ hK;obtain⟨o',c',m',rfl,H1,hS⟩:=HI.out.over Im.out hR (λy ⟨i,hi,_⟩=>hi (Id i)) (Ue hp.size hD) hK;have d5:=qa hR.b5 (j:=0) rfl;have n5:=qa hR.m.num.blk (j:=1) rfl;have HS:Hid (SetI E wC who L1 S1 nx o' ({target:=.collected D,args:= #[]}::ds) (D::Ds) who2 L3 S3 m' W'):=hS;have I6:Hid (m'<m):=H1;clear hS hR H1 hK
   gi_wp2
   refine⟨m',I6.out,nx,o',c',{target:=.collected D,args:= #[]}::ds,D::Ds,who2,L3,S3,?_⟩
   (repeat apply Exists.intro)
   exact⟨rfl,HS.out⟩
  case stop=>
   rintro D cc pre W' _ _ hF _;exact hF.elim
open Go.RowKit
structure WNew(U:List BA)(ts:List (Nod×Nod))(xs:List BA)(lo tb:Nat)(f:Nod->Option Value)(who:Nod->Nat)(L:TL)(S:TS)(w:World)(x:Nod)(wb nb mb sb:Nat)(L':TL)(S':TS)(sv:Value)(w':World):Prop where
 wa:WA U ts xs lo tb sb f who wb nb mb L' S' sv [x] 0 w'
 bel:Below lo w w'
 uss:S'.uss=S.uss
 low:lo<=wb
theorem Jh(h9:x.isTh=false){w1:World}(ha:Below lo w w1)(h:TA U ts xs lo tb w1.heap.size f who L S w1)(k:Kn S' x)(r:NStep 1 U lo tb f who L S w1 L' S' w2)
  {v:List Value} {ty:TypeId}    (hn:lJ (cxN S') w4 (w2.alloc (.cells v.toArray ty)).heap.size nb mb sv [x]) (h5:Below (w2.alloc (.cells v.toArray ty)).heap.size (w2.alloc (.cells v.toArray ty)) w4):
  WNew U ts xs lo tb f who L S w x w4.heap.size nb mb w2.heap.size L' S' sv (w4.alloc (.cells [Value.pointer (some ⟨tb,0,none⟩),.pointer (some ⟨nb,0,none⟩),.int .i64 (0:Nat)].toArray 139)):=by
 have z3:(w2.alloc (.cells v.toArray ty)).heap.size=w2.heap.size+1:=by show(w2.heap.push _).size=_;simp
 have h7:Below w2.heap.size w2 (w2.alloc (.cells v.toArray ty)):=bl;rw[z3]at hn h5;have h0:Below w2.heap.size w2 w4:=h7.trans (h5.mono (by omega))
 have z4:=h0.size;have h4:Below w4.heap.size w4 (w4.alloc (.cells [Value.pointer (some ⟨tb,0,none⟩),.pointer (some ⟨nb,0,none⟩),.int .i64 (0:Nat)].toArray 139)):=bl;have h3:=h0.trans (h4.mono z4);have t2:=h.nstep r;have h8:=NStep.below h.t ha r;have h6:lo<=w2.heap.size:=t2.lo;refine⟨⟨t2.below h3,⟨(hn.base (by omega)).keep (X:=λ_=>False) (Frm.of_below h4) (λ_ _ e=>e),?_,?_,?_⟩,qn w4 _ _,?_,by simp⟩,h8.trans (h3.mono h6),r.uss,Ue h6 z4⟩
 ·intro y hy;rw[O3]at hy;rw[hy];exact k
 ·intro hm
  have h1:=t2.maps_lt hm;have h2:=hn.lom;omega
 ·intro j hj
  have h2:=(qf hn.row j hj).2.1;omega
 ·intro y hy;rw[O3]at hy;rw[hy];exact h9
theorem bt(HN:Hid xS)(h:TA U ts xs lo tb w.heap.size f who L S w)(hx:uq x)(h2:x.isTh=false)(hr:x.r∈U)(hl:S.ths.length<4000):
  Calls prog 43 #[.pointer (some ⟨tb,0,none⟩),.agg #[.string x.k,.string x.n,.string x.r]] w λe w'=> ∃wb nb mb sb L' S' sv,e=.returned (.pointer (some ⟨wb,0,none⟩))/\WNew U ts xs lo tb f who L S w x wb nb mb sb L' S' sv w'/\L'.mb=L.mb:=by
 have h0:Below w.heap.size w (w.alloc (.cells #[.string x.k,.string x.n,.string x.r] 75)):=bl;have h1:TA U ts xs lo tb (w.alloc (.cells #[.string x.k,.string x.n,.string x.r] 75)).heap.size f who L S (w.alloc (.cells #[.string x.k,.string x.n,.string x.r] 75)):=(h.below h0).wide (h.below h0).sb (Uc _);have h7:Hid (Calls prog 86 #[.pointer (some ⟨tb,0,none⟩),.agg #[.string x.k,.string x.n,.string x.r]] (w.alloc (.cells #[.string x.k,.string x.n,.string x.r] 75)) λe w'=> ∃p q L' S',cxN S' x=.complex .f64 p q/\e=.returned (.complex .f64 p q)/\Hid (Calls prog 85 #[.slice (some ⟨w'.heap.size,0,none⟩) 1 1] (w'.alloc (.cells #[.complex .f64 p q] 136)) λe4 w4=> ∃nb mb sv,e4=.returned (.pointer (some ⟨nb,0,none⟩))/\WNew U ts xs lo tb f who L S w x w4.heap.size nb mb w'.heap.size L' S' sv (w4.alloc (.cells #[.pointer (some ⟨tb,0,none⟩),.pointer (some ⟨nb,0,none⟩),.int .i64 0] 139))/\L'.mb=L.mb)):=by
  refine(HN.out h1.t x hx hr hl h1.lo).mono ?_;rintro e w2 ⟨L',S',he,k,r⟩;refine⟨_,_,L',S',rfl,he,?_⟩;show Calls _ _ _ _ _
  refine(Yk (cxN S') x _ _ rfl (r.at'.ok.good k) w2.heap.size 1 _ (qa (qn w2 [cxN S' x] 136) (j:=0) rfl)).mono ?_;rintro e4 w4 ⟨nb,mb,sv,h4,hn,h3⟩;exact⟨nb,mb,sv,h4,Jh h2 (h0.mono h.lo) h1 k r (v:=[cxN S' x]) hn h3,by rw[r.loc]⟩
 clear h h1 h0 hx h2 hr hl HN;go_enter func43,ntmps43
 go_wp2_with(first|(go_at_call 86;refine h7.out.mono ?_;rintro e w2 ⟨p,q,L',S',h6,rfl,h5⟩;clear h6)|(go_at_call 85;refine h5.out.mono ?_;rintro e w4 ⟨nb,mb,sv,rfl,hw⟩))
 go_ret;exact⟨_,_,_,_,_,_,_,rfl,hw⟩
theorem eX(HN:Hid xS)(h:TA U ts xs lo tb w.heap.size f who L S w)(hx:uq x)(hth:x.isTh=false)(hr:x.r∈U)(hl:S.ths.length<4000):
  Calls prog 43 #[.pointer (some ⟨tb,0,none⟩),.agg #[.string x.k,.string x.n,.string x.r]] w λe w'=> ∃wb nb mb sb L' S' sv,e=.returned (.pointer (some ⟨wb,0,none⟩))/\WNew U ts xs lo tb f who L S w x wb nb mb sb L' S' sv w':=
 (bt HN h hx hth hr hl).mono λ_ _ ⟨wb,nb,mb,sb,L',S',sv,h1,h2,_⟩=>⟨wb,nb,mb,sb,L',S',sv,h1,h2⟩
