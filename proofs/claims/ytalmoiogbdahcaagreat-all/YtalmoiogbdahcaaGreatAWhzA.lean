import Derived.Test.YtalmoiogbdahcaaGreatABywC
open Go.Proofs.Tryz
namespace Go.Proofs.YtalmoiogbdahcaaGreat
set_option maxRecDepth 100000
set_option maxHeartbeats 8000000
open Go.RowKit Go.Shelf
theorem GB(n:Nat):madeCells #[Value.slice none 0 0] n=(List.replicate n (Value.slice none 0 0)).toArray:=by
 apply Array.ext
 ·simp[madeCells]
 ·intro i h1 h2
  simp[madeCells,Nat.mod_one]
structure WhS(xs now:List BA)(w:World)(no:Option Addr)(nc:Nat)(met:List Nod)(wg:Nat)(vs:List Value)(whoL:List (List BA))(wr:World):Prop where
 row:wr.heap[wg]?=some (.cells vs.toArray 28 (0,0))
 lenv:vs.length=met.length
 each: ∀(i:Nat) (l:List BA),whoL[i]?=some l-> ∃x c,vs[i]?=some (Value.slice x l.length c)/\zH wr (.slice x l.length c) l
 low:w.heap.size<=wg
 nodes:wr.ownsRow w.heap.size 9 1 (.slice no met.length nc) met.length (qg (met.map txT))
 inv:WRnd xs now met whoL
 below:Below w.heap.size w wr
variable{met:List Nod}{nc wg:Nat}{no:Option Addr}{now xs:List BA}{vs:List Value}{w wr wr':World}{whoL:List (List BA)}
theorem WhS.later(h:WhS xs now w no nc met wg vs whoL wr)(hb:Below wr.heap.size wr wr'):WhS xs now w no nc met wg vs whoL wr':=
 ⟨(hb.block wg (qc h.row)).trans h.row,h.lenv,λi l hl=>by
   obtain⟨x,c,h1,h2⟩:=h.each i l hl;exact⟨x,c,h1,h2.move λg cur hg=>hb.block g (qc hg)⟩,h.low,q9 h.nodes hb,h.inv,h.below.trans (hb.mono h.below.size)⟩
variable{tv:Value}
theorem WhS.byC(h:WhS xs now w no nc met wg vs whoL wr)(ht:qE w tv now):ByC now met whoL tv (.slice no met.length nc) (.slice (some ⟨wg,0,none⟩) met.length met.length) wr:=by
 refine⟨xg ht h.below,yi (xs:=met.map txT) (by rw[OM];exact h.nodes),wg,met.length,by rw[h.inv.len],λi l hl=>?_⟩
 obtain⟨x,c,h1,h2⟩:=h.each i l hl;exact⟨x,c,qa h.row h1,h2.strs⟩
theorem WhS.byK(ok:DocOk xs now)(h:WhS xs now w no nc met wg vs whoL wr)(h0:met.length<=300000):ByK now met whoL:=by
 have key: ∀l∈whoL,∃i,whoL.getD i []=l:=λl hl=>by
  obtain⟨i,hi⟩:=OX.1 hl;exact⟨i,by rw[List.getD_eq_getElem?_getD,hi];rfl⟩
 refine⟨ok.ht,ok.nl,h0,h.inv.len,λl hl=>?_,λl hl=>?_⟩
 ·obtain⟨i,rfl⟩:=key l hl
  exact(h.inv.so i).2
 ·obtain⟨i,rfl⟩:=key l hl
  exact Ue (xP _ _ (ir (h.inv.so i).1) (h.inv.so i).2) (kX ok.nl)
variable{i:Nat}
theorem WhS.cell(h:WhS xs now w no nc met wg vs whoL wr)(hi:i<met.length): ∃x c,wr.cell? ⟨wg,i,none⟩=some (.slice x (whoL.getD i []).length c)/\zH wr (.slice x (whoL.getD i []).length c) (whoL.getD i []):=by
 have h0:i<whoL.length:=by rw[h.inv.len];exact hi
 obtain⟨x,c,h1,h2⟩:=h.each i whoL[i] (OC h0);have e:whoL.getD i []=whoL[i]:=by rw[List.getD_eq_getElem?_getD,OC h0];rfl
 rw[e];exact⟨x,c,qa h.row h1,h2⟩
theorem WhS.set(h:WhS xs now w no nc met wg vs whoL wr)(hi:i<met.length){out:List BA}{o:Option Addr}{c:Nat}(ho:zH wr (.slice o out.length c) out)(h3:WRnd xs now met (whoL.set i out)):
  WhS xs now w no nc met wg (vs.set i (.slice o out.length c)) (whoL.set i out) (wr.setCell ⟨wg,i,none⟩ (.slice o out.length c)):=by
 have h0: ∀(g:Nat) (cur:List Value),wr.heap[g]?=some (.cells cur.toArray 9 (0,0))->(wr.setCell ⟨wg,i,none⟩ (.slice o out.length c)).heap[g]?=wr.heap[g]?:=by
  intro g cur hg;refine kq wr wg i _ g ?_;intro e;subst e;rw[h.row]at hg;injection hg with hg;injection hg with _ hg;revert hg;decide
 refine⟨qL h.row i _,by rw[OO];exact h.lenv,λj l hl=>?_,h.low,?_,h3,h.below.setCell (p:=⟨wg,i,none⟩) h.low _⟩
 ·rw[List.getElem?_set]at hl
  rw[List.getElem?_set];split at hl
  ·rename_i e
   subst e;split at hl
   ·injection hl with hl
    subst hl;rw[if_pos rfl,if_pos (by rw[h.lenv];exact hi)]
    exact⟨o,c,rfl,ho.move h0⟩
   ·cases hl
  ·rename_i e
   rw[if_neg e];obtain⟨x,c,h1,h2⟩:=h.each j l hl;exact⟨x,c,h1,h2.move h0⟩
 ·refine qF h.nodes λg hg=>?_
  obtain⟨-,-,cur,hc⟩:=qf h.nodes g hg;exact h0 g cur.toList (by rw[Oo];exact hc)
theorem WhS.start{w1:World}(hn:w1.ownsRow w.heap.size 9 1 (.slice no met.length nc) met.length (qg (met.map txT)))(hb:Below w.heap.size w w1):
  WhS xs now w no nc met w1.heap.size (List.replicate met.length (.slice none 0 0)) (List.replicate met.length []) (w1.alloc (.cells (madeCells #[.slice none 0 0] met.length) 28)):=by
 have e:madeCells #[.slice none 0 0] met.length=(List.replicate met.length (Value.slice none 0 0)).toArray:=by
  exact GB _
 refine⟨by rw[e];exact qn w1 _ _,by simp,λi l hl=>?_,hb.size,q9 hn ((Ou _ _).alloc (Uc _) _),WRnd.start met,hb.alloc hb.size _⟩
 rw[OG]at hl;split at hl
 ·rename_i hi
  injection hl with hl;subst hl;exact⟨none,0,by rw[OG,if_pos hi];rfl,Or.inl ⟨rfl,rfl⟩⟩
 ·cases hl
def rY(xs now:List BA)(met:List Nod)(whoL:List (List BA))(k:Nat):Prop:= ∀i y,i<k->met[i]?=some y->(qD (qh xs) (txT y)).size=0\/ ∀s,xQ now (txT y) (Wof met whoL) (qD (qh xs) (txT y)).size (qD (qh xs) (txT y)) s->s∈whoL.getD i []
variable{k:Nat}{y:Nod}
theorem rY.next(h:rY xs now met whoL k)(hy:met[k]?=some y)(hk:(qD (qh xs) (txT y)).size=0\/ ∀s,xQ now (txT y) (Wof met whoL) (qD (qh xs) (txT y)).size (qD (qh xs) (txT y)) s->s∈whoL.getD k []):rY xs now met whoL (k+1):=by
 intro i z hi hz;by_cases e:i=k
 ·subst e
  rw[hy]at hz;injection hz with hz;rw[←hz];exact hk
 ·exact h i z (by omega) hz
structure WhI(xs now:List BA)(w:World)(no:Option Addr)(nc:Nat)(met:List Nod)(wg:Nat)(g0 k:Nat)(mb:Bool)(vs:List Value)(whoL:List (List BA))(wr:World):Prop where
 s:WhS xs now w no nc met wg vs whoL wr
 le:cE whoL<=g0
 lt:mb=true->cE whoL<g0
 fix:mb=false->rY xs now met whoL k
variable{g0:Nat}{mb:Bool}
theorem WhI.skip(h:WhI xs now w no nc met wg g0 k mb vs whoL wr)(hb:Below wr.heap.size wr wr')(hy:met[k]?=some y)(hk:(qD (qh xs) (txT y)).size=0\/ ∀s,xQ now (txT y) (Wof met whoL) (qD (qh xs) (txT y)).size (qD (qh xs) (txT y)) s->s∈whoL.getD k []):
  WhI xs now w no nc met wg g0 (k+1) mb vs whoL wr':=⟨h.s.later hb,h.le,h.lt,λe=>(h.fix e).next hy hk⟩
theorem G4(ok:DocOk xs now){x:Nod}(mo:MetOk xs now x met)(h7:met.length<=300000){b:Nat}(ht:qE w tv now)(h:WhI xs now w no nc met wg g0 k mb vs whoL wr)(hy:met[k]?=some y)(h0:(qD (qh xs) (txT y)).size≠0):
  Calls prog 200 #[.pointer (some ⟨b,0,none⟩),tv,.slice no met.length nc,.slice (some ⟨wg,0,none⟩) met.length met.length,.string (txT y),.string (qD (qh xs) (txT y))] wr λe w'=> ∃o c out,e=.returned (.slice o out.length c)/\out.length<=50/\ ∃x c',w'.cell? ⟨wg,k,none⟩=some (.slice x (whoL.getD k []).length c')/\w'.frozen? ⟨wg,k,none⟩=false/\
   Hid (if(whoL.getD k []).length<out.length then WhI xs now w no nc met wg g0 (k+1) true (vs.set k (.slice o out.length c)) (whoL.set k out) (w'.setCell ⟨wg,k,none⟩ (.slice o out.length c))else WhI xs now w no nc met wg g0 (k+1) mb vs whoL w'):=by
 have h6:=OZ hy;have h2:=(OE.1 hy).1;obtain⟨ky,ny,ry,h4⟩:=mo.nm y h6;obtain⟨hc,ha⟩:=fp ok h4 h0;have h8: ∀z∈qW now (txT y) (qD (qh xs) (txT y)).size (qD (qh xs) (txT y)),z∈met.map txT:=by
  rcases ow ok.hv ok.ht h4 with⟨e,-⟩|⟨-,e⟩
  ·exact absurd e h0
  ·rw[e _ (Uc _)]
   intro z hz;obtain⟨v,hv,rfl⟩:=OY.1 hz;exact OY.2 ⟨v,mo.closed h6 v hv,rfl⟩
 refine(GL b ok (h.s.byK ok h7) h4 _ _ wr (by omega) ha h8 (h.s.byC ht)).mono ?_
 rintro e w' ⟨o,c,out,rfl,h1,hg,hb⟩;obtain⟨q1,q2,q3⟩:=WRnd.grow ok mo h.s.inv hy h0 hg;have h3:=h.s.later hb;obtain⟨x,c',hx,-⟩:=h3.cell h2;have h5:out.length<=50:=Ue hg.len (kX ok.nl);refine⟨o,c,out,rfl,h5,x,c',hx,qd h3.row _,?_⟩;show(if _ then _ else _)
 by_cases hlt:(whoL.getD k []).length<out.length
 ·rw[if_pos hlt]
  have h9:=JQ (whoL:=whoL) (i:=k) (out:=out) (by rw[h.s.inv.len];exact h2) hlt h5
  have hd:=h.le;exact⟨h3.set h2 (dr h1) q2,by omega,λ_=>by omega,λe=>by cases e⟩
 ·rw[if_neg hlt]
  exact h.skip hb hy (Or.inr (q3 (by omega)))
theorem Xg:uL:=by
 intro xs now ok b g tv w h x k n r hx;have he:Hid (Calls prog 171 #[.pointer (some ⟨b,0,none⟩),tv,.string (txT x)] w (lH xs now x w)):=ox ok h hx;have h4:Hid (∀(y:Nod) (w1:World),Below w.heap.size w w1->(∃k n r,NmN y k n (some r))->Calls prog 72 #[.pointer (some ⟨b,0,none⟩),.string (txT y)] w1 λe w'=>e=.returned (.string (qD (qh xs) (txT y)))/\ ∃n,w'=w1.drewN n):=by
  rintro y w1 hb ⟨k,n,r,hy⟩;exact fo ok (h.below hb) hy
 have hj:Hid (qE w tv now):=h.tv;have ho:Hid (DocOk xs now):=ok;have ht: ∃x n c,tv=.slice x n c:=by
  rcases h.tv with⟨rfl,-⟩|⟨b,off,cap,rfl,-⟩
  ·exact⟨_,_,_,rfl⟩
  ·exact⟨_,_,_,rfl⟩
 obtain⟨tx,tn,tc,rfl⟩:=ht;have h0:Hid (∀(no:Option Addr) (nc:Nat) (met:List Nod) (wg:Nat) (vs:List Value) (whoL:List (List BA)) (wr:World),MetOk xs now x met->WhS xs now w no nc met wg vs whoL wr->rY xs now met whoL met.length-> ∃o c,wr.cell? ⟨wg,0,none⟩=some (.slice o (whoL.getD 0 []).length c)/\ZQ xs now x w (.returned (.slice o (whoL.getD 0 []).length c)) wr):=by
  intro no nc met wg vs whoL wr mo hS hF;obtain⟨o,c,hc,hT⟩:=hS.cell (i:=0) (OE.1 mo.gone.first).1
  obtain⟨q1,q2,q3⟩:=ZR ok mo hS.inv λi y hy=>hF i y (OE.1 hy).1 hy;exact⟨o,c,hc,o,c,_,rfl,hT.strs,q1,q2,q3,hS.below⟩
 generalize txT x=tx0 at he;generalize hP:ZQ xs now x w=P at *;clear hP h hx ok;go_enter func169,ntmps169
 go_wp2_with(go_at_call 171;refine he.out.mono ?_;rintro e w1 ⟨no,nc,met,rfl,mo,h1,hr,hf⟩;have h5:Hid (MetOk xs now x met):=mo;have hn:Hid (met.length<=300000):=hr;have hm:Hid (WhS xs now w no nc met w1.heap.size (List.replicate met.length (.slice none 0 0)) (List.replicate met.length []) (w1.alloc (.cells (madeCells #[.slice none 0 0] met.length) 28))):=WhS.start h1 hf;have hB:=run_make_row' (P:=prog) 59 28 (.slice none 0 0) 24 underlying59 Tryz.infoSl rfl .i64 .i64 met.length (by omega) (by omega);clear mo h1 hf)
 clear hB;have h9:0<met.length:=(OE.1 h5.out.gone.first).1
 go_loopg [9] (2 * cE (List.replicate met.length [])+1) (λgk mv wr=> ∃(mb:Bool) (vs:List Value) (whoL:List (List BA)),mv=.bool mb/\WhS xs now w no nc met w1.heap.size vs whoL wr/\gk=2 * cE whoL+(if mb=true then 1 else 0)/\(mb=false->rY xs now met whoL met.length))
 case atStart=>exact⟨true,_,_,rfl,hm.out,rfl,λe=>by cases e⟩
 case round=>
  obtain⟨mb,vs,whoL,rfl,hS,h7,hF⟩:=hrel;clear hm;cases mb with
  |false=>
   obtain⟨o,c,hc,hp⟩:=h0.out no nc met w1.heap.size vs whoL wr h5.out hS (hF rfl);have HP:Hid (P (.returned (.slice o (whoL.getD 0 []).length c)) wr):=hp;clear hp hS hF h7 h0 h4 hj;generalize (whoL.getD 0 []).length=n0 at *;go_wp2;exact HP.out
  |true=>
   have hq:Hid (gk=2 * cE whoL+1):=h7;have hl:Hid (WhI xs now w no nc met w1.heap.size (cE whoL) 0 false vs whoL wr):=⟨hS,Uc _,(λe=>by cases e),λ_ i y hi=>absurd hi (Uj _)⟩
   clear hS hF h7 h0;generalize cE whoL=g0 at *;go_wp2
   go_loopg [9,10] met.length (λgk2 mv i w4=> ∃(mb2:Bool) (k:Nat) (vs2:List Value) (whoL2:List (List BA)),mv=.bool mb2/\i=.int .i64 k/\k<=met.length/\gk2=met.length-k/\WhI xs now w no nc met w1.heap.size g0 k mb2 vs2 whoL2 w4)
   case atStart=>exact⟨false,0,vs,whoL,rfl,rfl,Um _,rfl,hl.out⟩
   case round=>
    obtain⟨mb2,k,vs2,whoL2,rfl,rfl,hk,h3,hI⟩:=hrel;have ha:Hid _:=h3;clear h3;clear hl;have HI:Hid (WhI xs now w no nc met w1.heap.size g0 k mb2 vs2 whoL2 wr):=hI;clear hI;by_cases hs:k<met.length
    ·obtain⟨y,hy⟩: ∃y,met[k]?=some y:=⟨_,OC hs⟩
     obtain⟨gn,cn,h8,h6⟩:=xj HI.out.s.nodes h9;injection h8 with h8 _ hd;subst h8;subst hd;have hC:=h6 k (.string (txT y)) (x4 (by rw[OF,hy];rfl))
     have hu: ∀nq,(wr.drewN nq).cell? ⟨gn,k,none⟩=some (.string (txT y)):=λnq=>hC;have hD:=OZ hy;have hg:Hid (Calls prog 72 #[.pointer (some ⟨b,0,none⟩),.string (txT y)] wr λe w'=>e=.returned (.string (qD (qh xs) (txT y)))/\ ∃n,w'=wr.drewN n):=h4.out y wr HI.out.s.below (h5.out.nm y hD);by_cases hz:(qD (qh xs) (txT y)).size=0
     ·have hv:(qD (qh xs) (txT y)).toList.isEmpty=true:=(io _).2 hz
      have h2:Hid (∀nq,WhI xs now w (some ⟨gn,0,none⟩) nc met w1.heap.size g0 (k+1) mb2 vs2 whoL2 (wr.drewN nq)):=λnq=>HI.out.skip (qN ⟨nq,rfl⟩) hy (Or.inl hz);generalize qD (qh xs) (txT y)=way at *;generalize txT y=ty at *;clear hz h4 h6 hy HI
      go_wp2_with(go_at_call 72;refine hg.out.mono ?_;rintro e w3 ⟨rfl,nq,rfl⟩)
      go_roundg (met.length-(k+1))
      case rel=>exact⟨mb2,k+1,vs2,whoL2,rfl,by go_num,by omega,rfl,h2.out _⟩
      case measure=>have:=ha.out;omega
     ·have hv:(qD (qh xs) (txT y)).toList.isEmpty=false:=cR hz
      have hA:Hid (∀nq,Calls prog 200 #[.pointer (some ⟨b,0,none⟩),.slice tx tn tc,.slice (some ⟨gn,0,none⟩) met.length nc,.slice (some ⟨w1.heap.size,0,none⟩) met.length met.length,.string (txT y),.string (qD (qh xs) (txT y))] (wr.drewN nq) _):=λnq=>G4 ho.out h5.out hn.out hj.out (k:=k) (⟨HI.out.s.later (qN ⟨nq,rfl⟩),HI.out.le,HI.out.lt,HI.out.fix⟩:WhI xs now w (some ⟨gn,0,none⟩) nc met w1.heap.size g0 k mb2 vs2 whoL2 (wr.drewN nq)) hy hz;generalize qD (qh xs) (txT y)=way at *;generalize txT y=ty at *;generalize (whoL2.getD k []).length=n2 at *;clear hz h4 h6 hy HI
      go_wp2_with(first|(go_at_call 72;refine hg.out.mono ?_;rintro e w3 ⟨rfl,nq,rfl⟩)|(go_at_call 200;refine(hA.out _).mono ?_;rintro e w5 ⟨o5,c5,out5,rfl,hG,x5,c6,hE,hJ,HN⟩;by_cases hlo:n2<out5.length))
      ·have h2:Hid (WhI xs now w (some ⟨gn,0,none⟩) nc met w1.heap.size g0 (k+1) true (vs2.set k (.slice o5 out5.length c5)) (whoL2.set k out5) (w5.setCell ⟨w1.heap.size,k,none⟩ (.slice o5 out5.length c5))):=by have:=HN.out;rw[if_pos hlo]at this;exact this
       clear HN;go_wp2
       go_roundg (met.length-(k+1))
       case rel=>exact⟨true,k+1,_,_,rfl,by go_num,by omega,rfl,h2.out⟩
       case measure=>have:=ha.out;omega
      ·have h2:Hid (WhI xs now w (some ⟨gn,0,none⟩) nc met w1.heap.size g0 (k+1) mb2 vs2 whoL2 w5):=by have:=HN.out;rw[if_neg hlo]at this;exact this
       clear HN;go_wp2
       go_roundg (met.length-(k+1))
       case rel=>exact⟨mb2,k+1,_,_,rfl,by go_num,by omega,rfl,h2.out⟩
       case measure=>have:=ha.out;omega
    ·obtain rfl:k=met.length:=by omega
     go_wp2
     go_roundg (2 * cE whoL2+(if mb2=true then 1 else 0))
     case measure=>
      have:=hq.out;have:=HI.out.le;have:=HI.out.lt;cases mb2
      ·simp;omega
      ·have:=this rfl;simp;omega
     case rel=>exact⟨mb2,vs2,whoL2,rfl,HI.out.s,rfl,HI.out.fix⟩
