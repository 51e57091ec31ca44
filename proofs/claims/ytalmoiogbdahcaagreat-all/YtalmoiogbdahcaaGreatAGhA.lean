import Derived.Test.YtalmoiogbdahcaaGreatAMapA
import Derived.Test.YtalmoiogbdahcaaGreatAGramE
import Derived.Test.YtalmoiogbdahcaaGreatARefI
open Go.Proofs.Tryz
namespace Go.Proofs.YtalmoiogbdahcaaGreat
set_option maxRecDepth 100000
set_option maxHeartbeats 8000000
open Go.RowKit
theorem ye(x l m:Int)(w:World):Calls prog 55 #[.int .i64 x,.int .i64 l,.int .i64 m] w λe w'=>e=.returned (.bool (decide (l<=x) && decide (x<=m)))/\w'=w:=by
 by_cases h1:l<=x
 ·go_enter func55,ntmps55
  go_wp2;go_ret;exact⟨zo (by simp[h1]),rfl⟩
 ·go_enter func55,ntmps55
  go_wp2;go_ret;exact⟨zo (by have h2: ¬l<=x:=(by omega);simp[h2]),rfl⟩
variable{x:BA}
theorem oA{y:BA}(hx:xm x=true)(hy:xm y=true):((qT x).toList==(qT y).toList)=true↔zl (qU (rd0 x)) (zh (rd0 x))=zl (qU (rd0 y)) (zh (rd0 y)):=by
 obtain⟨-,k,r,wy,op,ts,d⟩:=xL x hx;obtain⟨-,k',r',wy',op',ts',d'⟩:=xL y hy;obtain⟨a1,a2,-,-⟩:=jl x d;obtain⟨b1,b2,-,-⟩:=jl y d';rw[a1,a2,b1,b2,(uh x d).1,(uh y d').1,Lib.toList_data,Lib.toList_data,qA,qA,beq_iff_eq]
 constructor
 ·intro h
  have hk:k=k'/\r=r':=by
   have h1: ∀z∈k,z≠(35:UInt8):=qZ (qJ d.hk) (by decide)
   have h2: ∀z∈k',z≠(35:UInt8):=qZ (qJ d'.hk) (by decide)
   have e1:=jf k r 35 h1;have e2:=jf k' r' 35 h2;rw[h,e2]at e1;have el:k'.length=k.length:=by injection e1
   have:=List.append_inj h el.symm;refine⟨this.1,?_⟩;have t:=this.2;injection t
  rw[hk.1,hk.2]
 ·intro h
  obtain⟨h1,h2⟩:=de h;have e1:k=k':=congrArg (λs=>s.data.toList) h1;have e2:r=r':=congrArg (λs=>s.data.toList) h2;rw[e1,e2]
structure RMap(w:World)(lo:Nat)(xs:List BA)(m:List (Value×Value)):Prop where
 len:m.length=xs.length
 key: ∀(i:Nat) (x:BA) (p:Value×Value),xs[i]?=some x->m[i]?=some p->p.1=zl (qU (rd0 x)) (zh (rd0 x))
 way: ∀(i:Nat) (x:BA) (p:Value×Value),xs[i]?=some x->m[i]?=some p->WayAt w (lo<= ·) (xZ x).1 p.2
structure POInv(xs:List BA)(w wr:World)(k mb:Nat)(m:List (Value×Value)):Prop where
 map:zt wr yX mb m
 rmap:RMap wr w.heap.size (xs.take k) m
 below:Below w.heap.size w wr
 lo:w.heap.size<=mb
 ok: ∀j,j<k->yy xs j=none
theorem Tryz.zeroWay(w:World):(zeroValue 106).run prog w=.ok (.agg #[.int .i64 0,.string {data:= #[]},.string {data:= #[]},.slice none 0 0]) w:=by kernel_rfl
variable{v:Value}{w w':World}
theorem WayAt.move2{In In':Nat->Prop}{t:WayT}(h:WayAt w In t v)(hw: ∀g cur,In g->w.heap[g]?=some (.cells cur 106 (0,0))->In' g/\w'.heap[g]?=w.heap[g]?):WayAt w' In' t v:=by
 induction h with
 |leaf is a b=>exact .leaf is a b
 |node is ts vs g cap cur h1 h2 h3 h4 h5 h6 ih=>
  obtain⟨g1,g2⟩:=hw g cur h1 h2;exact .node is ts vs g cap cur g1 (by rw[g2];exact h2) h3 h4 h5 ih
variable{lo:Nat}{m:List (Value×Value)}{xs:List BA}
theorem RMap.move(h:RMap w lo xs m)(hw: ∀g cur,lo<=g->w.heap[g]?=some (.cells cur 106 (0,0))->w'.heap[g]?=w.heap[g]?):RMap w' lo xs m:=
 ⟨h.len,h.key,λi x p h1 h2=>(h.way i x p h1 h2).move2 λg cur hg hc=>⟨hg,hw g cur hg hc⟩⟩
theorem sI(hx:yl x=true):yX (zl (qU (rd0 x)) (zh (rd0 x))):=by
 have hs:x.size<=200:=by unfold yl at hx;simp only[Bool.and_eq_true,decide_eq_true_eq]at hx;exact hx.1
 rw[oL]at hx;obtain⟨-,k,r,wy,op,ts,d⟩:=xL x hx;obtain⟨a1,a2,-,-⟩:=jl x d;have ht:=d.text;have h0:x.size=(k++35::(r++61::wy)).length:=by rw[zC,ht]
 simp at h0;refine⟨mk k,mk r,by rw[a1,a2],?_,?_⟩
 ·rw[zE];unfold maxLen;omega
 ·rw[zE];unfold maxLen;omega
variable{k mb:Nat}{wr:World}
theorem POInv.dup(h:POInv xs w wr k mb m)(hk:xs[k]?=some x)(hx:yl x=true):
  (∀v,getM m (zl (qU (rd0 x)) (zh (rd0 x)))=some v->yy xs k=some 3)/\(getM m (zl (qU (rd0 x)) (zh (rd0 x)))=none->yy xs k=none):=by
 have hr:xm x=true:=by rw[←oL];exact hx
 have h4:=(OE.1 hk).1;have h3:m.length=k:=by rw[h.rmap.len,OQ];omega
 have h1: ∀j y,j<k->xs[j]?=some y->xm y=true:=λj y hj hy=>by
  have:=h.ok j hj;unfold yy at this;rw[hy]at this;cases e:xm y
  ·simp[e]at this
  ·rfl
 constructor
 ·intro v hv
  obtain⟨i,hi⟩:=OX.1 (jX hv);have h2:i<k:=by have:=(OE.1 hi).1;omega
  obtain⟨y,hy⟩: ∃y,xs[i]?=some y:=⟨_,OC (by omega)⟩
  have h0:=h.rmap.key i y _ (by rw[OJ h2];exact hy) hi
  exact ad hk hr h2 hy ((oA (h1 i y h2 hy) hr).2 h0.symm)
 ·intro hn
  refine dR hk hr λj y hj hy=>?_;cases e:((qT y).toList==(qT x).toList)
  ·rfl
  ·exfalso
   have hh:=(oA (h1 j y hj hy) hr).1 e;obtain⟨p,hp⟩: ∃p,m[j]?=some p:=⟨_,OC (by omega)⟩
   have h0:=h.rmap.key j y p (by rw[OJ hj];exact hy) hp
   exact jp hn p (OZ hp) (h0.trans hh)
theorem POInv.next(h:POInv xs w wr k mb m)(hk:xs[k]?=some x)(hx:yl x=true)(hn:getM m (zl (qU (rd0 x)) (zh (rd0 x)))=none)
  {w3:World} (h4:Below wr.heap.size wr w3)  (hv:WayAt w3 (wr.heap.size<= ·) (xZ x).1 v):
  ∃w4,(Instr.mapUpdate 96 (.map (some mb)) (zl (qU (rd0 x)) (zh (rd0 x))) v).run prog w3=.ok () w4/\POInv xs w w4 (k+1) mb (m++[(zl (qU (rd0 x)) (zh (rd0 x)),v)]):=by
 have hb:=h.map.lt;have h9:zt w3 yX mb m:=h.map.move (h4.block mb hb);obtain⟨w4,h6,he,h8,hf⟩:=dN pp underlying96 h9 (sI hx) hn v;refine⟨w4,h6,he,?_,?_,h.lo,?_⟩
 ·have hd:=OE.1 hk
  obtain⟨ha,h7⟩:=hd;have h0: ∀(g:Nat) (cur:Array Value),w3.heap[g]?=some (.cells cur 106 (0,0))->w4.heap[g]?=w3.heap[g]?:=λg cur hc=>by
   refine h8.block g (qc hc) ?_;intro e;injection e with e;subst e;obtain⟨es,c,h1,-⟩:=h9;rw[h1]at hc;cases hc
  have h2:RMap w4 w.heap.size (xs.take k) m:=h.rmap.move λg cur hg hc=>by
   have e:=h4.block g (qc hc);rw[h0 g cur (by rw[e];exact hc),e]
  have h3:m.length=k:=by rw[h2.len,OQ];omega
  have h5:(xs.take k).length=k:=by rw[OQ];omega
  refine⟨?_,?_,?_⟩
  ·rw[OK,OQ];simp;omega
  ·intro i y p hy hp
   rw[O8 ha,h7]at hy;by_cases hi:i<k
   ·rw[Oz (by omega)]at hy hp
    exact h2.key i y p hy hp
   ·by_cases hi2:i=k
    ·subst hi2
     rw[OA (by omega),h5]at hy
     rw[OA (by omega),h3]at hp
     simp at hy hp;subst hy;rw[←hp]
    ·rw[OD (by rw[OK,h5];simp;omega)]at hy;cases hy
  ·intro i y p hy hp
   rw[O8 ha,h7]at hy;by_cases hi:i<k
   ·rw[Oz (by omega)]at hy hp
    exact h2.way i y p hy hp
   ·by_cases hi2:i=k
    ·subst hi2
     rw[OA (by omega),h5]at hy
     rw[OA (by omega),h3]at hp
     simp at hy hp;subst hy;rw[←hp];have hl:=h.below.size;exact hv.move2 λg cur hg hc=>⟨Ue hl hg,h0 g cur hc⟩
    ·rw[OD (by rw[OK,h5];simp;omega)]at hy;cases hy
 ·refine(h.below.trans (h4.mono h.below.size)).grown h8 (Ue h.below.size h4.size) (λj hj=>?_)
  injection hj with hj;subst hj;exact h.lo
 ·intro j hj
  by_cases e:j=k
  ·subst e;exact(h.dup hk hx).2 hn
  ·exact h.ok j (by omega)
theorem POInv.start(xs:List BA)(w:World):POInv xs w (w.alloc (.map #[] 0)) 0 w.heap.size []:=
 ⟨zt.new w yX,⟨rfl,λi x p h _=>(by simp at h),λi x p h _=>(by simp at h)⟩,(Ou _ _).alloc (Uc _) _,Uc _,λj hj=>by omega⟩
theorem Tryz.infoReq:(prog.info? 158).map (λi=>(i.zero,i.size,i.bytes))=some (some (.pointer none),1,8):=by kernel_rfl
def aG(qu clock:Int)(tv wv:Value):List Value:=[.int .i64 qu,.int .i64 clock,tv,wv]
def cU(n:Nat):List Value:=List.replicate n (.pointer none)
def uG(w:World)(lo db wk:Nat)(qu:Int):Prop:=
 lo<=db/\ ∃wb,lo<=wb/\w.heap[db]?=some (.cells (aG qu 0 (.slice none 0 0) (.slice (some ⟨wb,0,none⟩) wk wk)).toArray 157 (0,0))/\w.heap[wb]?=some (.cells (cU wk).toArray 158 (0,0))
theorem Js(wk:Nat):madeCells #[Value.pointer none] wk=(cU wk).toArray:=by
 apply Array.ext
 ·simp[madeCells,cU]
 ·intro i h1 h2
  simp[madeCells,cU,Nat.mod_one]
theorem wl(wk:Nat)(qu:Int)(h1:1<=wk)(h4:wk<=4)(w:World):Calls prog 57 #[.int .i64 wk,.int .i64 qu] w λe w'=> ∃db,e=.returned (.pointer (some ⟨db,0,none⟩))/\Below w.heap.size w w'/\uG w' w.heap.size db wk qu:=by
 have h0:=run_make_row' (P:=prog) 155 158 (.pointer none) 8 underlying155 Tryz.infoReq rfl .i64 .i64 wk (by omega) (by omega)
 go_enter func57,ntmps57;go_wp2;rw[Js];go_ret;refine⟨_,rfl,bl,Ud _,w.heap.size,Uc _,?_,qG (qn w (cU wk) _) _⟩;have h:=qn (w.alloc (.cells (cU wk).toArray 158)) (aG qu 0 (.slice none 0 0) (.slice (some ⟨w.heap.size,0,none⟩) wk wk)) 157;have e:(w.alloc (.cells (cU wk).toArray 158)).heap.size=w.heap.size+1:=by show(w.heap.push _).size=_;simp
 rw[e]at h;exact h
variable{db wk:Nat}{qu:Int}
theorem uG.alloc(h:uG w lo db wk qu)(o:Obj):uG (w.alloc o) lo db wk qu:=by
 obtain⟨h1,wb,h2,h3,h4⟩:=h;exact⟨h1,wb,h2,(Oq _ _ _ (qc h3)).trans h3,(Oq _ _ _ (qc h4)).trans h4⟩
theorem uG.mono{lo':Nat}(h:uG w lo db wk qu)(hl:lo'<=lo):uG w lo' db wk qu:=by
 obtain⟨h1,wb,h2,h3⟩:=h;exact⟨Ue hl h1,wb,Ue hl h2,h3⟩
def ch(xs:List BA)(wk qu:Int)(w:World)(e:Ending)(w':World):Prop:=
 Below w.heap.size w w'/\((zY xs.length wk qu=true/\e=.returned (.tuple #[.pointer none,.int .i64 0,.int .i64 1]))\/
  (zY xs.length wk qu=false/\((∃k c,xN xs=some (k,c)/\e=.returned (.tuple #[.pointer none,.int .i64 k,.int .i64 c]))\/
    (xN xs=none/\ ∃b mb m db,e=.returned (.tuple #[.pointer (some ⟨b,0,none⟩),.int .i64 0,.int .i64 0])/\w.heap.size<=b/\
      w'.heap[b]?=some (.cells [Value.int .i32 0,.int .u32 0,.map (some mb),.slice none 0 0,.int .i64 0,.pointer (some ⟨db,0,none⟩),.bool false].toArray 99 (0,0))/\w.heap.size<=mb/\zt w' yX mb m/\RMap w' w.heap.size xs m/\uG w' w.heap.size db wk.toNat qu))))
theorem wm(x:BA)(h:yl x=false)(w:World):Calls prog 56 #[.string x] w λe w'=>e=.returned (.tuple #[.agg #[.string {data:= #[]},.string {data:= #[]},.int .i64 0,.string {data:= #[]},.string {data:= #[]},.slice none 0 0],.bool false])/\Below w.heap.size w w':=by
 refine(cO x w).mono ?_;rintro e w' ⟨hb,⟨-,rfl⟩|⟨hh,-⟩⟩
 ·exact⟨rfl,hb⟩
 ·rw[h]at hh;cases hh
theorem bE(x:BA)(h:yl x=true)(w:World):Calls prog 56 #[.string x] w λe w'=> ∃is a b y n c,e=.returned (.tuple #[.agg #[.string (qU (rd0 x)),.string (zh (rd0 x)),.int .i64 is,.string a,.string b,.slice y n c],.bool true])/\Below w.heap.size w w'/\WayAt w' (w.heap.size<= ·) (xZ x).1 (.agg #[.int .i64 is,.string a,.string b,.slice y n c]):=by
 refine(cO x w).mono ?_;rintro e w' ⟨hb,⟨hh,-⟩|⟨-,is,a,b,y,n,c,rfl,hw⟩⟩
 ·rw[h]at hh;cases hh
 ·exact⟨is,a,b,y,n,c,rfl,hb,hw⟩
theorem POInv.done(h:POInv xs w wr k mb m)(hk:xs.length=k){wk:Int}(ha:zY xs.length wk qu=false){w1:World}(h0:Below wr.heap.size wr w1)(hd:uG w1 wr.heap.size db wk.toNat qu)(e:Ending)
  (he:e=.returned (.tuple #[.pointer (some ⟨w1.heap.size,0,none⟩),.int .i64 0,.int .i64 0])):ch xs wk qu w e (w1.alloc (.cells #[.int .i32 0,.int .u32 0,.map (some mb),.slice none 0 0,.int .i64 0,.pointer (some ⟨db,0,none⟩),.bool false] 99)):=by
 have hs:w.heap.size<=w1.heap.size:=Ue h.below.size h0.size;refine⟨(h.below.trans (h0.mono h.below.size)).alloc hs _,Or.inr ⟨ha,Or.inr ⟨iA λj hj=>h.ok j (by omega),w1.heap.size,mb,m,db,he,hs,qn _ [Value.int .i32 0,.int .u32 0,.map (some mb),.slice none 0 0,.int .i64 0,.pointer (some ⟨db,0,none⟩),.bool false] _,h.lo,h.map.move ((Oq _ _ _ (Ug h.map.lt h0.size)).trans (h0.block _ h.map.lt)),?_,(hd.alloc _).mono h.below.size⟩⟩⟩
 have hr:=h.rmap;rw[O7 (by omega)]at hr
 exact hr.move λg cur _ hc=>(Oq _ _ _ (Ug (qc hc) h0.size)).trans (h0.block _ (qc hc))
theorem wo(v:Value)(xs:List BA)(wk qu:Int)(w:World)(h:qE w v xs)(hn:xs.length<=12)(h2:1<=wk)(h3:wk<=4)(h4:1<=qu)(h5:qu<=6):
  Calls prog 26 #[v,.int .i64 wk,.int .i64 qu] w (ch xs wk qu w):=by
 have hA:=λw1=>run_makeMap (P:=prog) 96 w1;have h7:=λw1=>ye wk 1 4 w1;have hb:=λw1=>ye qu 1 6 w1;rw[Up h2,Up h3,Bool.and_self]at h7;rw[Up h4,Up h5,Bool.and_self]at hb;have HA:Hid (zY xs.length wk qu=false):=by show _=_;unfold zY;simp;omega
 have ho:=POInv.start xs w;obtain⟨kw,rfl⟩: ∃kw:Nat,wk=(kw:Int):=⟨wk.toNat,by omega⟩
 have hy:Hid (∀w1,Calls prog 57 #[.int .i64 kw,.int .i64 qu] w1 λe w'=> ∃db,e=.returned (.pointer (some ⟨db,0,none⟩))/\Below w1.heap.size w1 w'/\uG w' w1.heap.size db kw qu):=λw1=>wl kw qu (by omega) (by omega) w1
 rcases h with⟨rfl,rfl⟩|⟨b,off,cap,rfl,hc⟩
 ·go_enter func26,ntmps26
  go_wp2_with(first|(go_at_call 55;refine(h7 _).mono ?_;clear h7;rintro e w1 ⟨rfl,h6⟩;subst w1)|(go_at_call 55;refine(hb _).mono ?_;rintro e w1 ⟨rfl,h6⟩;subst w1))
  refine wp_loop_rounds 1 ?_;rw[rounds_succ]
  go_wp2_with(go_at_call 57;refine(hy.out _).mono ?_;rintro e w1 ⟨db,rfl,h0,hp⟩)
  exact bodyPost_ret (v:=.tuple #[.pointer (some ⟨w1.heap.size,0,none⟩),.int .i64 0,.int .i64 0]) (by simp[results,results26,go_sem]) rfl (ho.done rfl HA.out h0 hp _ rfl)
 ·obtain⟨n,hx⟩: ∃n,xs.length=n:=⟨_,rfl⟩
  have HX:Hid (xs.length=n):=hx;have hF: ∀k x,xs[k]?=some x->b<w.heap.size:=λk x hk=>qp (hc k x hk);rw[hx]at hn ⊢;have t1:decide (12<(n:Int))=false:=by simp;omega
  go_enter func26,ntmps26
  go_wp2_with(first|(go_at_call 55;refine(h7 _).mono ?_;clear h7;rintro e w1 ⟨rfl,h6⟩;subst w1)|(go_at_call 55;refine(hb _).mono ?_;rintro e w1 ⟨rfl,h6⟩;subst w1))
  clear hb t1 hA
  go_loopw [32] (λi wr=> ∃(k:Nat) (m:List (Value×Value)),k<=n/\i=.int .i64 k/\POInv xs w wr k w.heap.size m) (λi _=>n-(intOf i).toNat)
  case atStart=>exact⟨0,_,Um _,rfl,ho⟩
  case round=>
   obtain⟨k,m,hk,rfl,hI⟩:=hrel;clear ho;by_cases hlt:k<n
   ·have hf:k<xs.length:=by have:=HX.out;omega
    obtain⟨x,hx⟩: ∃x,xs[k]=x:=⟨_,rfl⟩;have he:xs[k]?=some x:=by rw[OC hf,hx]
    have hK:wr.cell? ⟨b,off+k,none⟩=some (.string x):=by rw[←hc k x he];exact hI.below.cell (hF k x he)
    have ht:Hid (∀w1,Calls prog 56 #[.string x] w1 (aR x w1)):=λw1=>cO x w1;have HI:Hid (POInv xs w wr k w.heap.size m):=hI;have h9:Hid (k<xs.length/\xs[k]?=some x):=⟨hf,he⟩;clear hf he hx hI;cases hr:yl x
    ·have HF:Hid (xN xs=some (k,2)):=kS HI.out.ok h9.out.1 (lP h9.out.2 (by rw[←oL];exact hr))
     have hE:Hid (∀w1,Calls prog 56 #[.string x] w1 _):=λw1=>wm x hr w1;clear ht hr
     go_wp2_with(go_at_call 56;refine(hE.out _).mono ?_;rintro e w1 ⟨rfl,h0⟩)
     refine bodyPost_ret (v:=.tuple #[.pointer none,.int .i64 k,.int .i64 2]) (by simp[results,results26,go_sem]) rfl ⟨(HI.out.below.trans (h0.mono HI.out.below.size)).alloc (Ue HI.out.below.size h0.size) _,Or.inr ⟨HA.out,Or.inl ⟨k,2,HF.out,rfl⟩⟩⟩
    ·have h8:Hid (∀w1,Calls prog 56 #[.string x] w1 _):=λw1=>bE x hr w1
     have HR:Hid (yl x=true):=hr;have HG:Hid (yX (zl (qU (rd0 x)) (zh (rd0 x)))):=sI hr;clear ht hr;cases hg:getM m (zl (qU (rd0 x)) (zh (rd0 x)))with
     |some u=>
      have HF:Hid (xN xs=some (k,3)):=kS HI.out.ok h9.out.1 ((HI.out.dup h9.out.2 HR.out).1 u hg);have hm:Hid (∀w2,Below wr.heap.size wr w2->(Instr.lookup 96 (.map (some w.heap.size)) (.agg #[.string (qU (rd0 x)),.string (zh (rd0 x))]) true).run prog w2=.ok (.tuple #[u,.bool true]) w2):=by
       intro w2 hj;have:=(uV pp underlying96 (HI.out.map.move (hj.block _ HI.out.map.lt)) HG.out (Tryz.zeroWay w2)).1;rw[hg]at this;exact this
      have hG:Hid (∃is a b y n c,u=.agg #[.int .i64 is,.string a,.string b,.slice y n c]):=by
       obtain⟨i,hi⟩:=OX.1 (jX hg);have hu:=(OE.1 hi).1;rw[HI.out.rmap.len]at hu;exact(HI.out.rmap.way i _ _ (OC hu) hi).agg
      clear hg;obtain⟨ui,ua,ub,uy,un,uc,rfl⟩:=hG.out;generalize qU (rd0 x)=ha at *;generalize zh (rd0 x)=hd at *
      go_wp2_with(go_at_call 56;refine(h8.out _).mono ?_;rintro e w1 ⟨vi,va,vb,vy,vn,vc,rfl,h0,-⟩;have hC:=hm.out (w1.alloc (.cells #[.string ha,.string hd,.int .i64 vi,.string va,.string vb,.slice vy vn vc] 108)) (h0.alloc h0.size _))
      refine bodyPost_ret (v:=.tuple #[.pointer none,.int .i64 k,.int .i64 3]) (by simp[results,results26,go_sem]) rfl ⟨((HI.out.below.trans (h0.mono HI.out.below.size)).alloc (Ue HI.out.below.size h0.size) _).alloc (by simp;exact Nat.le_succ_of_le (Ue HI.out.below.size h0.size)) _,Or.inr ⟨HA.out,Or.inl ⟨k,3,HF.out,rfl⟩⟩⟩
     |none=>
      have hm:Hid (∀w2,Below wr.heap.size wr w2->(Instr.lookup 96 (.map (some w.heap.size)) (.agg #[.string (qU (rd0 x)),.string (zh (rd0 x))]) true).run prog w2=.ok (.tuple #[.agg #[.int .i64 0,.string {data:= #[]},.string {data:= #[]},.slice none 0 0],.bool false]) w2):=by
       intro w2 hj;have:=(uV pp underlying96 (HI.out.map.move (hj.block _ HI.out.map.lt)) HG.out (Tryz.zeroWay w2)).1;rw[hg]at this;exact this
      have hB:Hid (∀(w3:World) (v:Value),Below wr.heap.size wr w3->WayAt w3 (wr.heap.size<= ·) (xZ x).1 v-> ∃w4,(Instr.mapUpdate 96 (.map (some w.heap.size)) (.agg #[.string (qU (rd0 x)),.string (zh (rd0 x))]) v).run prog w3=.ok () w4/\ ∃m',POInv xs w w4 (k+1) w.heap.size m'):=by
       intro w3 v hz hv;obtain⟨w4,h1,h2⟩:=HI.out.next h9.out.2 HR.out hg hz hv;exact⟨w4,h1,_,h2⟩
      clear hg;generalize qU (rd0 x)=ha at *;generalize zh (rd0 x)=hd at *
      go_wp2_with(go_at_call 56;refine(h8.out _).mono ?_;rintro e w1 ⟨vi,va,vb,vy,vn,vc,rfl,h0,hq⟩;have hC:=hm.out (w1.alloc (.cells #[.string ha,.string hd,.int .i64 vi,.string va,.string vb,.slice vy vn vc] 108)) (h0.alloc h0.size _);obtain⟨w4,hJ,m',hs⟩:=hB.out ((w1.alloc (.cells #[.string ha,.string hd,.int .i64 vi,.string va,.string vb,.slice vy vn vc] 108)).alloc (.cells #[.int .i64 0,.string {data:= #[]},.string {data:= #[]},.slice none 0 0] 106)) (.agg #[.int .i64 vi,.string va,.string vb,.slice vy vn vc]) ((h0.alloc h0.size _).alloc (by simp;exact Nat.le_succ_of_le h0.size) _) (hq.move λg hg hl=>⟨hg,by rw[Oq _ _ _ (by simp;omega),Oq _ _ _ hl]⟩);have hD:Hid (POInv xs w w4 (k+1) w.heap.size m'):=hs;clear hs hq)
      go_roundw
      case rel=>exact⟨k+1,m',by omega,by go_num,hD.out⟩
      case measure=>simp[intOf];omega
   ·obtain rfl:k=n:=by omega
    go_wp2_with(go_at_call 57;refine(hy.out _).mono ?_;rintro e w1 ⟨db,rfl,h0,hp⟩)
    exact bodyPost_ret (v:=.tuple #[.pointer (some ⟨w1.heap.size,0,none⟩),.int .i64 0,.int .i64 0]) (by simp[results,results26,go_sem]) rfl (hI.done HX.out HA.out h0 hp _ rfl)
theorem Zv(v:Value)(xs:List BA)(wk qu:Int)(w:World)(h:qE w v xs)(hl:xs.length<=maxLen)(hb:zY xs.length wk qu=true):
  Calls prog 26 #[v,.int .i64 wk,.int .i64 qu] w (ch xs wk qu w):=by
 obtain⟨n,hn⟩: ∃n,xs.length=n:=⟨_,rfl⟩;have HP:Hid (∀e,e=.returned (.tuple #[.pointer none,.int .i64 0,.int .i64 1])->ch xs wk qu w e w):=λe he=>⟨Ou _ _,Or.inl ⟨hb,he⟩⟩;have hv: ∃x c,v=.slice x n c:=by
  rcases h with⟨rfl,rfl⟩|⟨b,off,cap,rfl,-⟩
  ·exact⟨none,0,by rw[←hn];rfl⟩
  ·exact⟨_,cap,by rw[hn]⟩
 obtain⟨x,c,rfl⟩:=hv;rw[hn]at hb hl;unfold maxLen at hl;generalize ch xs wk qu w=post at *;clear h hn;unfold zY at hb;have h0:=λw1=>ye wk 1 4 w1;have h5:=λw1=>ye qu 1 6 w1;by_cases h1:12<n
 ·clear hb
  go_enter func26,ntmps26
  go_wp2_with fail
  exact bodyPost_ret (v:=.tuple #[.pointer none,.int .i64 0,.int .i64 1]) (by simp[results,results26,go_sem]) rfl (HP.out _ rfl)
 ·have t1:decide (12<(n:Int))=false:=by simp;omega
  by_cases h2:1<=wk/\wk<=4
  ·have h3:(decide (1<=qu) && decide (qu<=6))=false:=by
    obtain⟨ha,h6⟩:=h2;simp[h1]at hb ⊢;omega
   rw[Up h2.1,Up h2.2,Bool.and_self]at h0;rw[h3]at h5;clear hb h3;go_enter func26,ntmps26
   go_wp2_with(first|(go_at_call 55;refine(h0 _).mono ?_;clear h0;rintro e w1 ⟨rfl,h4⟩;subst w1)|(go_at_call 55;refine(h5 _).mono ?_;rintro e w1 ⟨rfl,h4⟩;subst w1))
   exact bodyPost_ret (v:=.tuple #[.pointer none,.int .i64 0,.int .i64 1]) (by simp[results,results26,go_sem]) rfl (HP.out _ rfl)
  ·have h3:(decide (1<=wk) && decide (wk<=4))=false:=by simp;omega
   rw[h3]at h0;clear hb h3;go_enter func26,ntmps26
   go_wp2_with(first|(go_at_call 55;refine(h0 _).mono ?_;clear h0;rintro e w1 ⟨rfl,h4⟩;subst w1))
   exact bodyPost_ret (v:=.tuple #[.pointer none,.int .i64 0,.int .i64 1]) (by simp[results,results26,go_sem]) rfl (HP.out _ rfl)
theorem lr(v:Value)(xs:List BA)(wk qu:Int)(w:World)(h:qE w v xs)(hl:xs.length<=maxLen):
  Calls prog 26 #[v,.int .i64 wk,.int .i64 qu] w (ch xs wk qu w):=by
 cases hb:zY xs.length wk qu
 ·have h0:=hb
  unfold zY at h0;simp at h0;exact wo v xs wk qu w h (by omega) (by omega) (by omega) (by omega) (by omega)
 ·exact Zv v xs wk qu w h hl hb
theorem aZ(v:Value)(xs:List BA)(wk qu:Int)(w:World)(h:qE w v xs)(hl:xs.length<=maxLen)(h1: ∀x∈xs,x.size<=maxLen):
  Calls prog 70 #[v,.int .i64 wk,.int .i64 qu] w (iB xs wk qu w):=by
 cases hb:zY xs.length wk qu
 ·have h0:=hb
  unfold zY at h0;simp at h0;obtain⟨k,rfl⟩: ∃k:Nat,wk=(k:Int):=⟨wk.toNat,by omega⟩
  exact fM v xs k qu w h (by omega) h1 (by omega) (by omega) (by omega) (by omega)
 ·exact wT v xs wk qu w h hl hb
theorem bF(k n r:List UInt8)(hk:qx k=true)(hn:qx n=true):(ofS (mk (k++58::(n++35::r)))).toList=k++35::r:=by
 have h1: ∀x∈k++58::n,x≠(35:UInt8):=by
  intro x hx;simp only[OS,OT]at hx;rcases hx with h|rfl|h
  ·exact qZ (qJ hk) m35 x h
  ·decide
  ·exact qZ (qJ hn) m35 x h
 obtain⟨a1,a2,-⟩:=jG (mk (k++58::(n++35::r))) (k++58::n) r 35 (by rw[qA];simp) h1
 have h2: ∀x∈k,x≠(58:UInt8):=qZ (qJ hk) m58;obtain⟨b1,-,-⟩:=jG (mk (k++58::n)) k n 58 (qA _) h2;have h3:qX (mk (k++58::(n++35::r))) 35=mk (k++58::n):=a1;have h0:qS (mk (k++58::(n++35::r))) 35=mk r:=a2;have h4:qX (mk (k++58::n)) 58=mk k:=b1;unfold ofS fL Z4;rw[h3,h0,h4,Lib.toList_data];simp[mk,ByteArray.data_append]
theorem bG(h:xN xs=none): ∀(j:Nat) (y:BA),xs[j]?=some y->xm y=true:=by
 intro j y hy;unfold xN at h;rw[List.findSome?_eq_none_iff]at h;have hj:=(OE.1 hy).1;have:=h j (List.mem_range.2 hj);rw[Option.map_eq_none_iff]at this;unfold yy at this;rw[hy]at this;cases e:xm y
 ·simp[e]at this
 ·rfl
theorem lu(h:RMap w lo xs m)(hm:(m.map (·.1)).Nodup)(ho:xN xs=none)(k n r:List UInt8)(hk:qx k=true)(hn:qx n=true):
  ((getM m (zl (mk k) (mk r))).isSome=true↔(qD (qh xs) (mk (k++58::(n++35::r)))).size≠0):=by
 have h0:=bG ho;have h3: ∀(j:Nat) (y:BA),xs[j]?=some y->((qT y).toList=k++35::r↔zl (qU (rd0 y)) (zh (rd0 y))=zl (mk k) (mk r)):=by
  intro j y hy;obtain⟨-,k',r',wy,op,ts,d⟩:=xL y (h0 j y hy);obtain⟨a1,a2,-,-⟩:=jl y d;rw[a1,a2,(uh y d).1,Lib.toList_data,qA]
  constructor
  ·intro h
   have h1: ∀z∈k',z≠(35:UInt8):=qZ (qJ d.hk) m35;have h2: ∀z∈k,z≠(35:UInt8):=qZ (qJ hk) m35;have e1:=jf k' r' 35 h1;have e2:=jf k r 35 h2;rw[h,e2]at e1;have el:k.length=k'.length:=by injection e1
   have:=List.append_inj h el.symm;have t:=this.2;injection t with _ t;rw[this.1,t]
  ·intro h
   obtain⟨h1,h2⟩:=de h;have e1:k'=k:=congrArg (λs=>s.data.toList) h1;have e2:r'=r:=congrArg (λs=>s.data.toList) h2;rw[e1,e2]
 unfold qD;rw[bF k n r hk hn];cases hf:(qh xs).find? (λx=>x.1.toList==k++35::r)with
 |none=>
  have h6:getM m (zl (mk k) (mk r))=none:=by
   refine vY λp hp e=>?_;obtain⟨j,hj⟩:=OX.1 hp;have h4:=(OE.1 hj).1;rw[h.len]at h4;obtain⟨y,hy⟩: ∃y,xs[j]?=some y:=⟨_,OC h4⟩;have h5:=h.key j y p hy hj;have hr:=(h3 j y hy).2 (h5.symm.trans e);rw[List.find?_eq_none]at hf;have:=hf (qT y,xr y) (OY.2 ⟨y,OZ hy,rfl⟩);simp[hr]at this
  rw[h6];simp[ByteArray.size]
 |some x=>
  have hx:=List.find?_some hf;obtain⟨y,hy,rfl⟩:=OY.1 (List.mem_of_find?_eq_some hf);obtain⟨j,hj⟩:=OX.1 hy;simp at hx;have hh:=(h3 j y hj).1 hx;have h4:=(OE.1 hj).1;obtain⟨p,hp⟩: ∃p,m[j]?=some p:=⟨_,OC (by rw[h.len];exact h4)⟩
  have h5:=(h.key j y p hj hp).trans hh;have hg:getM m (zl (mk k) (mk r))=some p.2:=ia hm (by rw[←h5];exact OZ hp)
  rw[hg];obtain⟨-,k',r',wy,op,ts,d⟩:=xL y (h0 j y hj);have hw:=(uh y d).2.1;simp only[Option.isSome_some,true_iff];rw[hw,zE];exact λe=>cX d.gr (Oy e)
noncomputable def faultG (m:List (Value×Value)) (s:BA):Int:=
 if(qP s {data:= #[43]}||qP s {data:= #[45]})=false then 4
 else if xG (s.extract 1 s.size)=false then 4
 else if(getM m (zl (qM (s.extract 1 s.size)).kind (qM (s.extract 1 s.size)).rel)).isSome=false\/((zL (s.extract 1 s.size)).rel.size≠0/\(getM m (zl (zL (s.extract 1 s.size)).kind (zL (s.extract 1 s.size)).rel)).isSome=false)then 5
 else 0
theorem dD(s:BA):(qP s {data:= #[43]}||qP s {data:= #[45]})=false↔(s.size=0\/(qR s 0≠43/\qR s 0≠45)):=by
 have h1: ∀c:UInt8,qP s {data:= #[c]}=true↔(s.size≠0/\qR s 0=c.toNat):=by
  intro c;rw[iK];unfold qR;rw[zC];cases s.data.toList with
  |nil=>simp
  |cons x l=>
   simp only[OL]
   constructor
   ·rintro⟨r,hr⟩;injection hr with h _;exact⟨by omega,by rw[h];rfl⟩
   ·rintro⟨-,h⟩
    have:x=c:=(u8i x c).1 h;exact⟨l,by rw[this];rfl⟩
 rw[Bool.or_eq_false_iff];have e1:qP s {data:= #[43]}=false↔ ¬(s.size≠0/\qR s 0=43):=by rw[←Bool.not_eq_true,h1 43];exact Iff.rfl
 have e2:qP s {data:= #[45]}=false↔ ¬(s.size≠0/\qR s 0=45):=by rw[←Bool.not_eq_true,h1 45];exact Iff.rfl
 rw[e1,e2];by_cases h0:s.size=0<;>simp[h0]
theorem Zw(h:RMap w lo xs m)(hm:(m.map (·.1)).Nodup)(ho:xN xs=none)(s:BA):faultG m s=xk (qh xs) s:=by
 unfold faultG xk;by_cases h1:(qP s {data:= #[43]}||qP s {data:= #[45]})=false
 ·rw[if_pos h1,if_pos ((dD s).1 h1)]
 ·rw[if_neg h1,if_neg (λe=>h1 ((dD s).2 e)),jv]
  cases ht:xG (s.extract 1 s.size)
  ·simp
  ·obtain⟨k,n,r,k2,n2,o,d⟩:=iY _ ht
   obtain⟨-,p1,p2⟩:=pF _ k n r k2 n2 o d;obtain⟨c1,c2,-⟩:=k9 _ k n r k2 n2 o d;rw[c1,c2];simp only[Bool.true_eq_false,if_false];have q1:=lu h hm ho k n r d.hk d.hn;rw[p1,p2];dsimp only;cases o with
   |none=>
    have h0:xt (mk (k2++58::(n2++zO none)))=false:=by
     cases e:xt (mk (k2++58::(n2++zO none)))
     ·rfl
     ·exfalso
      unfold xt at e;simp only[Bool.and_eq_true]at e;have t:=cL _ 35 e.1.1;have:(35:UInt8)∈k2++58::(n2++[]):=by
       have t':k2++58::(n2++[])=_:=t;rw[t'];simp
      simp only[List.append_nil,OS,OT]at this;rcases this with h|h|h
      ·exact qZ (qJ d.hk2) m35 _ h rfl
      ·exact absurd h (by decide)
      ·exact qZ (qJ d.hn2) m35 _ h rfl
    rw[h0];have e1:((getM m (zl (mk k) (mk r))).isSome=false)↔(qD (qh xs) (mk (k++58::(n++35::r)))).size=0:=by
     rw[←Bool.not_eq_true,q1];simp
    have hz: ¬((iH none).size≠0):=λe=>e rfl;by_cases ha:(getM m (zl (mk k) (mk r))).isSome=false
    ·rw[if_pos (Or.inl ha),if_pos (Or.inl (e1.1 ha))]
    ·rw[if_neg (by rintro(h|h);exact ha h;exact hz h.1),if_neg (by rintro(h|h);exact ha (e1.2 h);exact absurd h.1 (by decide))]
   |some x=>
    have hx:=d.ho x rfl;have h0:xt (mk (k2++58::(n2++zO (some x))))=true:=cM k2 n2 x d.hk2 d.hn2 hx;rw[h0];have q2:=lu h hm ho k2 n2 x d.hk2 d.hn2;have e1:((getM m (zl (mk k) (mk r))).isSome=false)↔(qD (qh xs) (mk (k++58::(n++35::r)))).size=0:=by
     rw[←Bool.not_eq_true,q1];simp
    have e2:((getM m (zl (mk k2) (mk x))).isSome=false)↔(qD (qh xs) (mk (k2++58::(n2++35::x)))).size=0:=by
     rw[←Bool.not_eq_true,q2];simp
    have h2:(mk x).size≠0:=by rw[zE];exact λe=>iX hx (Oy e)
    have hrel:iH (some x)=mk x:=rfl;rw[hrel];have eo:zO (some x)=35::x:=rfl;rw[eo];by_cases ha:(getM m (zl (mk k) (mk r))).isSome=false
    ·rw[if_pos (Or.inl ha),if_pos (Or.inl (e1.1 ha))]
    ·by_cases hb:(getM m (zl (mk k2) (mk x))).isSome=false
     ·rw[if_pos (Or.inr ⟨h2,hb⟩),if_pos (Or.inr ⟨rfl,e2.1 hb⟩)]
     ·rw[if_neg (by rintro(h|h);exact ha h;exact hb h.2),if_neg (by rintro(h|h);exact ha (e1.2 h);exact hb (e2.2 h.2))]
