import Derived.Test.YtalmoiogbdahcaaGreatARefG
open Go.Proofs.Tryz
namespace Go.Proofs.YtalmoiogbdahcaaGreat
set_option maxRecDepth 100000
set_option maxHeartbeats 8000000
open Go.RowKit
def yy(rs:List BA)(k:Nat):Option Int:=
 match rs[k]? with
 |none=>none
 |some s=>if xm s=false then some 2 else if(rs.take k).any (λx=>(qT x).toList==(qT s).toList)then some 3 else none
def xN(rs:List BA):Option (Nat×Int):=(List.range rs.length).findSome? λk=>(yy rs k).map λc=>(k,c)
variable{k:Nat}{rs:List BA}
theorem kS{c:Int}(h: ∀j,j<k->yy rs j=none)(hk:k<rs.length)(hc:yy rs k=some c):xN rs=some (k,c):=by
 unfold xN;rw[show List.range rs.length=List.range k++(List.range (rs.length-k)).map (k+ ·)from by rw[←List.range_add,Nat.add_sub_cancel' (by omega)],List.findSome?_append]
 have h1:(List.range k).findSome? (λk=>(yy rs k).map λc=>(k,c))=none:=by
  rw[List.findSome?_eq_none_iff];intro j hj;rw[h j (List.mem_range.1 hj)];rfl
 rw[h1];obtain⟨n,hn⟩: ∃n,rs.length-k=n+1:=⟨rs.length-k-1,by omega⟩
 rw[hn,List.range_succ_eq_map];simp[hc]
theorem iA(h: ∀j,j<rs.length->yy rs j=none):xN rs=none:=by
 unfold xN;rw[List.findSome?_eq_none_iff];intro j hj;rw[h j (List.mem_range.1 hj)];rfl
def zY(n:Nat)(wk qu:Int):Bool:=decide (12<n)||decide (wk<1)||decide (4<wk)||decide (qu<1)||decide (6<qu)
def qh(xs:List BA):List (BA×BA):=xs.map λs=>(qT s,xr s)
def flR(xs:List (BA×BA)):List Value:=xs.flatMap λx=>[.string x.1,.string x.2]
def iB(xs:List BA)(wk qu:Int)(w:World)(e:Ending)(w':World):Prop:=
 Below w.heap.size w w'/\((zY xs.length wk qu=true/\e=.returned (.tuple #[.pointer none,.int .i64 0,.int .i64 1]))\/
  (zY xs.length wk qu=false/\((∃k c,xN xs=some (k,c)/\e=.returned (.tuple #[.pointer none,.int .i64 k,.int .i64 c]))\/
    (xN xs=none/\ ∃b rv wb n,e=.returned (.tuple #[.pointer (some ⟨b,0,none⟩),.int .i64 0,.int .i64 0])/\w.heap.size<=b/\xX w' b ⟨rv,.slice none 0 0,0,0,false,qu,.slice none 0 0,.slice (some ⟨wb,0,none⟩) n n⟩/\
      w'.ownsRow w.heap.size 163 2 rv (qh xs).length (flR (qh xs))/\(n:Int)=wk/\w.heap.size<=wb/\w'.heap[wb]?=some (.cells (List.replicate n (Value.int .i64 0)).toArray 3 (0,0))))))
theorem wT(v:Value)(xs:List BA)(wk qu:Int)(w:World)(h:qE w v xs)(hl:xs.length<=maxLen)(hb:zY xs.length wk qu=true):
  Calls prog 70 #[v,.int .i64 wk,.int .i64 qu] w (iB xs wk qu w):=by
 obtain⟨n,hn⟩: ∃n,xs.length=n:=⟨_,rfl⟩;have HP:Hid (∀e,e=.returned (.tuple #[.pointer none,.int .i64 0,.int .i64 1])->iB xs wk qu w e w):=λe he=>⟨Ou _ _,Or.inl ⟨hb,he⟩⟩;have hv: ∃x c,v=.slice x n c:=by
  rcases h with⟨rfl,rfl⟩|⟨b,off,cap,rfl,-⟩
  ·exact⟨none,0,by rw[←hn];rfl⟩
  ·exact⟨_,cap,by rw[hn]⟩
 obtain⟨x,c,rfl⟩:=hv;rw[hn]at hb hl;unfold maxLen at hl;generalize iB xs wk qu w=post at *;clear h hn;unfold zY at hb;by_cases h1:12<n
 ·clear hb
  go_enter func70,ntmps70;go_wp2;refine bodyPost_ret (v:=.tuple #[.pointer none,.int .i64 0,.int .i64 1]) (by simp[results,results70,go_sem]) rfl (HP.out _ rfl)
 ·by_cases h2:wk<1
  ·clear hb
   go_enter func70,ntmps70;go_wp2;refine bodyPost_ret (v:=.tuple #[.pointer none,.int .i64 0,.int .i64 1]) (by simp[results,results70,go_sem]) rfl (HP.out _ rfl)
  ·by_cases h3:4<wk
   ·clear hb
    go_enter func70,ntmps70;go_wp2;refine bodyPost_ret (v:=.tuple #[.pointer none,.int .i64 0,.int .i64 1]) (by simp[results,results70,go_sem]) rfl (HP.out _ rfl)
   ·by_cases h4:qu<1
    ·clear hb
     go_enter func70,ntmps70;go_wp2;refine bodyPost_ret (v:=.tuple #[.pointer none,.int .i64 0,.int .i64 1]) (by simp[results,results70,go_sem]) rfl (HP.out _ rfl)
    ·have h5:6<qu:=by simp[h1,h2,h3,h4]at hb;omega
     clear hb;go_enter func70,ntmps70;go_wp2;refine bodyPost_ret (v:=.tuple #[.pointer none,.int .i64 0,.int .i64 1]) (by simp[results,results70,go_sem]) rfl (HP.out _ rfl)
theorem Tryz.infoInt:(prog.info? 3).map (λi=>(i.zero,i.size,i.bytes))=some (some (.int .i64 0),1,8):=by kernel_rfl
theorem Tryz.infoRule:(prog.info? 163).map (λi=>(i.zero,i.size,i.bytes))=some (some (.agg #[.string {data:= #[]},.string {data:= #[]}]),2,32):=by kernel_rfl
theorem Yy: ∃i,prog.info? 163=some i/\i.zero=some (.agg #[.string {data:= #[]},.string {data:= #[]}])/\i.size=2/\i.bytes=32:=by
 obtain⟨i,hi,h0⟩:=Un.1 Tryz.infoRule;simp only[Prod.mk.injEq]at h0;exact⟨i,hi,h0.1,h0.2.1,h0.2.2⟩
theorem J5(w:World)(base:Nat)(v:Value)(n:Nat)(xs:List Value)(c0 c1:BA)(h1:w.ownsRow base 163 2 v n xs)(hb:base<=w.heap.size)(hl:n<=100000):
  ∃v' w',(Builtin.append_ #[121,121] 121 #[v,.slice (some ⟨w.heap.size,0,none⟩) 1 1]).run prog (w.alloc (.cells #[.string c0,.string c1] 163))=.ok v' w'/\
   w'.ownsRow base 163 2 v' (n+1) (xs++[.string c0,.string c1])/\w.grownBy w' v.ownBlock:=by
 obtain⟨i,hi,hz,hs,h5⟩:=Yy;have h0: ∀(j:Nat) (u:Value),[Value.string c0,.string c1][j]?=some u->(w.alloc (.cells #[.string c0,.string c1] 163)).cell? ((⟨w.heap.size,0,none⟩:Addr).add j)=some u:=by
  intro j u hj;have e:(⟨w.heap.size,0,none⟩:Addr).add j=⟨w.heap.size,j,none⟩:=by
   unfold Addr.add;split
   ·rename_i h;rw[h]
   ·simp
  rw[e];exact qa (cs:=[.string c0,.string c1]) (t:=163) (fz:=(0,0)) (by show(w.heap.push _)[w.heap.size]?=_;rw[Array.getElem?_push_size]) hj
 obtain⟨v',w',hr,h2,h3,h4⟩:=run_append_own (P:=prog) (w.alloc (.cells #[.string c0,.string c1] 163)) base 121 121 163 i _ 2 32 underlying121 hi hz hs h5 rfl (by decide) v n xs (h1.alloc _) ⟨w.heap.size,0,none⟩ 1 1 [.string c0,.string c1] rfl h0
  (by intro u hu;simp at hu;rcases hu with rfl|rfl<;>rfl) (by unfold maxLen;omega) (by omega) (by simp;omega)
 exact⟨v',w',hr,h2,uW h3⟩
structure ROInv(xs:List BA)(w:World)(wk:Nat)(qu:Int)(wr:World)(k:Nat)(rv:Value):Prop where
 own:wr.ownsRow w.heap.size 163 2 rv k (flR (qh (xs.take k)))
 gate:xX wr (w.heap.size+1) ⟨rv,.slice none 0 0,0,0,false,qu,.slice none 0 0,.slice (some ⟨w.heap.size,0,none⟩) wk wk⟩
 wrk:wr.heap[w.heap.size]?=some (.cells (List.replicate wk (Value.int .i64 0)).toArray 3 (0,0))
 below:Below w.heap.size w wr
 ok: ∀j,j<k->yy xs j=none
theorem Yz(wk:Nat):madeCells #[Value.int .i64 0] wk=(List.replicate wk (Value.int .i64 0)).toArray:=by
 apply Array.ext
 ·simp[madeCells]
 ·intro i h1 h2
  simp[madeCells,Nat.mod_one]
theorem lO(w:World)(cs:List Value)(t:TypeId):(w.alloc (.cells cs.toArray t)).heap[w.heap.size]?=some (.cells cs.toArray t (0,0)):=by
 show(w.heap.push _)[w.heap.size]?=_
 rw[Array.getElem?_push_size]
variable{w w':World}
theorem iC{P:Program}{ops:Array Oper}{o:Oper}{a:Act}{K:Act->World->Prop}{Q:Exit->Act->World->Prop}{E:Prop}
  (hg:o.guard=none) (s x:Operand) (t:TypeId) (h0:o.op=Op.call {callee:=Callee.builtin Builtin.append,args:= #[s,x],argTypes:= #[t,t]}) (v u v':Value) (hs:a.eval s=v) (hx:a.eval x=u)
  (hr:(Builtin.append_ #[t,t] o.type #[v,u]).run P w=.ok v' w') (hK:K (a.put o.dst v') w'):if Region.wanted o (yielded ops a.tmps)=true then Oper.wp P o a w K Q else E:=by
 have hw:Region.wanted o (yielded ops a.tmps)=true:=by simp[Region.wanted,hg]
 rw[if_pos hw];unfold Oper.wp;simp[execOp,h0,resolve,invoke,builtin,hs,hx,hr,Result.andThen];exact hK
variable{x:BA}
theorem lP{xs:List BA}(h:xs[k]?=some x)(hr:xm x=false):yy xs k=some 2:=by unfold yy;rw[h];simp[hr]
variable{j:Nat}
theorem ad{xs:List BA}{y:BA}(h:xs[k]?=some x)(hr:xm x=true)(hj:j<k)(hy:xs[j]?=some y)(he:((qT y).toList==(qT x).toList)=true):yy xs k=some 3:=by
 unfold yy;rw[h];have:(xs.take k).any (λx'=>(qT x').toList==(qT x).toList)=true:=by
  rw[List.any_eq_true];exact⟨y,OZ (by rw[OJ hj];exact hy),he⟩
 simp[hr,this]
theorem dR{xs:List BA}(h:xs[k]?=some x)(hr:xm x=true)(hn: ∀j y,j<k->xs[j]?=some y->((qT y).toList==(qT x).toList)=false):yy xs k=none:=by
 unfold yy;rw[h];have:(xs.take k).any (λx'=>(qT x').toList==(qT x).toList)=false:=by
  rw[List.any_eq_false];intro y hy;obtain⟨j,hj⟩:=OX.1 hy;have h0:j<k:=by
   have:=(OE.1 hj).1;rw[OQ]at this;omega
  rw[OJ h0]at hj;simp[hn j y h0 hj]
 simp[hr,this]
theorem Gl{rs:List (BA×BA)}{x:BA×BA}(h:rs[j]?=some x):(flR rs)[j * 2]?=some (.string x.1)/\(flR rs)[j * 2+1]?=some (.string x.2):=by
 induction rs generalizing j with
 |nil=>simp at h
 |cons r rs ih=>
  unfold flR;rw[List.flatMap_cons];cases j with
  |zero=>simp at h;subst h;exact⟨rfl,rfl⟩
  |succ j=>
   obtain⟨h1,h2⟩:=ih (j:=j) (by simpa using h)
   rw[show(j+1) * 2=j * 2+2 by omega,show j * 2+2+1=j * 2+1+2 by omega]
   exact⟨h1,h2⟩
variable{base:Nat}{v:Value}
theorem jr{rs:List (BA×BA)}(h:w.ownsRow base 163 2 v rs.length (flR rs)):vL w v rs:=by
 rcases h.2 with⟨hv,hn⟩|⟨g,cap,cur,hv,hg,hh,-,-,-,ht⟩
 ·exact Or.inl ⟨hv,Oy hn⟩
 ·refine Or.inr ⟨g,cap,hv,λi x hx=>?_⟩
  have hi:=(OE.1 hx).1;obtain⟨h1,h2⟩:=Gl hx;have key: ∀j u,j<rs.length * 2->(flR rs)[j]?=some u->w.cell? ⟨g,j,none⟩=some u:=λj u hj hu=>by
   rw[←ht,OJ hj]at hu;simp only[World.cell?,hh]
   simpa using hu
  exact⟨key _ _ (by omega) h1,key _ _ (by omega) h2⟩
theorem ROInv.start(xs:List BA)(w:World)(wk:Nat)(qu:Int):ROInv xs w wk qu ((w.alloc (.cells (madeCells #[Value.int .i64 0] wk) 3)).alloc (.cells #[.slice none 0 0,.slice none 0 0,.int .i64 0,.int .i64 0,.bool false,.int .i64 qu,.slice none 0 0,.slice (some ⟨w.heap.size,0,none⟩) wk wk] 124)) 0 (.slice none 0 0):=by
 rw[Yz wk];refine⟨World.ownsRow_nil _ _ _ _,?_,?_,((Ou _ _).alloc (Uc _) _).alloc (by simp) _,λj hj=>by omega⟩
 ·unfold xX
  show((w.heap.push _).push _)[w.heap.size+1]?=_
  have e:w.heap.size+1=(w.heap.push (Obj.cells (List.replicate wk (Value.int .i64 0)).toArray 3)).size:=by simp
  rw[e,Array.getElem?_push_size];rfl
 ·rw[Oq _ _ _ (by simp)]
  show(w.heap.push _)[w.heap.size]?=_
  rw[Array.getElem?_push_size]
variable{e:TypeId}{n size:Nat}{xs:List Value}
theorem qf(h:w.ownsRow base e size v n xs): ∀g,v.ownBlock=some g->g<w.heap.size/\base<=g/\ ∃cur:Array Value,w.heap[g]?=some (.cells cur e (0,0)):=by
 intro g hg;rcases h.2 with⟨rfl,-⟩|⟨g',cap,cur,rfl,a,b,-⟩
 ·simp[Value.ownBlock]at hg
 ·simp[Value.ownBlock]at hg;subst hg;exact⟨qc b,a,cur,b⟩
theorem qF(h:w.ownsRow base e size v n xs)(hb: ∀g,v.ownBlock=some g->w'.heap[g]?=w.heap[g]?):w'.ownsRow base e size v n xs:=by
 obtain⟨h1,h2⟩:=h;refine⟨h1,?_⟩;rcases h2 with h|⟨g,cap,cur,rfl,a,b,c⟩
 ·exact Or.inl h
 ·exact Or.inr ⟨g,cap,cur,rfl,a,(hb g rfl).trans b,c⟩
theorem ROInv.next{xs:List BA}{wk:Nat}{qu:Int}{wr:World}{rv:Value}(h:ROInv xs w wk qu wr k rv)(hx:xs[k]?=some x)(hf:yy xs k=none){w2:World}(h2:Below wr.heap.size wr w2)(hk:k<=12):
  ∃g4 c4 w4,(Builtin.append_ #[121,121] 121 #[rv,.slice (some ⟨w2.heap.size,0,none⟩) 1 1]).run prog (w2.alloc (.cells #[.string (qT x),.string (xr x)] 163))=.ok (.slice (some ⟨g4,0,none⟩) (k+1) c4) w4/\
   w4.cell? ⟨w.heap.size+1,0,none⟩=some rv/\w4.frozen? ⟨w.heap.size+1,0,none⟩=false/\ROInv xs w wk qu (w4.setCell ⟨w.heap.size+1,0,none⟩ (.slice (some ⟨g4,0,none⟩) (k+1) c4)) (k+1) (.slice (some ⟨g4,0,none⟩) (k+1) c4):=by
 have h8:=qf h.own;have h9:=h.below.size;have h3:=qF (w':=w2) h.own (λg hg=>h2.block g (h8 g hg).1);obtain⟨v4,w4,h7,h1,h5⟩:=J5 w2 w.heap.size rv k _ (qT x) (xr x) h3 (Ue h9 h2.size) (by omega)
 have hp: ∃g4 c4,v4=.slice (some ⟨g4,0,none⟩) (k+1) c4:=by
  rcases h1.2 with⟨-,h0⟩|⟨g,cap,cur,hv,-⟩
  ·omega
  ·exact⟨g,cap,hv⟩
 obtain⟨g4,c4,rfl⟩:=hp;have hm:w.heap.size+1<wr.heap.size:=qc h.gate;have hq:w.heap.size<wr.heap.size:=qc h.wrk;have ha: ∀(b:Nat) (cs:List Value) (t:TypeId),wr.heap[b]?=some (.cells cs.toArray t (0,0))->t≠163->some b≠rv.ownBlock:=by
  intro b cs t hb ht e;obtain⟨-,-,cur,hc⟩:=h8 b e.symm;rw[hb]at hc;injection hc with hc;injection hc with _ hc;exact ht hc
 have h4: ∀b,b<wr.heap.size->some b≠rv.ownBlock->w4.heap[b]?=wr.heap[b]?:=λb hb hn=>by
  rw[h5.block b (Ug hb h2.size) hn,h2.block b hb]
 have h6:w4.heap[w.heap.size+1]?=_:=(h4 _ hm (ha _ _ _ h.gate (by decide))).trans h.gate
 have hl:w4.heap[w.heap.size]?=_:=(h4 _ hq (ha _ _ _ h.wrk (by decide))).trans h.wrk
 have hi:g4≠w.heap.size+1:=by
  intro e;obtain⟨-,-,cur,hc⟩:=qf h1 g4 rfl;rw[e,h6]at hc;injection hc with hc;injection hc with _ hc;exact absurd hc (by decide)
 refine⟨g4,c4,w4,h7,qa h6 (j:=0) rfl,qd h6 0,?_,?_,?_,?_,?_⟩
 ·have e:flR (qh (xs.take (k+1)))=flR (qh (xs.take k))++[.string (qT x),.string (xr x)]:=by
   have hd:=OE.1 hx;obtain⟨ho,he⟩:=hd;rw[O8 ho,he];unfold qh flR;rw[OR,List.flatMap_append];rfl
  rw[e];exact qF h1 (λg hg=>by
   simp[Value.ownBlock]at hg;subst hg;exact Ot _ _ _ _ hi)
 ·exact qL h6 0 _
 ·rw[Ot _ _ _ _ (by show w.heap.size≠w.heap.size+1;omega)];exact hl
 ·refine Below.setCell ?_ (Ud _) _
  refine(h.below.trans (h2.mono h9)).grown h5 (Ue h9 h2.size) (λj hj=>?_);exact(h8 j hj).2.1
 ·intro j hj
  by_cases e:j=k
  ·subst e;exact hf
  ·exact h.ok j (by omega)
theorem fM(v:Value)(xs:List BA)(wk:Nat)(qu:Int)(w:World)(h:qE w v xs)(hn:xs.length<=12)(hS: ∀x∈xs,x.size<=maxLen)(h2:1<=wk)(h3:wk<=4)(h4:1<=qu)(h5:qu<=6):
  Calls prog 70 #[v,.int .i64 wk,.int .i64 qu] w (iB xs wk qu w):=by
 have H5:=run_make_row' (P:=prog) 25 3 (.int .i64 0) 8 underlying25 Tryz.infoInt rfl .i64 .i64 wk (by omega) (by omega)
 have HA:Hid (zY xs.length wk qu=false):=by show _=_;unfold zY;simp;omega
 rcases h with⟨rfl,rfl⟩|⟨b,off,cap,rfl,hc⟩
 ·have t2:decide ((wk:Int)<1)=false:=by simp;omega
  have t3:decide (4<(wk:Int))=false:=by simp;omega
  have t4:decide (qu<1)=false:=by simp;omega
  have t5:decide (6<qu)=false:=by simp;omega
  have hb:Hid (ROInv [] w wk qu _ 0 (.slice none 0 0)):=ROInv.start [] w wk qu;go_enter func70,ntmps70;go_wp2;refine wp_loop_rounds 1 ?_;rw[rounds_succ];go_wp2;refine bodyPost_ret (v:=.tuple #[.pointer (some ⟨w.heap.size+1,0,none⟩),.int .i64 0,.int .i64 0]) (by simp[results,results70,go_sem]) rfl ⟨hb.out.below,Or.inr ⟨HA.out,Or.inr ⟨iA λj hj=>absurd hj (Uj j),w.heap.size+1,_,w.heap.size,wk,rfl,Ud _,hb.out.gate,World.ownsRow_nil _ _ _ _,rfl,Uc _,hb.out.wrk⟩⟩⟩
 ·obtain⟨n,hx⟩: ∃n,xs.length=n:=⟨_,rfl⟩
  have HX:Hid (xs.length=n):=hx;have hO: ∀k x,xs[k]?=some x->b<w.heap.size:=λk x hk=>qp (hc k x hk);rw[hx]at hn ⊢;have t1:decide (12<(n:Int))=false:=by simp;omega
  have t2:decide ((wk:Int)<1)=false:=by simp;omega
  have t3:decide (4<(wk:Int))=false:=by simp;omega
  have t4:decide (qu<1)=false:=by simp;omega
  have t5:decide (6<qu)=false:=by simp;omega
  have hb:=ROInv.start xs w wk qu;go_enter func70,ntmps70;go_wp2;clear t1 t2 t3 t4 t5
  go_loopw [10] (λi wr=> ∃(k:Nat) (rv:Value),k<=n/\i=.int .i64 k/\ROInv xs w wk qu wr k rv) (λi _=>n-(intOf i).toNat)
  case atStart=>exact⟨0,_,Um _,rfl,hb⟩
  case round=>
   obtain⟨k,rv,hk,rfl,hI⟩:=hrel;clear hb;by_cases hlt:k<n
   ·have hd:k<xs.length:=by have:=HX.out;omega
    obtain⟨x,hx⟩: ∃x,xs[k]=x:=⟨_,rfl⟩;have hp:xs[k]?=some x:=by rw[OC hd,hx]
    have hV:wr.cell? ⟨b,off+k,none⟩=some (.string x):=by rw[←hc k x hp];exact hI.below.cell (hO k x hp)
    have hD:x.size<=maxLen:=hS x (by rw[←hx];exact List.getElem_mem hd)
    have hm:Hid (∀w1,Calls prog 116 #[.string x] w1 λe w'=> ∃A B,e=.returned (.tuple #[.agg #[.string A,.string B],.bool (xm x)])/\(xm x=true->A=qT x/\B=xr x)/\Below w1.heap.size w1 w'):=λw1=>J0 x w1 hD;have hZ:wr.cell? ⟨w.heap.size+1,0,none⟩=some rv:=qa hI.gate rfl;cases hr:xm x
    ·rw[hr]at hm
     go_wp2_with(go_at_call 116;refine(hm.out _).mono ?_;rintro e w1 ⟨A,B,rfl,-,h8⟩)
     refine bodyPost_ret (v:=.tuple #[.pointer none,.int .i64 k,.int .i64 2]) (by simp[results,results70,go_sem]) rfl ⟨(hI.below.trans (h8.mono hI.below.size)).alloc (Ue hI.below.size h8.size) _,Or.inr ⟨HA.out,Or.inl ⟨k,2,kS hI.ok hd (lP hp hr),rfl⟩⟩⟩
    ·rw[hr]at hm
     have HR:Hid (xm x=true):=hr;have HI:Hid (ROInv xs w wk qu wr k rv):=hI;have h7:Hid (k<xs.length/\xs[k]?=some x):=⟨hd,hp⟩;clear hr hd hp hx hD;rcases hI.own.2 with⟨rfl,rfl⟩|⟨g,cp,cur,rfl,H4,H1,H0,-,-,-⟩
     ·clear hI
      rw[Ua]at hV
      go_wp2_with(go_at_call 116;refine(hm.out _).mono ?_;rintro e w1 ⟨A,B,rfl,hz,h8⟩;obtain⟨rfl,rfl⟩:=hz rfl)
      have h0:=lO w1 [.string (qT x),.string (xr x)] 163;have h6:Below wr.heap.size wr (w1.alloc (.cells #[.string (qT x),.string (xr x)] 163)):=h8.alloc h8.size _;generalize w1.alloc (.cells #[.string (qT x),.string (xr x)] 163)=w2 at *;have hA:=qa h0 (j:=0) rfl;have hB:=qa h0 (j:=1) rfl;have hG:xX w2 (w.heap.size+1) _:=ut HI.out.gate h6;have ht:=qa hG (j:=0) rfl;have hR:=λo=>(World.cell?_of_block (a:=⟨w.heap.size+1,0,none⟩) (Oq w2 o (w.heap.size+1) (qc hG))).trans ht;have hJ:=qd hG 0;refine wp_loop_rounds 1 ?_;rw[rounds_succ];go_wp2;obtain⟨g4,c4,w4,ha,hL,hQ,hl⟩:=HI.out.next h7.out.2 (dR h7.out.2 HR.out (λj y hj=>by omega)) (w2:=w2.drew) h6.drew (by omega)
      have hu:Hid (ROInv xs w wk qu _ (0+1) (.slice (some ⟨g4,0,none⟩) (0+1) c4)):=hl;clear hl
      go_region_law (refine iC rfl (.tmp 76) (.tmp 78) 121 rfl _ _ _ (by simp[Act.eval]) (by simp[Act.eval]) ha ?_)
      all_goals go_wp2
      all_goals exact⟨⟨0+1,_,by omega,by go_num,hu.out⟩,by simp[intOf];omega⟩
     ·have hg:=jr (rs:=qh (xs.take k)) (by have:=hI.own;rwa [show(qh (xs.take k)).length=k from by unfold qh;rw[OM,OQ];have:=h7.out.1;omega])
      clear hI;have HL:Hid ((qh (xs.take k)).length=k):=by show _=_;unfold qh;rw[OM,OQ];have:=h7.out.1;omega
      go_wp2_with(go_at_call 116;refine(hm.out _).mono ?_;rintro e w1 ⟨A,B,rfl,hz,h8⟩;obtain⟨rfl,rfl⟩:=hz rfl)
      have h0:=lO w1 [.string (qT x),.string (xr x)] 163;have h6:Below wr.heap.size wr (w1.alloc (.cells #[.string (qT x),.string (xr x)] 163)):=h8.alloc h8.size _;generalize w1.alloc (.cells #[.string (qT x),.string (xr x)] 163)=w2 at *;have hA:=qa h0 (j:=0) rfl;have hB:=qa h0 (j:=1) rfl;have hG:xX w2 (w.heap.size+1) _:=ut HI.out.gate h6;have ht:=qa hG (j:=0) rfl;have hR:=λo=>(World.cell?_of_block (a:=⟨w.heap.size+1,0,none⟩) (Oq w2 o (w.heap.size+1) (qc hG))).trans ht;have hJ:=qd hG 0;have hM:Hid (∀j y,j<k->xs[j]?=some y->w2.cell? ⟨g,j * 2,none⟩=some (.string (qT y))):=by
       intro j y hj hy;rcases hg with⟨hv,-⟩|⟨g',cp',hv,hU⟩
       ·cases hv
       ·simp only[Value.slice.injEq,Option.some.injEq,Addr.mk.injEq]at hv
        obtain⟨⟨rfl,-,-⟩,-,-⟩:=hv;have h1:=(hU j (qT y,xr y) (by unfold qh;rw[OF,OJ hj,hy];rfl)).1
        exact(h6.cell (p:=⟨g,j * 2,none⟩) (qp h1)).trans h1
      clear hg
      go_loopw [13] (λi ws=> ∃(j:Nat),j<=k/\i=.int .i64 j/\Below w2.heap.size w2 ws/\ ∀i' y,i'<j->xs[i']?=some y->((qT y).toList==(qT x).toList)=false) (λi _=>k-(intOf i).toNat)
      case atStart=>exact⟨0,Um _,rfl,Ou _ _,λi' y h=>by omega⟩
      case round=>
       obtain⟨j,hj,rfl,h9,hE⟩:=hrel;have hC:Hid (∀i' y,i'<j->xs[i']?=some y->((qT y).toList==(qT x).toList)=false):=hE;clear hE;have hX:wr.cell? ⟨w1.heap.size,0,none⟩=_:=(h9.cell (p:=⟨w1.heap.size,0,none⟩) (qc h0)).trans hA;have H3:wr.cell? ⟨w1.heap.size,1,none⟩=_:=(h9.cell (p:=⟨w1.heap.size,1,none⟩) (qc h0)).trans hB;have hK:wr.cell? ⟨w.heap.size+1,0,none⟩=_:=(h9.cell (p:=⟨w.heap.size+1,0,none⟩) (qc hG)).trans ht;have hF:xX wr (w.heap.size+1) _:=ut hG h9;have H2:=λo=>(World.cell?_of_block (a:=⟨w.heap.size+1,0,none⟩) (Oq wr o (w.heap.size+1) (qc hF))).trans hK;have hY:=qd hF 0;by_cases hjk:j<k
       ·have hP:j<xs.length:=by have:=h7.out.1;omega
        obtain⟨y,hy⟩: ∃y,xs[j]=y:=⟨_,rfl⟩;have he:xs[j]?=some y:=by rw[OC hP,hy]
        have hs:=hM.out j y hjk he;have H6:wr.cell? ⟨g,j * 2,none⟩=_:=(h9.cell (p:=⟨g,j * 2,none⟩) (qp hs)).trans hs;cases hq:((qT y).toList==(qT x).toList)
        ·have hT:Hid (∀i' y,i'<j+1->xs[i']?=some y->((qT y).toList==(qT x).toList)=false):=by
          intro i' y' hi hf;by_cases e:i'=j
          ·subst e;rw[he]at hf;injection hf with hf;subst hf;exact hq
          ·exact hC.out i' y' (by omega) hf
         clear hs he;go_wp2
         go_region
         go_wp2;exact⟨⟨j+1,by omega,by go_num,h9.drew,hT.out⟩,by simp[intOf];omega⟩
        ·have hN:Hid (xN xs=some (k,3)):=kS HI.out.ok h7.out.1 (ad h7.out.2 HR.out hjk he hq)
         clear hs he;go_wp2
         go_region
         go_wp2;refine bodyPost_ret (v:=.tuple #[.pointer none,.int .i64 k,.int .i64 3]) (by simp[results,results70,go_sem]) rfl ⟨(HI.out.below.trans ((h6.trans (h9.mono h6.size)).mono HI.out.below.size)).drew,Or.inr ⟨HA.out,Or.inl ⟨k,3,hN.out,rfl⟩⟩⟩
       ·obtain rfl:j=k:=by omega
        obtain⟨g4,c4,w4,ha,hL,hQ,hl⟩:=HI.out.next h7.out.2 (dR h7.out.2 HR.out (λi y hi hy=>hC.out i y hi hy)) (w2:=wr.drew) (h6.trans (h9.mono h6.size)).drew (by omega)
        have hu:Hid (ROInv xs w wk qu _ (j+1) (.slice (some ⟨g4,0,none⟩) (j+1) c4)):=hl;clear hl;go_wp2
        go_region_law (refine iC rfl (.tmp 76) (.tmp 78) 121 rfl _ _ _ (by simp[Act.eval]) (by simp[Act.eval]) ha ?_)
        all_goals go_wp2
        all_goals exact⟨⟨j+1,_,by omega,by go_num,hu.out⟩,by simp[intOf];omega⟩
   ·obtain rfl:k=n:=by omega
    go_wp2;refine bodyPost_ret (v:=.tuple #[.pointer (some ⟨w.heap.size+1,0,none⟩),.int .i64 0,.int .i64 0]) (by simp[results,results70,go_sem]) rfl ⟨hI.below,Or.inr ⟨HA.out,Or.inr ⟨iA λj hj=>hI.ok j (by have:=HX.out;omega),w.heap.size+1,rv,w.heap.size,wk,rfl,Ud _,hI.gate,?_,rfl,Uc _,hI.wrk⟩⟩⟩
    have ho:=hI.own;rw[O7 (by have:=HX.out;omega)]at ho
    have e:(qh xs).length=k:=by unfold qh;rw[OM];exact HX.out
    rw[e];exact ho
theorem q9(h:w.ownsRow base e size v n xs)(hb:Below w.heap.size w w'):w'.ownsRow base e size v n xs:=
 qF h (λg hg=>hb.block g (qf h g hg).1)
theorem xM{base':Nat}(h:w.ownsRow base e size v n xs)(hb:base'<=base):w.ownsRow base' e size v n xs:=by
 obtain⟨h1,h2⟩:=h;refine⟨h1,?_⟩;rcases h2 with h|⟨g,cap,cur,rfl,a,b⟩
 ·exact Or.inl h
 ·exact Or.inr ⟨g,cap,cur,rfl,Ue hb a,b⟩
theorem qz(h:w.ownsRow base e size v n xs): ∃x c,v=.slice x n c:=by
 rcases h.2 with⟨rfl,rfl⟩|⟨g,cap,cur,rfl,-⟩
 ·exact⟨none,0,rfl⟩
 ·exact⟨_,cap,rfl⟩
