import Derived.Test.YtalmoiogbdahcaaGreatALawB
open Go.Proofs.Tryz
namespace Go.Proofs.YtalmoiogbdahcaaGreat
set_option maxRecDepth 100000
set_option maxHeartbeats 8000000
open Go.RowKit
theorem jZ: ∃i,prog.info? 9=some i/\i.zero=some (.string {data:= #[]})/\i.size=1/\i.bytes=16:=by
 obtain⟨i,hi,h0⟩:=Un.1 Tryz.infoStr;simp only[Prod.mk.injEq]at h0;exact⟨i,hi,h0.1,h0.2.1,h0.2.2⟩
variable{row:Option Nat}{w w':World}
theorem uW{o:Obj}(h:(w.alloc o).grownBy w' row):w.grownBy w' row:=
 ⟨h.os,h.tape,h.output,by have:=h.size;simp at this;omega,λk hk hne=>by rw[h.block k (by simp;omega) hne];exact Oq _ _ _ hk⟩
theorem qo{P:Program}{ops:Array Oper}{rest:List Oper}{o:Oper}{a:Act}{Q:Exit->Act->World->Prop}(hgd:o.guard=none)(s x:Operand)(t:TypeId)
  (ho:o.op=.call {callee:=.builtin .append,args:= #[s,x],argTypes:= #[t,t]}) (v u v':Value) (hs:a.eval s=v) (hx:a.eval x=u)
  (hr:(Builtin.append_ #[t,t] o.type #[v,u]).run P w=.ok v' w') (h:wpList P ops Q rest (a.put o.dst v') w'):wpList P ops Q (o::rest) a w:=
 wpList_plain hgd λ_ hK=>by
  unfold Oper.wp execOp;simp only[ho,resolve,invoke,builtin,Sem.run_bind,Sem.run_pure,Result.andThen_ok,List.map_toArray,List.map_cons,List.map_nil,hs,hx,hr];exact hK _ _ h
theorem vf(w:World)(base:Nat)(v:Value)(n:Nat)(xs:List BA)(hn:xs.length=n)(x:BA)(h1:w.ownsRow base 9 1 v n (qg xs))(hb:base<=w.heap.size)(hl:n<=1099511627776):
  ∃v' w',(Builtin.append_ #[28,28] 28 #[v,.slice (some ⟨w.heap.size,0,none⟩) 1 1]).run prog (w.alloc (.cells #[.string x] 9))=.ok v' w'/\
   w'.ownsRow base 9 1 v' (n+1) (qg (xs++[x]))/\w.grownBy w' v.ownBlock/\ ∃g c,v'=.slice (some ⟨g,0,none⟩) (n+1) c:=by
 obtain⟨i,hi,hz,hs,h6⟩:=jZ;obtain⟨v',w',hr,h2,h3,h4⟩:=run_append_own (P:=prog) (w.alloc (.cells #[.string x] 9)) base 28 28 9 i (.string {data:= #[]}) 1 16 underlying28 hi hz hs h6 rfl (by decide) v n (qg xs) (h1.alloc _) ⟨w.heap.size,0,none⟩ 1 1 [.string x] rfl
  (by
   intro j u hj
   match j,hj with
   |0,hj=>simp at hj;subst hj;simp[Addr.add])
  (by intro u hu;simp at hu;subst hu;rfl) (by unfold maxLen;omega) (by omega) (by simp;omega)
 have h5:w'.ownsRow base 9 1 v' (n+1) (qg (xs++[x])):=by
  rw[i5];exact h2
 refine⟨v',w',hr,h5,uW h3,?_⟩;rcases h2.2 with⟨hv,h0⟩|⟨g,cap,cur,hv,-⟩
 ·omega
 ·exact⟨g,cap,hv⟩
def gtB(x s:BA):Bool:= !(Op.bytesLess x.toList s.toList||x.toList==s.toList)
def neB(x s:BA):Bool:= !(x.toList==s.toList)
def qC(s:BA)(q:Bool×List BA)(x:BA):Bool×List BA:=
 ((q.1 && !gtB x s),(if q.1 && gtB x s then q.2++[s]else q.2)++(if neB x s then[x]else[]))
def yN(xs:List BA)(s:BA)(there:Bool):List BA:=
 (xs.foldl (qC s) (there,[])).2++(if(xs.foldl (qC s) (there,[])).1 then[s]else[])
theorem o8(s:BA)(xs:List BA): ∀q,(xs.foldl (qC s) q).2.length<=q.2.length+2 * xs.length:=by
 induction xs with
 |nil=>intro q;simp
 |cons x xs ih=>
  intro q;rw[List.foldl_cons];refine Ue (ih _) ?_;have:(qC s q x).2.length<=q.2.length+2:=by
   unfold qC;dsimp only;rw[OK];split<;>split<;>simp<;>omega
  simp only[OL];omega
theorem fH(v:Value)(xs:List BA)(s:BA)(there:Bool)(w:World)(h:qE w v xs)(hl:xs.length<=1000):
  Calls prog 74 #[v,.string s,.bool there] w λe w'=> ∃v',e=.returned v'/\w'.ownsRow w.heap.size 9 1 v' (yN xs s there).length (qg (yN xs s there))/\Below w.heap.size w w':=by
 rcases h with⟨rfl,rfl⟩|⟨b,off,cap,rfl,hc⟩
 ·cases there
  ·go_enter func74,ntmps74
   go_wp2;refine wp_loop_rounds 1 ?_;rw[rounds_succ];go_wp2;go_ret;exact⟨_,rfl,World.ownsRow_nil _ _ _ _,Ou _ _⟩
  ·go_enter func74,ntmps74
   go_wp2
   go_loopw [2,7,8] (λt ov i wr=> ∃(o:Value),o=ov/\i=.int .i64 0/\t=.bool true/\wr.ownsRow w.heap.size 9 1 o 0 (qg [])/\Below w.heap.size w wr) (λ_ _ _ _=>0)
   case atStart=>exact⟨_,rfl,rfl,rfl,World.ownsRow_nil _ _ _ _,Ou _ _⟩
   case round=>
    obtain⟨o,rfl,rfl,rfl,h0,hb⟩:=hrel;obtain⟨v1,w1,h4,h2,h3,-⟩:=vf wr w.heap.size o 0 [] rfl s h0 hb.size (by omega)
    have HR:Hid (w1.ownsRow w.heap.size 9 1 v1 [s].length (qg [s])/\Below w.heap.size w w1):=
     ⟨h2,hb.grown h3 hb.size (λj hj=>(h0.lt j hj).1)⟩
    clear h0 hb h2 h3
    go_wp2_with(at_builtin;refine qo rfl (.tmp 42) (.tmp 44) 28 rfl _ _ _ rfl rfl h4 ?_)
    go_ret;exact⟨_,rfl,HR.out.1,HR.out.2⟩
 ·obtain⟨n,hn⟩: ∃n,xs.length=n:=⟨_,rfl⟩
  have HX:Hid (xs.length=n):=hn;rw[hn]at hl ⊢;clear hn;go_enter func74,ntmps74;go_wp2
  go_loopw [2,7,8] (λt ov i wr=> ∃(k:Nat) (o:Value),o=ov/\k<=n/\i=.int .i64 k/\t=.bool ((xs.take k).foldl (qC s) (there,[])).1/\wr.ownsRow w.heap.size 9 1 o ((xs.take k).foldl (qC s) (there,[])).2.length (qg ((xs.take k).foldl (qC s) (there,[])).2)/\Below w.heap.size w wr) (λ_ _ i _=>n-(intOf i).toNat)
  case atStart=>exact⟨0,_,rfl,Um _,rfl,rfl,World.ownsRow_nil _ _ _ _,Ou _ _⟩
  case round=>
   obtain⟨k,o,rfl,hk,rfl,rfl,h0,hb⟩:=hrel;by_cases hlt:k<n
   ·have h8:k<xs.length:=by have:=HX.out;omega
    obtain⟨x,hx⟩: ∃x,xs[k]=x:=⟨_,rfl⟩;have h6:=hc k x (by rw[OC h8,hx])
    have h5:b<w.heap.size:=qp h6;have hf:wr.cell? ⟨b,off+k,none⟩=some (.string x):=by rw[←h6];exact hb.cell h5
    have HS:Hid ((xs.take (k+1)).foldl (qC s) (there,[])=qC s ((xs.take k).foldl (qC s) (there,[])) x):=by
     show _=_
     rw[O8 h8,List.foldl_append,hx];rfl
    have h1:Hid (((xs.take k).foldl (qC s) (there,[])).2.length<=2000):=by
     have:=o8 s (xs.take k) (there,[]);rw[OQ]at this;show _<=_
     simp at this;omega
    generalize (xs.take k).foldl (qC s) (there,[])=q at *;obtain⟨t,ys⟩:=q;dsimp only at h0 h1 ⊢;clear hc hx h6 h8;cases heq:(x.toList==s.toList)
    ·cases hbl:Op.bytesLess x.toList s.toList
     ·cases t
      ·have HQ:Hid ((xs.take (k+1)).foldl (qC s) (there,[])=(false,ys++[x])):=by show _=_;rw[HS.out];simp[qC,gtB,neB,hbl,heq]
       obtain⟨v1,w1,h4,h2,h3,-⟩:=vf wr w.heap.size o ys.length ys rfl x h0 hb.size (by have:=h1.out;omega)
       have HR:Hid (w1.ownsRow w.heap.size 9 1 v1 ((xs.take (k+1)).foldl (qC s) (there,[])).2.length (qg ((xs.take (k+1)).foldl (qC s) (there,[])).2)/\Below w.heap.size w w1):=by
        rw[HQ.out];refine⟨by rw[OK];exact h2,hb.grown h3 hb.size (λj hj=>(h0.lt j hj).1)⟩
       clear h0 hb HS h2 h3
       go_wp2_with(at_builtin;refine qo rfl (.tmp 34) (.tmp 39) 28 rfl _ _ _ rfl rfl h4 ?_)
       go_roundw
       case rel=>exact⟨k+1,_,rfl,by omega,by go_num,by rw[HQ.out],HR.out.1,HR.out.2⟩
       case measure=>simp[intOf];omega
      ·have HQ:Hid ((xs.take (k+1)).foldl (qC s) (there,[])=(false,ys++[s]++[x])):=by show _=_;rw[HS.out];simp[qC,gtB,neB,hbl,heq]
       obtain⟨v1,w1,h4,h2,h3,-⟩:=vf wr w.heap.size o ys.length ys rfl s h0 hb.size (by have:=h1.out;omega)
       have h7:=hb.grown h3 hb.size (λj hj=>(h0.lt j hj).1);obtain⟨v2,w2,hd,h9,ha,-⟩:=vf w1 w.heap.size v1 (ys.length+1) (ys++[s]) (by simp) x h2 h7.size (by have:=h1.out;omega)
       have he:w1.cell? ⟨b,off+k,none⟩=some (.string x):=by rw[←hf];exact(h7.cell h5).trans (hb.cell h5).symm
       have HR:Hid (w2.ownsRow w.heap.size 9 1 v2 ((xs.take (k+1)).foldl (qC s) (there,[])).2.length (qg ((xs.take (k+1)).foldl (qC s) (there,[])).2)/\Below w.heap.size w w2):=by
        rw[HQ.out];refine⟨by rw[OK,OK];exact h9,h7.grown ha h7.size (λj hj=>(h2.lt j hj).1)⟩
       clear h0 hb HS h2 h3 h7 h9 ha
       go_wp2_with(first|(at_builtin;refine qo rfl (.tmp 24) (.tmp 26) 28 rfl _ _ _ rfl rfl h4 ?_)|(at_builtin;refine qo rfl (.tmp 34) (.tmp 39) 28 rfl _ _ _ rfl rfl hd ?_))
       go_roundw
       case rel=>exact⟨k+1,_,rfl,by omega,by go_num,by rw[HQ.out],HR.out.1,HR.out.2⟩
       case measure=>simp[intOf];omega
     ·cases t
      ·have HQ:Hid ((xs.take (k+1)).foldl (qC s) (there,[])=(false,ys++[x])):=by show _=_;rw[HS.out];simp[qC,gtB,neB,hbl,heq]
       obtain⟨v1,w1,h4,h2,h3,-⟩:=vf wr w.heap.size o ys.length ys rfl x h0 hb.size (by have:=h1.out;omega)
       have HR:Hid (w1.ownsRow w.heap.size 9 1 v1 ((xs.take (k+1)).foldl (qC s) (there,[])).2.length (qg ((xs.take (k+1)).foldl (qC s) (there,[])).2)/\Below w.heap.size w w1):=by
        rw[HQ.out];refine⟨by rw[OK];exact h2,hb.grown h3 hb.size (λj hj=>(h0.lt j hj).1)⟩
       clear h0 hb HS h2 h3
       go_wp2_with(at_builtin;refine qo rfl (.tmp 34) (.tmp 39) 28 rfl _ _ _ rfl rfl h4 ?_)
       go_roundw
       case rel=>exact⟨k+1,_,rfl,by omega,by go_num,by rw[HQ.out],HR.out.1,HR.out.2⟩
       case measure=>simp[intOf];omega
      ·have HQ:Hid ((xs.take (k+1)).foldl (qC s) (there,[])=(true,ys++[x])):=by show _=_;rw[HS.out];simp[qC,gtB,neB,hbl,heq]
       obtain⟨v1,w1,h4,h2,h3,-⟩:=vf wr w.heap.size o ys.length ys rfl x h0 hb.size (by have:=h1.out;omega)
       have HR:Hid (w1.ownsRow w.heap.size 9 1 v1 ((xs.take (k+1)).foldl (qC s) (there,[])).2.length (qg ((xs.take (k+1)).foldl (qC s) (there,[])).2)/\Below w.heap.size w w1):=by
        rw[HQ.out];refine⟨by rw[OK];exact h2,hb.grown h3 hb.size (λj hj=>(h0.lt j hj).1)⟩
       clear h0 hb HS h2 h3
       go_wp2_with(at_builtin;refine qo rfl (.tmp 34) (.tmp 39) 28 rfl _ _ _ rfl rfl h4 ?_)
       go_roundw
       case rel=>exact⟨k+1,_,rfl,by omega,by go_num,by rw[HQ.out],HR.out.1,HR.out.2⟩
       case measure=>simp[intOf];omega
    ·cases hbl:Op.bytesLess x.toList s.toList
     all_goals
      cases t
      ·have HQ:Hid ((xs.take (k+1)).foldl (qC s) (there,[])=(false,ys)):=by show _=_;rw[HS.out];simp[qC,gtB,neB,hbl,heq]
       have HR:Hid (wr.ownsRow w.heap.size 9 1 o ((xs.take (k+1)).foldl (qC s) (there,[])).2.length (qg ((xs.take (k+1)).foldl (qC s) (there,[])).2)/\Below w.heap.size w wr):=by rw[HQ.out];exact⟨h0,hb⟩
       clear h0 hb HS;go_wp2
       go_roundw
       case rel=>exact⟨k+1,_,rfl,by omega,by go_num,by rw[HQ.out],HR.out.1,HR.out.2⟩
       case measure=>simp[intOf];omega
      ·have HQ:Hid ((xs.take (k+1)).foldl (qC s) (there,[])=(true,ys)):=by show _=_;rw[HS.out];simp[qC,gtB,neB,hbl,heq]
       have HR:Hid (wr.ownsRow w.heap.size 9 1 o ((xs.take (k+1)).foldl (qC s) (there,[])).2.length (qg ((xs.take (k+1)).foldl (qC s) (there,[])).2)/\Below w.heap.size w wr):=by rw[HQ.out];exact⟨h0,hb⟩
       clear h0 hb HS;go_wp2
       go_roundw
       case rel=>exact⟨k+1,_,rfl,by omega,by go_num,by rw[HQ.out],HR.out.1,HR.out.2⟩
       case measure=>simp[intOf];omega
   ·obtain rfl:k=n:=by omega
    have hw:yN xs s there=((xs.take k).foldl (qC s) (there,[])).2++(if((xs.take k).foldl (qC s) (there,[])).1 then[s]else[]):=by
     rw[O7 (by have:=HX.out;omega)];rfl
    have h1:Hid (((xs.take k).foldl (qC s) (there,[])).2.length<=2000):=by
     have:=o8 s (xs.take k) (there,[]);rw[OQ]at this;show _<=_
     simp at this;omega
    generalize (xs.take k).foldl (qC s) (there,[])=q at *;obtain⟨t,ys⟩:=q;dsimp only at h0 h1 hw ⊢;clear hc;cases t
    ·have HW:Hid (yN xs s there=ys):=by show _=_;rw[hw];simp
     clear hw;go_wp2;go_ret;exact⟨_,rfl,by rw[HW.out];exact h0,hb⟩
    ·have HW:Hid (yN xs s there=ys++[s]):=by show _=_;rw[hw];simp
     clear hw;obtain⟨v1,w1,h4,h2,h3,-⟩:=vf wr w.heap.size o ys.length ys rfl s h0 hb.size (by have:=h1.out;omega)
     have HR:Hid (w1.ownsRow w.heap.size 9 1 v1 (ys++[s]).length (qg (ys++[s]))/\Below w.heap.size w w1):=
      ⟨by rw[OK];exact h2,hb.grown h3 hb.size (λj hj=>(h0.lt j hj).1)⟩
     clear h0 hb h2 h3
     go_wp2_with(at_builtin;refine qo rfl (.tmp 42) (.tmp 44) 28 rfl _ _ _ rfl rfl h4 ?_)
     go_ret;exact⟨_,rfl,by rw[HW.out];exact HR.out.1,HR.out.2⟩
theorem Yu(w:World)(b off cap:Nat)(xs:List BA)(n:Nat)(hn:xs.length=n)(hc: ∀i x,xs[i]?=some x->w.cell? ⟨b,off+i,none⟩=some (.string x))(hl:n<=8796093022208):
  ∃g c w',(Builtin.append_ #[28,28] 28 #[.slice (some ⟨w.heap.size,0,none⟩) 0 0,.slice (some ⟨b,off,none⟩) n cap]).run prog (w.alloc (.cells #[] 9))=.ok (.slice (some ⟨g,0,none⟩) n c) w'/\
   w'.ownsRow w.heap.size 9 1 (.slice (some ⟨g,0,none⟩) n c) n (qg xs)/\Below w.heap.size w w':=by
 obtain⟨i,hi,hz,hs,h5⟩:=jZ;obtain⟨v',w',hr,h2,h3,h4⟩:=run_append_own (P:=prog) (w.alloc (.cells #[] 9)) w.heap.size 28 28 9 i (.string {data:= #[]}) 1 16 underlying28 hi hz hs h5 rfl (by decide) (.slice (some ⟨w.heap.size,0,none⟩) 0 0) 0 [] (World.ownsRow_made w #[] 0 (Uc _) (Um _) rfl) ⟨b,off,none⟩ n cap (qg xs) (by rw[qH,hn,Nat.mul_one])
  (by
   intro j u hj;simp only[qg,OF,Un]at hj;obtain⟨x,hx,rfl⟩:=hj;have h1:=hc j x hx;rw[show(⟨b,off,none⟩:Addr).add j=⟨b,off+j,none⟩ by unfold Addr.add;split;(rename_i h;rw[h];rfl);rfl]
   rw[←h1];exact((Ou w.heap.size w).alloc (Uc _) _).cell (p:=⟨b,off+j,none⟩) (qp h1))
  (iM _) (by unfold maxLen;omega) (by omega) (by simp)
 rw[Ul,List.nil_append]at h2;rcases h2.2 with⟨hv,h0⟩|⟨g,c,cur,hv,-⟩
 ·exfalso
  have:=(h4.1 hv).1;cases this
 ·subst hv
  refine⟨g,c,w',hr,h2,?_⟩;exact((Ou _ w).alloc (Uc _) _).grown h3 (by simp) (by intro k hk;injection hk with hk;rw[←hk];exact Uc _)
theorem dl(b off cap:Nat)(xs:List BA)(w:World)(hc: ∀i x,xs[i]?=some x->w.cell? ⟨b,off+i,none⟩=some (.string x))(hl:xs.length<=8796093022208):
  Calls prog 49 #[.slice (some ⟨b,off,none⟩) xs.length cap] w λe w'=> ∃g c,e=.returned (.slice (some ⟨g,0,none⟩) xs.length c)/\w'.ownsRow w.heap.size 9 1 (.slice (some ⟨g,0,none⟩) xs.length c) xs.length (qg xs)/\Below w.heap.size w w':=by
 obtain⟨g,c,w',hr,ho,hb⟩:=Yu w b off cap xs xs.length rfl hc hl;have hq:=fun(w:World) (a:Option Addr) (n c n' c':Nat)=>Lib.run_eql_slice_nil (P:=prog) w 28 9 a n c n' c' underlying28;have HO:Hid (w'.ownsRow w.heap.size 9 1 (.slice (some ⟨g,0,none⟩) xs.length c) xs.length (qg xs)/\Below w.heap.size w w'):=⟨ho,hb⟩;clear ho hb hc;go_enter func49,ntmps49
 go_wp2_with(at_builtin;refine qo rfl (.tmp 5) (.tmp 6) 28 rfl _ _ _ rfl rfl hr ?_)
 go_ret;exact⟨g,c,rfl,HO.out.1,HO.out.2⟩
theorem dm(w:World):Calls prog 49 #[.slice none 0 0] w λe w'=>e=.returned (.slice none 0 0)/\w'=w:=by
 have hq:=fun(w:World) (a:Option Addr) (n c n' c':Nat)=>Lib.run_eql_slice_nil (P:=prog) w 28 9 a n c n' c' underlying28;go_enter func49,ntmps49;go_wp2;go_ret;exact⟨rfl,rfl⟩
theorem Yv(s:BA)(w:World):Calls prog 194 #[.string s] w λe w'=>e=.returned (.bool false)/\w'=w:=by
 go_enter func194,ntmps194;go_wp2;go_ret;exact⟨zo (by simp),rfl⟩
theorem J1(s t:BA)(w:World):Calls prog 154 #[.string s,.string t] w λe w'=>e=.returned (.bool (Op.bytesLess s.toList t.toList))/\w'=w:=by
 go_enter func154,ntmps154
 go_wp2_with(go_at_call 194;refine(Yv _ _).mono ?_;rintro e w' ⟨rfl,rfl⟩)
 go_ret;exact⟨rfl,rfl⟩
def ltB(s t:BA):Bool:=Op.bytesLess s.toList t.toList
def vT(xs:List BA)(t:BA)(i:Nat):Prop:=i<=xs.length/\(∀k x,k<i->xs[k]?=some x->ltB x t=true)/\ ∀k x,i<=k->xs[k]?=some x->ltB x t=false
def G0(xs:List BA)(t:BA):Prop:= ∀(i j:Nat) (x y:BA),i<=j->xs[i]?=some x->xs[j]?=some y->ltB y t=true->ltB x t=true
theorem ZZ(s:BA)(w:World):Calls prog 155 #[.string s] w λe w'=>e=.returned (.bool false)/\w'=w:=by
 go_enter func155,ntmps155;go_wp2;go_ret;exact⟨zo (by simp),rfl⟩
theorem Z3(b off cap:Nat)(xs:List BA)(t:BA)(w:World)(hc: ∀i x,xs[i]?=some x->w.cell? ⟨b,off+i,none⟩=some (.string x))(hl:xs.length<=1000)(h4:G0 xs t):
  Calls prog 100 #[.slice (some ⟨b,off,none⟩) xs.length cap,.string t] w λe w'=>(∃i:Nat,e=.returned (.tuple #[.int .i64 i,.bool (decide (xs[i]?=some t))])/\vT xs t i)/\w'=w:=by
 obtain⟨n,hn⟩: ∃n,xs.length=n:=⟨_,rfl⟩;have HX:Hid (xs.length=n):=hn;rw[hn]at hl ⊢;clear hn;go_enter func100,ntmps100;go_wp2
 go_loop [7,8] (λa z=> ∃i j:Nat,a=.int .i64 i/\z=.int .i64 j/\i<=j/\j<=n/\(∀k x,k<i->xs[k]?=some x->ltB x t=true)/\ ∀k x,j<=k->xs[k]?=some x->ltB x t=false) (λa z=>(intOf z-intOf a).toNat)
 case atStart=>exact⟨0,n,rfl,rfl,Um _,Uc _,λk x hk=>absurd hk (Uj _),λk x hk hx=>by rw[OD (by have:=HX.out;omega)]at hx;cases hx⟩
 case round=>
  obtain⟨i,j,rfl,rfl,h8,h9,h6,h5⟩:=hrel;have HL:Hid (∀k x,k<i->xs[k]?=some x->ltB x t=true):=h6;have HH:Hid (∀k x,j<=k->xs[k]?=some x->ltB x t=false):=h5;clear h6 h5;by_cases hlt:i<j
  ·have h1:(i+j)/2<xs.length:=by have:=HX.out;omega
   obtain⟨x,hx⟩: ∃x,xs[(i+j)/2]?=some x:=⟨_,OC h1⟩;have h7:=hc _ x hx;have h2:=λw=>J1 x t w;have h0:Hid (xs[(i+j)/2]?=some x):=hx;clear hx h1 hc;cases hb:ltB x t
   ·have h3:Op.bytesLess x.toList t.toList=false:=hb
    rw[h3]at h2
    go_wp2_with(go_at_call 154;refine(h2 _).mono ?_;rintro e w' ⟨rfl,rfl⟩)
    go_round
    case rel=>
     refine⟨i,(i+j)/2,rfl,by go_num,by omega,by omega,HL.out,?_⟩
     intro k y hk hy;cases e:ltB y t
     ·rfl
     ·have:=h4 _ _ _ _ hk h0.out hy e
      rw[hb]at this;cases this
    case measure=>simp[intOf];omega
   ·have h3:Op.bytesLess x.toList t.toList=true:=hb
    rw[h3]at h2
    go_wp2_with(go_at_call 154;refine(h2 _).mono ?_;rintro e w' ⟨rfl,rfl⟩)
    go_round
    case rel=>
     refine⟨(i+j)/2+1,j,by go_num,rfl,by omega,by omega,?_,HH.out⟩
     intro k y hk hy;exact h4 _ _ _ _ (by omega) hy h0.out hb
    case measure=>simp[intOf];omega
  ·obtain rfl:i=j:=by omega
   have HP:Hid (vT xs t i):=⟨by have:=HX.out;omega,HL.out,HH.out⟩
   by_cases hin:i<n
   ·obtain⟨x,hx⟩: ∃x,xs[i]?=some x:=⟨_,OC (by have:=HX.out;omega)⟩
    have h7:=hc _ x hx;have h0:Hid (xs[i]?=some x):=hx;clear hx hc;cases hq:(x.toList==t.toList)
    ·have HD:Hid (decide (xs[i]?=some t)=false):=by
      show _=_
      rw[h0.out,decide_eq_false_iff_not];intro e;injection e with e;subst e;simp at hq
     go_wp2_with(go_at_call 155;refine(ZZ _ _).mono ?_;rintro e w' ⟨rfl,rfl⟩)
     go_ret2
     exact⟨⟨i,by rw[HD.out];rfl,HP.out⟩,rfl⟩
    ·have HD:Hid (decide (xs[i]?=some t)=true):=by
      show _=_
      rw[h0.out,decide_eq_true_eq];rw[jn,decide_eq_true_eq]at hq;rw[hq]
     go_wp2
     go_ret2
     exact⟨⟨i,by rw[HD.out];rfl,HP.out⟩,rfl⟩
   ·have HD:Hid (decide (xs[i]?=some t)=false):=by
     show _=_
     rw[OD (by have:=HX.out;omega)];rfl
    clear hc;go_wp2
    go_ret2
    exact⟨⟨i,by rw[HD.out];rfl,HP.out⟩,rfl⟩
def xK(w:World)(g:Nat)(cur:List Value):Prop:=w.heap[g]?=some (.cells cur.toArray 9 (0,0))
def uf(w:World)(v:Value)(m:BA):Prop:=
 v=.slice none 0 0\/ ∃g n cap cur,v=.slice (some ⟨g,0,none⟩) n cap/\xK w g cur/\n<=cur.length/\n<=maxLen/\ ∀i,i<n->cur[i]?=some (.string m)
def MPB(m:BA)(w w':World):Prop:=
 ∀g cur,xK w g cur-> ∃cur',xK w' g cur'/\cur'.length=cur.length/\ ∀i:Nat,cur[i]?=some (.string m)->cur'[i]?=some (.string m)
variable{m:BA}
theorem MPB.trans{a b c:World}(h:MPB m a b)(k:MPB m b c):MPB m a c:=by
 intro g cur hg;obtain⟨c1,h1,l1,p1⟩:=h g cur hg;obtain⟨c2,h2,l2,p2⟩:=k g c1 h1;exact⟨c2,h2,l2.trans l1,λi hi=>p2 i (p1 i hi)⟩
theorem MPB.of_same(h: ∀g cur,xK w g cur->w'.heap[g]?=w.heap[g]?):MPB m w w':=
 λg cur hg=>⟨cur,by unfold xK;rw[h g cur hg];exact hg,rfl,λ_ h=>h⟩
theorem MPB.below(h:Below w.heap.size w w'):MPB m w w':=MPB.of_same λg _ hg=>h.block g (qc hg)
variable{v:Value}
theorem uf.step(h:uf w v m)(k:MPB m w w'):uf w' v m:=by
 rcases h with h|⟨g,n,cap,cur,hv,hg,hn,hm,hi⟩
 ·exact Or.inl h
 ·obtain⟨c1,h1,l1,p1⟩:=k g cur hg
  exact Or.inr ⟨g,n,cap,c1,hv,h1,by omega,hm,λi hl=>p1 i (hi i hl)⟩
theorem uf.at(h:uf w v m):pk w v m:=by
 rcases h with h|⟨g,n,cap,cur,hv,hg,hn,hm,hi⟩
 ·exact⟨[],Or.inl ⟨h,rfl⟩,Um _,rfl⟩
 ·refine⟨List.replicate n m,Or.inr ⟨g,0,cap,by rw[ON];exact hv,?_⟩,by rw[ON];exact hm,?_⟩
  ·intro i x hx
   rw[OG]at hx;split at hx
   ·rename_i hl
    injection hx with hx;subst hx;rw[Ul];exact qa hg (hi i hl)
   ·cases hx
  ·simp[jB]
theorem o9(b k:Nat):(⟨b,0,none⟩:Addr).add k=⟨b,k,none⟩:=by
 unfold Addr.add;split
 ·rename_i h;rw[h]
 ·simp
theorem J2(w:World)(g n cap:Nat)(cur:List Value)(m:BA)(j:Nat)(hj:1<=j)(hg:xK w g cur)(hc:cur.length=cap)(hn:n<=cap)(h8:n+j<=1099511627776)(hf: ∀i,i<n->cur[i]?=some (.string m)):
  ∃gx nx cx w',(Builtin.append_ #[28,28] 28 #[.slice (some ⟨g,0,none⟩) n cap,.slice (some ⟨w.heap.size,0,none⟩) j j]).run prog (w.alloc (.cells (qg (List.replicate j m)).toArray 9))=.ok (.slice (some ⟨gx,0,none⟩) nx cx) w'/\
   uf w' (.slice (some ⟨gx,0,none⟩) nx cx) m/\MPB m w w'/\w.grownBy w' (some g):=by
 obtain⟨i,hi,hz,hs,hb⟩:=jZ;have h9:g<w.heap.size:=qc hg;have h7:xK (w.alloc (.cells (qg (List.replicate j m)).toArray 9)) g cur:=by
  unfold xK;rw[Oq _ _ _ h9];exact hg
 have h2: ∀k u,(qg (List.replicate j m))[k]?=some u->(w.alloc (.cells (qg (List.replicate j m)).toArray 9)).cell? ((⟨w.heap.size,0,none⟩:Addr).add k)=some u:=by
  intro k u hu;rw[o9];refine qa (cs:=qg (List.replicate j m)) (t:=9) (fz:=(0,0)) ?_ hu;show(w.heap.push _)[w.heap.size]?=_
  simp
 by_cases hroom:n+j<=cap
 ·have hr:=run_append_room (P:=prog) (w.alloc (.cells (qg (List.replicate j m)).toArray 9)) 28 28 9 i underlying28 hi g n cap cur.toArray h7 ⟨w.heap.size,0,none⟩ j j (qg (List.replicate j m)) (by rw[hs,qH,ON,Nat.mul_one]) h2 (iM _) hroom (by rw[hs,qH,ON];simp;omega)
  have h3:=setRow_heap _ g cur.toArray ((cur.take n++qg (List.replicate j m)++cur.drop (n+j))).toArray 9 (0,0) h7;have h0: ∀k,k<n+j->(cur.take n++qg (List.replicate j m)++cur.drop (n+j))[k]?=some (.string m):=by
   intro k hk;rw[Ov];by_cases h1:k<n
   ·rw[Oz (by rw[OQ];omega),OJ h1]
    exact hf k h1
   ·rw[OA (by rw[OQ];omega),OQ,Nat.min_eq_left (by omega),Oz (by rw[qH,ON];omega)]
    simp only[qg,List.map_replicate,OG];rw[if_pos (by omega)]
  have h4:(cur.take n++qg (List.replicate j m)++cur.drop (n+j)).length=cap:=by
   rw[OK,OK,OQ,List.length_drop,qH,ON];omega
  rw[hs,Nat.mul_one,qH,ON]at hr;refine⟨_,_,_,_,hr,?_,?_,?_⟩
  ·exact Or.inr ⟨g,n+j,cap,_,rfl,h3,by rw[h4];exact hroom,by unfold maxLen;omega,h0⟩
  ·intro g' cur' h6
   by_cases e:g'=g
   ·subst e
    have:cur'=cur:=by
     have h1:some (Obj.cells cur'.toArray 9 (0,0))=some (Obj.cells cur.toArray 9 (0,0)):=h6.symm.trans hg
     simpa using h1
    subst this;refine⟨_,h3,by rw[h4,hc],λk hk=>?_⟩
    by_cases h1:k<n+j
    ·exact h0 k h1
    ·rw[Ov,OA (by rw[OQ];omega),OQ,Nat.min_eq_left (by omega),OA (by rw[qH,ON];omega),qH,ON,OB]
     rw[show n+j+(k-n-j)=k by omega];exact hk
   ·exact⟨cur',by unfold xK;rw[setRow_other _ _ _ _ e,Oq _ _ _ (qc h6)];exact h6,rfl,λ_ h=>h⟩
  ·refine⟨rfl,rfl,rfl,?_,λk hk ha=>?_⟩
   ·show w.heap.size<=((w.alloc _).setRow g _).heap.size
    simp[World.setRow]
   ·show((w.alloc _).setRow g _).heap[k]?=_
    rw[setRow_other _ _ _ _ (λe=>ha (by rw[e])),Oq _ _ _ hk]
 ·have h5: ∀k u,(cur.take n)[k]?=some u->(w.alloc (.cells (qg (List.replicate j m)).toArray 9)).cell? ((⟨g,0,none⟩:Addr).add k)=some u:=by
   intro k u hu;rw[o9];have hk:k<n:=by
    rcases Uh k n with h|h
    ·exact h
    ·rw[OD (by rw[OQ];omega)]at hu;cases hu
   rw[OJ hk]at hu;exact qa h7 hu
  have hr:=run_append_grow (P:=prog) (w.alloc (.cells (qg (List.replicate j m)).toArray 9)) 28 28 9 i (.string {data:= #[]}) underlying28 hi hz ⟨g,0,none⟩ n cap (cur.take n) (by rw[hs,OQ];omega) h5 ⟨w.heap.size,0,none⟩ j j (qg (List.replicate j m)) (by rw[hs,qH,ON,Nat.mul_one]) h2 (by omega) (by omega) (growslice_fits (by omega) (by rw[hb];omega))
  refine⟨_,_,_,_,hr,?_,?_,?_⟩
  ·refine Or.inr ⟨w.heap.size+1,n+j,grownCap (w.alloc (.cells (qg (List.replicate j m)).toArray 9)) (n+j) cap 9,cur.take n++qg (List.replicate j m)++(Builtin.zeroCells (Value.string {data:= #[]}).cells (grownCap (w.alloc (.cells (qg (List.replicate j m)).toArray 9)) (n+j) cap 9-(n+j))).toList,by simp,?_,?_,by unfold maxLen;omega,?_⟩
   ·unfold xK
    show((w.heap.push _).push _)[w.heap.size+1]?=_
    rw[show w.heap.size+1=(w.heap.push (Obj.cells (qg (List.replicate j m)).toArray 9)).size by simp,Array.getElem?_push_size]
    simp
   ·rw[OK,OK,OQ,qH,ON];omega
   ·intro k hk
    rw[Ov];by_cases h1:k<n
    ·rw[Oz (by rw[OQ];omega),OJ h1]
     exact hf k h1
    ·rw[OA (by rw[OQ];omega),OQ,Nat.min_eq_left (by omega),Oz (by rw[qH,ON];omega)]
     simp only[qg,List.map_replicate,OG];rw[if_pos (by omega)]
  ·exact MPB.below ((((Ou _ _).alloc (Uc _) _).drew).alloc (by simp) _)
  ·exact⟨rfl,rfl,rfl,by simp;omega,λk hk _=>by
    have h:=((((Ou w.heap.size w).alloc (Uc _) (.cells (qg (List.replicate j m)).toArray 9)).drew).alloc (by simp) (.cells ((cur.take n).toArray++(qg (List.replicate j m)).toArray++Builtin.zeroCells (Value.string {data:= #[]}).cells (grownCap (w.alloc (.cells (qg (List.replicate j m)).toArray 9)) (n+j) cap 9-(n+j))) 9)).block k hk
    exact h⟩
def uN(w:World)(l:Value)(m:BA):Prop:=
 (l=.slice none 0 0\/ ∃b off,l=.slice (some ⟨b,off,none⟩) 0 0)\/ ∃g n cap cur,l=.slice (some ⟨g,0,none⟩) n cap/\xK w g cur/\cur.length=cap/\n<=cap/\n<=549755813888/\ ∀i,i<n->cur[i]?=some (.string m)
variable{l:Value}
theorem uN.step(h:uN w l m)(k:MPB m w w'):uN w' l m:=by
 rcases h with h|⟨g,n,cap,cur,hv,hg,hc,hn,hm,hi⟩
 ·exact Or.inl h
 ·obtain⟨c1,h1,l1,p1⟩:=k g cur hg
  exact Or.inr ⟨g,n,cap,c1,hv,h1,by omega,hn,hm,λi hl=>p1 i (hi i hl)⟩
theorem uN.full(h:uN w l m):pk w l m:=by
 rcases h with(rfl|⟨b,off,rfl⟩)|⟨g,n,cap,cur,rfl,hg,hc,hn,hm,hi⟩
 ·exact⟨[],Or.inl ⟨rfl,rfl⟩,Um _,rfl⟩
 ·exact⟨[],Or.inr ⟨b,off,0,rfl,λi x hx=>by simp at hx⟩,Um _,rfl⟩
 ·exact uf.at (Or.inr ⟨g,n,cap,cur,rfl,hg,by omega,by unfold maxLen;omega,hi⟩)
theorem mO(w:World)(a0:Option Addr)(m:BA)(j:Nat)(hj:1<=j)(h4:j<=3):
  ∃gx nx cx w',(Builtin.append_ #[28,28] 28 #[.slice a0 0 0,.slice (some ⟨w.heap.size,0,none⟩) j j]).run prog (w.alloc (.cells (qg (List.replicate j m)).toArray 9))=.ok (.slice (some ⟨gx,0,none⟩) nx cx) w'/\
   uf w' (.slice (some ⟨gx,0,none⟩) nx cx) m/\Below w.heap.size w w':=by
 obtain⟨i,hi,hz,hs,h3⟩:=jZ;have h0: ∀k u,(qg (List.replicate j m))[k]?=some u->(w.alloc (.cells (qg (List.replicate j m)).toArray 9)).cell? ((⟨w.heap.size,0,none⟩:Addr).add k)=some u:=by
  intro k u hu;rw[o9];refine qa (cs:=qg (List.replicate j m)) (t:=9) (fz:=(0,0)) ?_ hu;show(w.heap.push _)[w.heap.size]?=_
  simp
 have h1: ∀(cap:Nat) (c:Nat),uf ((w.alloc (.cells (qg (List.replicate j m)).toArray 9)).drew.alloc (.cells ((qg (List.replicate j m)).toArray++Builtin.zeroCells (Value.string {data:= #[]}).cells c) 9)) (.slice (some ⟨w.heap.size+1,0,none⟩) j cap) m:=by
  intro cap c;refine Or.inr ⟨w.heap.size+1,j,cap,qg (List.replicate j m)++(Builtin.zeroCells (Value.string {data:= #[]}).cells c).toList,rfl,?_,?_,by unfold maxLen;omega,?_⟩
  ·unfold xK
   show((w.heap.push _).push _)[w.heap.size+1]?=_
   rw[show w.heap.size+1=(w.heap.push (Obj.cells (qg (List.replicate j m)).toArray 9)).size by simp,Array.getElem?_push_size]
   simp
  ·rw[OK,qH,ON];omega
  ·intro k hk
   rw[Oz (by rw[qH,ON];omega)]
   simp only[qg,List.map_replicate,OG];rw[if_pos hk]
 have h2: ∀o,Below w.heap.size w ((w.alloc (.cells (qg (List.replicate j m)).toArray 9)).drew.alloc o):=λo=>(((Ou _ _).alloc (Uc _) _).drew).alloc (by simp) _
 cases a0 with
 |none=>
  have hr:=run_append_nil (P:=prog) (w.alloc (.cells (qg (List.replicate j m)).toArray 9)) 28 28 9 i (.string {data:= #[]}) underlying28 hi hz ⟨w.heap.size,0,none⟩ j j (qg (List.replicate j m)) (by rw[hs,qH,ON,Nat.mul_one]) h0 (by omega) (by omega) (by rw[h3];omega)
  refine⟨_,_,_,_,hr,?_,h2 _⟩;rw[show(w.alloc (.cells (qg (List.replicate j m)).toArray 9)).heap.size=w.heap.size+1 by simp]
  exact h1 _ _
 |some a=>
  have hr:=run_append_grow (P:=prog) (w.alloc (.cells (qg (List.replicate j m)).toArray 9)) 28 28 9 i (.string {data:= #[]}) underlying28 hi hz a 0 0 [] (by simp) (by intro k u hu;simp at hu) ⟨w.heap.size,0,none⟩ j j (qg (List.replicate j m)) (by rw[hs,qH,ON,Nat.mul_one]) h0 (by omega) (by omega) (growslice_fits (by omega) (by rw[h3];omega))
  simp only[Ul,Array.empty_append]at hr;refine⟨_,_,_,_,hr,?_,h2 _⟩;rw[show(w.alloc (.cells (qg (List.replicate j m)).toArray 9)).heap.size=w.heap.size+1 by simp]
  exact h1 _ _
def yo:Value->Option Nat
 | .slice (some a) n cap=>if n=0/\cap=0 then none else some a.block
 |_=>none
theorem Oe(w:World)(l:Value)(m:BA)(j:Nat)(hj:1<=j)(h0:j<=3)(h:uN w l m):
  ∃gx nx cx w',(Builtin.append_ #[28,28] 28 #[l,.slice (some ⟨w.heap.size,0,none⟩) j j]).run prog (w.alloc (.cells (qg (List.replicate j m)).toArray 9))=.ok (.slice (some ⟨gx,0,none⟩) nx cx) w'/\
   uf w' (.slice (some ⟨gx,0,none⟩) nx cx) m/\MPB m w w'/\w.grownBy w' (yo l):=by
 rcases h with(rfl|⟨b,off,rfl⟩)|⟨g,n,cap,cur,rfl,hg,hc,hn,hm,hi⟩
 ·obtain⟨gx,nx,cx,w',hr,hf,hb⟩:=mO w none m j hj h0
  exact⟨gx,nx,cx,w',hr,hf,MPB.below hb,⟨hb.os,hb.tape,hb.output,hb.size,λk hk _=>hb.block k hk⟩⟩
 ·obtain⟨gx,nx,cx,w',hr,hf,hb⟩:=mO w (some ⟨b,off,none⟩) m j hj h0
  exact⟨gx,nx,cx,w',hr,hf,MPB.below hb,⟨hb.os,hb.tape,hb.output,hb.size,λk hk _=>hb.block k hk⟩⟩
 ·obtain⟨gx,nx,cx,w',hr,hf,hp,hk⟩:=J2 w g n cap cur m j hj hg hc hn (by omega) hi
  refine⟨gx,nx,cx,w',hr,hf,hp,?_⟩;by_cases hz:n=0/\cap=0
  ·obtain⟨rfl,rfl⟩:=hz
   obtain⟨gy,ny,cy,w2,h1,-,hb⟩:=mO w (some ⟨g,0,none⟩) m j hj h0;rw[hr]at h1;injection h1 with e1 e2;subst e2;exact⟨hb.os,hb.tape,hb.output,hb.size,λk hk _=>hb.block k hk⟩
  ·have e:yo (.slice (some ⟨g,0,none⟩) n cap)=some g:=by
    show(if n=0/\cap=0 then none else some g)=some g
    rw[if_neg hz]
   rw[e];exact hk
theorem Tryz.infoSl:(prog.info? 28).map (λi=>(i.zero,i.size,i.bytes))=some (some (.slice none 0 0),1,24):=by kernel_rfl
theorem Gh: ∃i,prog.info? 28=some i/\i.zero=some (.slice none 0 0)/\i.size=1/\i.bytes=24:=by
 obtain⟨i,hi,h0⟩:=Un.1 Tryz.infoSl;simp only[Prod.mk.injEq]at h0;exact⟨i,hi,h0.1,h0.2.1,h0.2.2⟩
theorem QL(w:World)(base:Nat)(v:Value)(n:Nat)(us:List Value)(u:Value)(hu:u.oneCell'=true)(h7:w.ownsRow base 28 1 v n us)(hb:base<=w.heap.size)(hl:(n+1) * 24<=140737488355328):
  ∃g c w',(Builtin.append_ #[59,59] 59 #[v,.slice (some ⟨w.heap.size,0,none⟩) 1 1]).run prog (w.alloc (.cells #[u] 28))=.ok (.slice (some ⟨g,0,none⟩) (n+1) c) w'/\
   w'.ownsRow base 28 1 (.slice (some ⟨g,0,none⟩) (n+1) c) (n+1) (us++[u])/\w.grownBy w' v.ownBlock/\(v.ownBlock=some g\/w.heap.size<=g):=by
 obtain⟨i,hi,hz,hs,h9⟩:=Gh;have h1: ∀j x,([u]:List Value)[j]?=some x->(w.alloc (.cells #[u] 28)).cell? ((⟨w.heap.size,0,none⟩:Addr).add j)=some x:=by
  intro j x hj
  match j,hj with
  |0,hj=>simp at hj;subst hj;simp[Addr.add]
 have h8: ∀x∈([u]:List Value),x.oneCell'=true:=by intro x hx;simp at hx;subst hx;exact hu
 obtain⟨v',w',hr,h2,h3,h4⟩:=run_append_own (P:=prog) (w.alloc (.cells #[u] 28)) base 59 59 28 i (.slice none 0 0) 1 24 underlying59 hi hz hs h9 rfl (by decide) v n us (h7.alloc _) ⟨w.heap.size,0,none⟩ 1 1 [u] rfl h1 h8 (by unfold maxLen;omega) (by omega) (by simp;omega)
 rcases h2.2 with⟨hv,h0⟩|⟨g,cap,cur,hv,-⟩
 ·omega
 subst hv;refine⟨g,cap,w',hr,h2,uW h3,?_⟩;have h6:=h7.alloc (.cells #[u] 28);rcases h6.2 with⟨rfl,rfl⟩|⟨g0,cap0,cur0,rfl,hd,hc,he,hf,hg,ha⟩
 ·have h5:=run_append_nil (P:=prog) (w.alloc (.cells #[u] 28)) 59 59 28 i (.slice none 0 0) underlying59 hi hz ⟨w.heap.size,0,none⟩ 1 1 [u] (by rw[hs];rfl) h1 (by omega) (by omega) (by rw[h9];omega)
  rw[hr]at h5;injection h5 with e1 e2;injection e1 with e3;injection e3 with e4;injection e4 with e5
  right;rw[e5];simp
 ·by_cases hroom:n+1<=cap0
  ·have h5:=run_append_room (P:=prog) (w.alloc (.cells #[u] 28)) 59 59 28 i underlying59 hi g0 n cap0 cur0 hc ⟨w.heap.size,0,none⟩ 1 1 [u] (by rw[hs];rfl) h1 h8 hroom (by rw[hs];simp;omega)
   rw[hr]at h5;injection h5 with e1 e2;injection e1 with e3;injection e3 with e4;injection e4 with e5
   left;rw[e5];rfl
  ·have h5:=run_append_grow (P:=prog) (w.alloc (.cells #[u] 28)) 59 59 28 i (.slice none 0 0) underlying59 hi hz ⟨g0,0,none⟩ n cap0 us (by rw[hs];exact h7.1) (h6.cells (g:=g0) rfl) ⟨w.heap.size,0,none⟩ 1 1 [u] (by rw[hs];rfl) h1 (by omega) (by omega) (growslice_fits (by omega) (by rw[h9];omega))
   rw[hr]at h5;injection h5 with e1 e2;injection e1 with e3;injection e3 with e4;injection e4 with e5
   right;rw[e5];simp
theorem aa(h:uf w v m):v.oneCell'=true:=by
 rcases h with rfl|⟨g,n,cap,cur,rfl,-⟩<;>rfl
theorem Yw(h:uN w v m):v.oneCell'=true:=by
 rcases h with(rfl|⟨b,off,rfl⟩)|⟨g,n,cap,cur,rfl,-⟩<;>rfl
variable{k:Nat}
theorem dp(h:uN w l m)(hk:yo l=some k): ∃cur,xK w k cur:=by
 rcases h with(rfl|⟨b,off,rfl⟩)|⟨g,n,cap,cur,rfl,hg,-⟩
 ·cases hk
 ·have:yo (.slice (some ⟨b,off,none⟩) 0 0)=none:=rfl
  rw[this]at hk;cases hk
 ·have e:yo (.slice (some ⟨g,0,none⟩) n cap)=none\/yo (.slice (some ⟨g,0,none⟩) n cap)=some g:=by
   show(if n=0/\cap=0 then none else some g)=none\/(if n=0/\cap=0 then none else some g)=some g
   split
   ·exact Or.inl rfl
   ·exact Or.inr rfl
  rcases e with e|e
  ·rw[e]at hk;cases hk
  ·rw[e]at hk;injection hk with hk;subst hk;exact⟨cur,hg⟩
variable{g:Nat}
theorem iQ{a b:List Value}{s t:TypeId}{f f':Nat×Nat}(h:w.heap[g]?=some (.cells a.toArray s f))(k:w.heap[g]?=some (.cells b.toArray t f')):s=t:=by
 rw[h]at k;injection k with k;injection k
variable{b:Nat}{l1 l3 ps:Value}
theorem aM(h:ue w b ps l1 l3)(hk:w.grownBy w' row)(h0:row≠some b):ue w' b ps l1 l3:=by
 unfold ue at h ⊢;rw[hk.block b (qc h) (Ne.symm h0)];exact h
variable{base n:Nat}{us:List Value}
theorem ig(h:w.ownsRow base 28 1 v n us)(hk:w.grownBy w' row)(h0: ∀k,v.ownBlock=some k->row≠some k):w'.ownsRow base 28 1 v n us:=by
 refine h.kept hk ?_;cases e:v.ownBlock with
 |none=>exact Or.inl rfl
 |some k=>exact Or.inr (λe2=>h0 k e e2.symm)
theorem dq(h:w.ownsRow base 28 1 v n us)(hk:v.ownBlock=some k): ∃cur:List Value,w.heap[k]?=some (.cells cur.toArray 28 (0,0)):=by
 rcases h.2 with⟨rfl,-⟩|⟨g,cap,cur,rfl,-,hh,-⟩
 ·cases hk
 ·have e:g=k:=by injection hk
  subst e;exact⟨cur.toList,by simpa using hh⟩
theorem fI(hk:w.grownBy w' row)(hne: ∀g cur,xK w g cur->row≠some g):MPB m w w':=
 MPB.of_same λg cur hg=>hk.block g (qc hg) (Ne.symm (hne g cur hg))
theorem fJ(h:ue w b ps l1 l3)(j:Nat)(u:Value):MPB m w (w.setCell ⟨b,j,none⟩ u):=
 MPB.of_same λg cur hg=>Ot _ _ _ _ (λe=>by
  have e':g=b:=e;subst e';have:=iQ hg h;revert this;decide)
theorem Gi(h:ue w b ps l1 l3)(u:Value):ue (w.setCell ⟨b,1,none⟩ u) b ps u l3:=qL h 1 u
theorem Gj(h:ue w b ps l1 l3)(u:Value):ue (w.setCell ⟨b,2,none⟩ u) b ps l1 u:=qL h 2 u
theorem gL(h:w.ownsRow base 28 1 v n us)(hb:b<base)(j:Nat)(u:Value):(w.setCell ⟨b,j,none⟩ u).ownsRow base 28 1 v n us:=ownsRow_setCell_below h hb u
structure St(w:World)(b base:Nat)(ps l1 l3 l:Value)(n1 n3:Nat)(us ws:List Value)(m:BA):Prop where
 lw:ue w b ps l1 l3
 o1:w.ownsRow base 28 1 l1 n1 us
 o3:w.ownsRow base 28 1 l3 n3 ws
 lf:uN w l m
 sep: ∀k,l1.ownBlock=some k->l3.ownBlock≠some k
 hb:b<base
 hbase:base<=w.heap.size
theorem QM(h:uN w l m)(o:w.ownsRow base 28 1 v n us): ∀k,v.ownBlock=some k->yo l≠some k:=by
 intro k hk e;obtain⟨cur,hc⟩:=dp h e;obtain⟨c2,hd⟩:=dq o hk;have:=iQ hc hd;revert this;decide
theorem J3(h:uN w l m)(o:ue w b ps l1 l3):yo l≠some b:=by
 intro e;obtain⟨cur,hc⟩:=dp h e;have:=iQ hc o;revert this;decide
variable{n1 n3:Nat}{ws:List Value}
theorem stA(s:St w b base ps l1 l3 l n1 n3 us ws m)(j:Nat)(hj:1<=j)(h0:j<=3):
  ∃gx nx cx w',(Builtin.append_ #[28,28] 28 #[l,.slice (some ⟨w.heap.size,0,none⟩) j j]).run prog (w.alloc (.cells (qg (List.replicate j m)).toArray 9))=.ok (.slice (some ⟨gx,0,none⟩) nx cx) w'/\
   uf w' (.slice (some ⟨gx,0,none⟩) nx cx) m/\MPB m w w'/\St w' b base ps l1 l3 l n1 n3 us ws m/\w.grownBy w' (yo l):=by
 obtain⟨gx,nx,cx,w',hr,hf,hp,hk⟩:=Oe w l m j hj h0 s.lf;exact⟨gx,nx,cx,w',hr,hf,hp,⟨aM s.lw hk (J3 s.lf s.lw),ig s.o1 hk (QM s.lf s.o1),ig s.o3 hk (QM s.lf s.o3),s.lf.step hp,s.sep,s.hb,Ue s.hbase hk.size⟩,hk⟩
theorem fK(o:w.ownsRow base 28 1 v n us)(hb:b<base):v.ownBlock≠some b:=by
 intro e;have:=(o.lt b e).1;omega
theorem QN(o:w.ownsRow base 28 1 v n us): ∀g cur,xK w g cur->v.ownBlock≠some g:=by
 intro g cur hg e;obtain⟨c2,hd⟩:=dq o e;have:=iQ hg hd;revert this;decide
theorem stB(s:St w b base ps l1 l3 l n1 n3 us ws m)(u:Value)(hu:u.oneCell'=true)(hl:(n1+1) * 24<=140737488355328):
  ∃g c w',(Builtin.append_ #[59,59] 59 #[l1,.slice (some ⟨w.heap.size,0,none⟩) 1 1]).run prog (w.alloc (.cells #[u] 28))=.ok (.slice (some ⟨g,0,none⟩) (n1+1) c) w'/\
   ue w' b ps l1 l3/\MPB m w (w'.setCell ⟨b,1,none⟩ (.slice (some ⟨g,0,none⟩) (n1+1) c))/\St (w'.setCell ⟨b,1,none⟩ (.slice (some ⟨g,0,none⟩) (n1+1) c)) b base ps (.slice (some ⟨g,0,none⟩) (n1+1) c) l3 l (n1+1) n3 (us++[u]) ws m/\w.grownBy w' l1.ownBlock/\(l1.ownBlock=some g\/w.heap.size<=g):=by
 obtain⟨g,c,w',hr,ho,hk,h0⟩:=QL w base l1 n1 us u hu s.o1 s.hbase hl;have h2:=aM s.lw hk (fK s.o1 s.hb);have h3:MPB m w (w'.setCell ⟨b,1,none⟩ (.slice (some ⟨g,0,none⟩) (n1+1) c)):=(fI hk (QN s.o1)).trans (fJ h2 1 _);refine⟨g,c,w',hr,h2,h3,⟨Gi h2 _,gL ho s.hb _ _,gL (ig s.o3 hk (λk h1 e=>s.sep k e h1)) s.hb _ _,s.lf.step h3,?_,s.hb,?_⟩,hk,h0⟩
 ·intro k h4 h1
  have e:g=k:=by injection h4
  subst e;rcases h0 with h|h
  ·exact s.sep g h h1
  ·have:=(s.o3.lt g h1).2;omega
 ·have:=hk.size;have:=s.hbase;simp[World.setCell];omega
theorem stC(s:St w b base ps l1 l3 l n1 n3 us ws m)(u:Value)(hu:u.oneCell'=true)(hl:(n3+1) * 24<=140737488355328):
  ∃g c w',(Builtin.append_ #[59,59] 59 #[l3,.slice (some ⟨w.heap.size,0,none⟩) 1 1]).run prog (w.alloc (.cells #[u] 28))=.ok (.slice (some ⟨g,0,none⟩) (n3+1) c) w'/\
   ue w' b ps l1 l3/\MPB m w (w'.setCell ⟨b,2,none⟩ (.slice (some ⟨g,0,none⟩) (n3+1) c))/\St (w'.setCell ⟨b,2,none⟩ (.slice (some ⟨g,0,none⟩) (n3+1) c)) b base ps l1 (.slice (some ⟨g,0,none⟩) (n3+1) c) l n1 (n3+1) us (ws++[u]) m/\w.grownBy w' l3.ownBlock/\(l3.ownBlock=some g\/w.heap.size<=g):=by
 obtain⟨g,c,w',hr,ho,hk,h0⟩:=QL w base l3 n3 ws u hu s.o3 s.hbase hl;have h2:=aM s.lw hk (fK s.o3 s.hb);have h3:MPB m w (w'.setCell ⟨b,2,none⟩ (.slice (some ⟨g,0,none⟩) (n3+1) c)):=(fI hk (QN s.o3)).trans (fJ h2 2 _);refine⟨g,c,w',hr,h2,h3,⟨Gj h2 _,gL (ig s.o1 hk (λk h1 e=>s.sep k h1 e)) s.hb _ _,gL ho s.hb _ _,s.lf.step h3,?_,s.hb,?_⟩,hk,h0⟩
 ·intro k h1 h4
  have e:g=k:=by injection h4
  subst e;rcases h0 with h|h
  ·exact s.sep g h1 h
  ·have:=(s.o1.lt g h1).2;omega
 ·have:=hk.size;have:=s.hbase;simp[World.setCell];omega
theorem kq(w:World)(b j:Nat)(u:Value)(k:Nat)(h:k≠b):(w.setCell ⟨b,j,none⟩ u).heap[k]?=w.heap[k]?:=Ot _ _ _ _ h
theorem iR(w:World)(a:Addr)(u:Value):(w.setCell a u).heap.size=w.heap.size:=by simp[World.setCell]
theorem bd3(n:Nat)(h:(n+3) * 24<=140737488355328):(n+1) * 24<=140737488355328/\(n+1+1) * 24<=140737488355328/\(n+1+1+1) * 24<=140737488355328:=
 ⟨Ue (Nat.mul_le_mul_right 24 (Nat.add_le_add_left (by decide) n)) h,Ue (Nat.mul_le_mul_right 24 (show n+2<=n+3 from Nat.add_le_add_left (by decide) n)) h,h⟩
theorem Gk{cur:List Value}(h:xK w g cur)(hk:k<cur.length): ∃u,w.cell? ⟨g,k,none⟩=some u/\w.frozen? ⟨g,k,none⟩=false:=
 ⟨cur[k],qa h (OC hk),qd h k⟩
def yE(xs:List BA)(s:BA):Int:=match xs.findIdx? (λx=>x.toList==s.toList)with|some i=>i|none=> -1
theorem ii(v:Value)(xs:List BA)(s:BA)(w:World)(h:qE w v xs)(hl:xs.length<=maxLen):
  Calls prog 170 #[v,.string s] w λe w'=>e=.returned (.int .i64 (yE xs s))/\w'=w:=by
 unfold maxLen at hl;rcases h with⟨rfl,rfl⟩|⟨b,off,cap,rfl,hc⟩
 ·go_enter func170,ntmps170
  go_wp2;refine wp_loop_rounds 1 ?_;rw[rounds_succ];go_wp2;go_ret;exact⟨rfl,rfl⟩
 ·have HX:Hid (∀k:Nat,(∀(j:Nat) (y:BA),j<k->xs[j]?=some y->(y.toList==s.toList)=false)-> ∀x,xs[k]?=some x->(x.toList==s.toList)=true->yE xs s=k):=by
   intro k h0 x hx hq;have hk:=(OE.1 hx).1;have h3:=(OE.1 hx).2;unfold yE;rw[(List.findIdx?_eq_some_iff_getElem (p:=λx=>x.toList==s.toList)).2 ⟨hk,by rw[h3];exact hq,λj hj=>by rw[h0 j xs[j] hj (OC (by omega))];simp⟩]
  have HN:Hid ((∀(j:Nat) (y:BA),j<xs.length->xs[j]?=some y->(y.toList==s.toList)=false)->yE xs s= -1):=by
   intro h0;unfold yE;rw[List.findIdx?_eq_none_iff.2 λx hx=>by
    obtain⟨j,hj⟩:=OX.1 hx;exact h0 j x (OE.1 hj).1 hj]
  go_enter func170,ntmps170;go_wp2
  go_loop [5] (λi=> ∃k:Nat,k<=xs.length/\i=.int .i64 k/\ ∀(j:Nat) (y:BA),j<k->xs[j]?=some y->(y.toList==s.toList)=false) (λi=>xs.length-(intOf i).toNat)
  case atStart=>exact⟨0,Um _,rfl,λj y hj=>absurd hj (Uj j)⟩
  case round=>
   obtain⟨k,hk,rfl,hh⟩:=hrel;have HH:Hid (∀(j:Nat) (y:BA),j<k->xs[j]?=some y->(y.toList==s.toList)=false):=hh;clear hh;by_cases h2:k<xs.length
   ·obtain⟨x,hx⟩: ∃x,xs[k]?=some x:=⟨_,OC h2⟩
    have h4:=hc k x hx;clear hc;by_cases hq:(x.toList==s.toList)=true
    ·go_wp2
     go_ret;exact⟨zX (HX.out k HH.out x hx hq).symm,rfl⟩
    ·have hq:(x.toList==s.toList)=false:=by simpa using hq
     have h1:Hid (∀(j:Nat) (y:BA),j<k+1->xs[j]?=some y->(y.toList==s.toList)=false):=by
      intro j y hj hy;rcases Uh j k with h|h
      ·exact HH.out j y h hy
      ·obtain rfl:j=k:=by omega
       rw[hx]at hy;injection hy with hy;subst hy;exact hq
     clear hx;go_wp2
     go_round
     case rel=>exact⟨k+1,by omega,by go_num,h1.out⟩
     case measure=>simp[intOf];omega
   ·obtain rfl:k=xs.length:=by omega
    clear hc;go_wp2;go_ret;exact⟨zX (HN.out HH.out).symm,rfl⟩
