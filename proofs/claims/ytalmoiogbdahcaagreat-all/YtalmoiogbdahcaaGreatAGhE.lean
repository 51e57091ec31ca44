import Derived.Test.YtalmoiogbdahcaaGreatAGramC
import Derived.Test.YtalmoiogbdahcaaGreatALibC
import Derived.Test.YtalmoiogbdahcaaGreatARefI
import Derived.Test.YtalmoiogbdahcaaGreatALibF
open Go.Proofs.Tryz
namespace Go.Proofs.YtalmoiogbdahcaaGreat
set_option maxRecDepth 100000
set_option maxHeartbeats 8000000
open Go.RowKit
variable{base:Nat}{w:World}{ys:List BA}
theorem Zx{g cap:Nat}(h:w.ownsRow base 9 1 (.slice (some ⟨g,0,none⟩) ys.length cap) ys.length (qg ys)): ∀i x,ys[i]?=some x->w.cell? ⟨g,0+i,none⟩=some (.string x):=by
 rcases yi h with⟨hv,-⟩|⟨b,off,cap',hv,hc⟩
 ·cases hv
 ·simp only[Value.slice.injEq,Option.some.injEq,Addr.mk.injEq]at hv
  obtain⟨⟨rfl,rfl,-⟩,-,-⟩:=hv;exact hc
variable{i:Nat}{t:BA}{xs:List BA}
theorem XQ{j:Nat}(h:vT xs t i)(g:vT xs t j):i=j:=by
 have key: ∀{i j:Nat},vT xs t i->vT xs t j-> ¬i<j:=by
  intro i j h g h0;have h3:i<xs.length:=by have:=g.1;omega
  have hx:xs[i]?=some xs[i]:=OC h3;have h1:=h.2.2 i _ (Uc _) hx;have h2:=g.2.1 i _ h0 hx;rw[h1]at h2;cases h2
 have:=key h g;have:=key g h;omega
variable{o:Value}
theorem Zy(h:w.ownsRow base 9 1 o ys.length (qg ys))(hs:zy ys)(hl:ys.length<=1000)(hp:vT ys t i):
  Calls prog 100 #[o,.string t] w λe w'=>e=.returned (.tuple #[.int .i64 i,.bool (decide (ys[i]?=some t))])/\w'=w:=by
 rcases h.2 with⟨rfl,h0⟩|⟨g,cap,cur,rfl,-⟩
 ·have h1:ys=[]:=Oy h0
  subst h1;have hi:i=0:=by have:=hp.1;simpa using this
  subst hi;refine(ZN t w).mono ?_;rintro e w' ⟨rfl,hw⟩;exact⟨by simp,hw⟩
 ·refine(Z3 g 0 cap ys t w (Zx h) hl (mh hs t)).mono ?_
  rintro e w' ⟨⟨j,rfl,hj⟩,hw⟩;rw[XQ hj hp];exact⟨rfl,hw⟩
structure CInv(w:World)(now xs:List BA)(wr:World)(k:Nat)(o:Value)(ys:List BA):Prop where
 own:wr.ownsRow w.heap.size 9 1 o ys.length (qg ys)
 sorted:zy ys
 is:ys=(xs.take k).foldl yH now
 len:ys.length<=50+k
 below:Below w.heap.size w wr
theorem CInv.step{now:List BA}{wr:World}{k:Nat}(h:CInv w now xs wr k o ys){x:BA}(hx:xs[k]?=some x)(hp:vT ys (x.extract 1 x.size) i){wr':World}{o':Value}{zs:List BA}
  (hz:zs=yH ys x) (h0:wr'.ownsRow w.heap.size 9 1 o' zs.length (qg zs)) (hb:Below w.heap.size w wr'):CInv w now xs wr' (k+1) o' zs:=by
 refine⟨h0,?_,?_,?_,hb⟩
 ·rw[hz];exact dM h.sorted hp _
 ·obtain⟨hk,he⟩:=OE.1 hx
  rw[O8 hk,he,List.foldl_append,←h.is,hz];rfl
 ·have:=ab ys (x.extract 1 x.size) (decide (qR x 0=43))
  have h2:=h.len;rw[hz];unfold yH;omega
theorem wz(tv:Value)(now xs:List BA)(bb off cap:Nat)(w:World)(h7:qE w tv now)(hs:zy now)(hQ:now.length<=50)
  (hr: ∀i x,xs[i]?=some x->w.cell? ⟨bb,off+i,none⟩=some (.string x)) (hN:xs.length<=20) (hv: ∀x∈xs,x.size<=140737488355328) (h2: ∀x∈xs,x.size≠0/\(qR x 0=43\/qR x 0=45)):
  Calls prog 54 #[tv,.slice (some ⟨bb,off,none⟩) xs.length cap] w λe w'=> ∃v,e=.returned v/\w'.ownsRow w.heap.size 9 1 v (xs.foldl yH now).length (qg (xs.foldl yH now))/\Below w.heap.size w w':=by
 have hi:Calls prog 49 #[tv] w λe w'=> ∃v,e=.returned v/\CInv w now xs w' 0 v now:=by
  rcases h7 with⟨rfl,rfl⟩|⟨b0,o0,c0,rfl,h6⟩
  ·refine(dm w).mono ?_
   rintro e w' ⟨rfl,rfl⟩;exact⟨_,rfl,World.ownsRow_nil _ _ _ _,hs,rfl,by omega,Ou _ _⟩
  ·refine(dl b0 o0 c0 now w h6 (by omega)).mono ?_
   rintro e w' ⟨g,c,rfl,ho,hb⟩;exact⟨_,rfl,ho,hs,rfl,by omega,hb⟩
 clear h7 hs;obtain⟨n,hn⟩: ∃n,xs.length=n:=⟨_,rfl⟩;have HX:Hid (xs.length=n):=hn;rw[hn]at hN ⊢;clear hn;go_enter func54,ntmps54
 go_wp2_with(go_at_call 49;refine hi.mono ?_;clear hi;rintro e w1 ⟨v1,rfl,hq⟩)
 go_loopw [5,16] (λo i wr=> ∃(k:Nat) (ys:List BA) (o':Value),o'=o/\k<=n/\i=.int .i64 k/\CInv w now xs wr k o' ys) (λ_ i _=>n-(intOf i).toNat)
 case atStart=>exact⟨0,now,_,rfl,Um _,rfl,hq⟩
 case round=>
  obtain⟨k,ys,o,rfl,hk,rfl,hI⟩:=hrel;clear hq;have HI:Hid (CInv w now xs wr k o ys):=hI;clear hI;by_cases hlt:k<n
  ·have hg:k<xs.length:=by have:=HX.out;omega
   obtain⟨x,hx⟩: ∃x,xs[k]=x:=⟨_,rfl⟩;have ha:xs[k]?=some x:=by rw[OC hg,hx]
   have h6:=hr k x ha;have hS:wr.cell? ⟨bb,off+k,none⟩=some (.string x):=by rw[←h6];exact HI.out.below.cell (qp h6)
   have h8:x∈xs:=OZ ha;have hP:1<=x.size:=by have:=(h2 x h8).1;omega
   have hB:x.size<=140737488355328:=hv x h8;have ht:Hid (qR x 0=43\/qR x 0=45):=(h2 x h8).2;have h9:Hid (xs[k]?=some x):=ha;have hK:Hid ((x.extract 1 x.size).size<=140737488355328):=by show _<=_;simp;omega
   have he:Hid (ys.length<=70):=by have:=HI.out.len;show _<=_;omega
   clear hx ha h6 h8 hg hr hv h2;have h3: ∀w,(Instr.index 9 (.string x) (.int .i64 0)).run prog w=.ok (.int .u8 (qR x 0)) w:=by
    intro w;rw[run_index_string w _ x _ _ underlying9,dif_pos (by omega),uk x 0 (by omega)];rfl
   have HD:Hid (yH ys x=yN ys (x.extract 1 x.size) (decide (qR x 0=43))):=rfl;have hJ:Hid (∀w1,Calls prog 102 #[.string (x.extract 1 x.size)] w1 λe w'=>e=.returned (.string (x.extract 1 x.size))/\Below w1.heap.size w1 w'):=λw1=>jU _ w1 hK.out;obtain⟨i,hp⟩:=gC HI.out.sorted (x.extract 1 x.size);have HP:Hid (vT ys (x.extract 1 x.size) i):=hp;have h5:Hid (∀w1,Below wr.heap.size wr w1->Calls prog 100 #[o,.string (x.extract 1 x.size)] w1 λe w'=>e=.returned (.tuple #[.int .i64 i,.bool (decide (ys[i]?=some (x.extract 1 x.size)))])/\w'=w1):=λw1 hb=>Zy (q9 HI.out.own hb) HI.out.sorted (by have:=he.out;omega) HP.out
   have hR:i<=70:=by have:=hp.1;have:=he.out;omega
   have hd:=gz HI.out.sorted hp (decide (qR x 0=43));rw[←HD.out]at hd;have h1:Hid (yH ys x=_):=hd;clear hd hp HD;by_cases hth:ys[i]?=some (x.extract 1 x.size)
   ·rw[Up hth]at h5
    rw[if_pos hth]at h1;rcases ht.out with hc|hc
    ·rw[hc]at h3 h1
     go_wp2
     go_region
     go_wp2_with(go_at_call 100;refine(h5.out _ bl).mono ?_;rintro e w2 ⟨rfl,hf⟩;subst w2)
     go_roundw
     case rel=>exact⟨k+1,ys,o,rfl,by omega,by go_num,HI.out.step h9.out HP.out (by rw[h1.out];simp) (q9 HI.out.own bl) (HI.out.below.drew)⟩
     case measure=>simp[intOf];omega
    ·rw[hc]at h3 h1
     have hm:i<ys.length:=(OE.1 hth).1;rcases HI.out.own.2 with⟨rfl,h0⟩|⟨g,cp,cur,rfl,-,-,-,-,-,-⟩
     ·omega
     ·have hF:Hid (∀w1,Below wr.heap.size wr w1->Calls prog 103 #[.slice (some ⟨g,0,none⟩) ys.length cp,.int .i64 i,.int .i64 ((i:Int)+1)] w1 λe w'=>e=.returned (.slice (some ⟨g,0,none⟩) (ys.length-1) cp)/\w'.ownsRow w.heap.size 9 1 (.slice (some ⟨g,0,none⟩) (ys.length-1) cp) (ys.length-1) (qg (jW ys i))/\w1.grownBy w' (some g)):=λw1 hb=>ZM w1 w.heap.size g cp ys i hm (q9 HI.out.own hb)
      have hM:Hid (w.heap.size<=g):=(qf HI.out.own g rfl).2.1;have hz:Hid ((jW ys i).length=ys.length-1):=by show _=_;unfold jW;simp;omega
      clear hm hth;go_wp2
      go_region
      go_wp2_with(first|(go_at_call 100;refine(h5.out _ bl).mono ?_;rintro e w2 ⟨rfl,hf⟩;subst w2)|(go_at_call 103;refine(hF.out _ bl).mono ?_;rintro e w3 ⟨rfl,hu,hL⟩;have hG:Hid (w3.ownsRow w.heap.size 9 1 (.slice (some ⟨g,0,none⟩) (ys.length-1) cp) (ys.length-1) (qg (jW ys i))):=hu;clear hu))
      go_roundw
      case rel=>exact⟨k+1,jW ys i,_,rfl,by omega,by go_num,HI.out.step h9.out HP.out (by rw[h1.out];simp) (by rw[hz.out];exact hG.out) (HI.out.below.drew.grown hL HI.out.below.size (λj hj=>by injection hj with hj;rw[←hj];exact hM.out))⟩
      case measure=>simp[intOf];omega
   ·rw[Uo hth]at h5
    rw[if_neg hth]at h1;rcases ht.out with hc|hc
    ·rw[hc]at h3 h1
     have hD:Hid (∀w1 vb,Below wr.heap.size wr w1->wr.heap.size<=vb->w1.heap[vb]?=some (.cells [Value.string (x.extract 1 x.size)].toArray 9 (0,0))->Calls prog 101 #[o,.int .i64 i,.slice (some ⟨vb,0,none⟩) 1 1] w1 (KC w.heap.size o ys i (x.extract 1 x.size) w1)):=λw1 vb hb hO hc=>ZK w1 w.heap.size o ys i HP.out.1 _ vb (q9 HI.out.own hb) (by have:=he.out;omega) (Ue HI.out.below.size hb.size) hc (λe=>by have:=(qf HI.out.own vb e).1;omega)
     have hC:Hid (∀j,o.ownBlock=some j->w.heap.size<=j):=λj hj=>(qf HI.out.own j hj).2.1;clear hth;go_wp2
     go_region
     go_wp2_with(first|(go_at_call 100;refine(h5.out _ bl).mono ?_;rintro e w2 ⟨rfl,hf⟩;subst w2)|(go_at_call 102;refine(hJ.out _).mono ?_;rintro e w3 ⟨rfl,hy⟩;have h4:Below wr.heap.size wr w3:=Below.trans bl (hy.mono (by simp)))|(go_at_call 101;refine(hD.out _ w3.heap.size (h4.alloc h4.size _) h4.size (qn w3 [Value.string (x.extract 1 x.size)] _)).mono ?_;rintro e w4 ⟨g4,c4,rfl,hl,hE⟩;have hA:Hid (w4.ownsRow w.heap.size 9 1 (.slice (some ⟨g4,0,none⟩) (ys.length+1) c4) (ys.length+1) (qg (jV ys i (x.extract 1 x.size)))):=hl;clear hl))
     go_roundw
     case rel=>exact⟨k+1,jV ys i (x.extract 1 x.size),_,rfl,by omega,by go_num,HI.out.step h9.out HP.out (by rw[h1.out];simp) (by rw[iO];exact hA.out) (((HI.out.below.trans (h4.mono HI.out.below.size)).alloc (Ue HI.out.below.size h4.size) _).grown hE (by simp;exact Nat.le_succ_of_le (Ue HI.out.below.size h4.size)) hC.out)⟩
     case measure=>simp[intOf];omega
    ·rw[hc]at h3 h1
     clear hth;go_wp2
     go_region
     go_wp2_with(go_at_call 100;refine(h5.out _ bl).mono ?_;rintro e w2 ⟨rfl,hf⟩;subst w2)
     go_roundw
     case rel=>exact⟨k+1,ys,o,rfl,by omega,by go_num,HI.out.step h9.out HP.out (by rw[h1.out];simp) (q9 HI.out.own bl) (HI.out.below.drew)⟩
     case measure=>simp[intOf];omega
  ·obtain rfl:k=n:=by omega
   go_wp2;go_ret;have e:xs.foldl yH now=ys:=by
    have:=HI.out.is;rw[O7 (by have:=HX.out;omega)]at this
    exact this.symm
   rw[e];exact⟨_,rfl,HI.out.own,HI.out.below⟩
def xv(node:BA)(ys:List BA)(x:BA):List BA:=if(qX x 64).toList==node.toList then ys++[qS x 64]else ys
def zq(xs:List BA)(node:BA):List BA:=xs.foldl (xv node) []
theorem vV(node:BA): ∀(xs ys:List BA),(xs.foldl (xv node) ys).length<=ys.length+xs.length:=by
 intro xs
 induction xs with
 |nil=>intro ys;simp
 |cons x xs ih=>
  intro ys;have:=ih (xv node ys x);have h2:(xv node ys x).length<=ys.length+1:=by unfold xv;split<;>simp
  simp only[List.foldl_cons,OL];omega
theorem ci(v:Value)(xs:List BA)(node:BA)(w:World)(h:qE w v xs)(hl:xs.length<=1000)(h7: ∀x∈xs,x.size<=maxLen):
  Calls prog 220 #[v,.string node] w λe w'=> ∃v',e=.returned v'/\w'.ownsRow w.heap.size 9 1 v' (zq xs node).length (qg (zq xs node))/\Below w.heap.size w w':=by
 rcases h with⟨rfl,rfl⟩|⟨b,off,cap,rfl,hc⟩
 ·go_enter func220,ntmps220
  go_wp2;refine wp_loop_rounds 1 ?_;rw[rounds_succ];go_wp2;go_ret;exact⟨_,rfl,World.ownsRow_nil _ _ _ _,Ou _ _⟩
 ·obtain⟨n,hn⟩: ∃n,xs.length=n:=⟨_,rfl⟩
  have HX:Hid (xs.length=n):=hn;have hf:Hid (∀x∈xs,x.size<=maxLen):=h7;rw[hn]at hl ⊢;clear hn h7;go_enter func220,ntmps220;go_wp2
  go_loopw [5,6] (λov i wr=> ∃(k:Nat) (o:Value),o=ov/\k<=n/\i=.int .i64 k/\wr.ownsRow w.heap.size 9 1 o ((xs.take k).foldl (xv node) []).length (qg ((xs.take k).foldl (xv node) []))/\Below w.heap.size w wr) (λ_ i _=>n-(intOf i).toNat)
  case atStart=>exact⟨0,_,rfl,Um _,rfl,World.ownsRow_nil _ _ _ _,Ou _ _⟩
  case round=>
   obtain⟨k,o,rfl,hk,rfl,h0,hb⟩:=hrel;by_cases hlt:k<n
   ·have h4:k<xs.length:=by have:=HX.out;omega
    obtain⟨x,hx⟩: ∃x,xs[k]=x:=⟨_,rfl⟩;have h1:=hc k x (by rw[OC h4,hx])
    have hm:wr.cell? ⟨b,off+k,none⟩=some (.string x):=by rw[←h1];exact hb.cell (qp h1)
    have HS:Hid ((xs.take (k+1)).foldl (xv node) []=xv node ((xs.take k).foldl (xv node) []) x):=by
     show _=_
     rw[O8 h4,List.foldl_append,hx];rfl
    have h5:Hid (((xs.take k).foldl (xv node) []).length<=2000):=by
     have:=vV node (xs.take k) [];rw[OQ]at this;show _<=_
     simp at this;omega
    have hd:x.size<=maxLen:=hf.out x (by rw[←hx];exact List.getElem_mem h4)
    obtain⟨A,Z,O,hA,hZ,hO,-,-,h6⟩:=yZ x 64 hd;have h8:Hid (∀w,Calls prog 117 #[.string x,.int .u8 64] w λe w'=>e=.returned (.tuple #[.string A,.string Z,.bool O])/\ ∃n,w'=w.drewN n):=h6;clear h6 hc hx h1 h4;generalize (xs.take k).foldl (xv node) []=ys at *;cases heq:(A.toList==node.toList)
    ·have HQ:Hid ((xs.take (k+1)).foldl (xv node) []=ys):=by show _=_;rw[HS.out];unfold xv;rw[hA,heq];rfl
     go_wp2_with(go_at_call 117;refine(h8.out _).mono ?_;rintro e w1 ⟨rfl,nq,rfl⟩)
     go_roundw
     case rel=>exact⟨k+1,o,rfl,by omega,by go_num,by rw[HQ.out];exact q9 h0 (qN ⟨nq,rfl⟩),hb.trans (qN ⟨nq,rfl⟩|>.mono hb.size)⟩
     case measure=>simp[intOf];omega
    ·have HQ:Hid ((xs.take (k+1)).foldl (xv node) []=ys++[Z]):=by show _=_;rw[HS.out];unfold xv;rw[hA,heq,hZ];rfl
     have he:Hid (∀nq,∃v1 w1,(Builtin.append_ #[28,28] 28 #[o,.slice (some ⟨wr.heap.size,0,none⟩) 1 1]).run prog ((wr.drewN nq).alloc (.cells #[.string Z] 9))=.ok v1 w1/\w1.ownsRow w.heap.size 9 1 v1 (ys++[Z]).length (qg (ys++[Z]))/\Below w.heap.size w w1):=by
      intro nq;have h2:Below w.heap.size w (wr.drewN nq):=hb.trans ((qN ⟨nq,rfl⟩).mono hb.size);have h3:=q9 h0 (qN ⟨nq,rfl⟩);obtain⟨v1,w1,ha,hg,hi,-⟩:=vf (wr.drewN nq) w.heap.size o ys.length ys rfl Z h3 h2.size (by have:=h5.out;omega)
      exact⟨v1,w1,ha,by rw[OK];exact hg,h2.grown hi h2.size (λj hj=>(h3.lt j hj).1)⟩
     clear h0 hb HS
     go_wp2_with(first|(go_at_call 117;refine(h8.out _).mono ?_;rintro e w1 ⟨rfl,nq,rfl⟩;obtain⟨v2,w2,h9,h3,h2⟩:=he.out nq;have HR:Hid (w2.ownsRow w.heap.size 9 1 v2 (ys++[Z]).length (qg (ys++[Z]))/\Below w.heap.size w w2):=⟨h3,h2⟩;clear h3 h2)|(at_builtin;refine qo rfl (.tmp 28) (.tmp 30) 28 rfl _ _ _ rfl rfl h9 ?_))
     go_roundw
     case rel=>exact⟨k+1,v2,rfl,by omega,by go_num,by rw[HQ.out];exact HR.out.1,HR.out.2⟩
     case measure=>simp[intOf];omega
   ·obtain rfl:k=n:=by omega
    have HE:Hid ((xs.take k).foldl (xv node) []=zq xs node):=by show _=_;unfold zq;rw[O7 (by rw[HX.out];exact Uc _)]
    rw[HE.out]at h0;have HR:Hid (wr.ownsRow w.heap.size 9 1 o (zq xs node).length (qg (zq xs node))/\Below w.heap.size w wr):=⟨h0,hb⟩;clear h0 hb hc;go_wp2;go_ret;exact⟨_,rfl,HR.out.1,HR.out.2⟩
def yU(a b:BA):BA:=a++{data:= #[35]}++b
def xy(ys:List BA)(x:BA):List BA:=if xt x then ys++[x]else ys
def xT(B:BA)(ys:List BA)(x:BA):List BA:=if zj x then ys++[yU x B]else ys
def qW(ts:List BA)(node:BA):Nat->BA->List BA
 |f,way=>
  if(qe way).is=116 then(zq ts node).foldl xy []
  else if(qe way).is=114 then[yU (qX node 35) (qe way).A]
  else if(qe way).is=97 then(zq ts (yU (qX node 35) (qe way).A)).foldl (xT (qe way).B) []
  else match f with
   |0=>[]
   |f+1=>qW ts node f (qe way).A++qW ts node f (qe way).B
theorem rE(s:BA)(c:Int):(qX s c).size<=s.size:=by
 unfold qX;split<;>simp<;>omega
def vR(w:World)(l:List BA)(e:Ending)(w':World):Prop:= ∃v,e=.returned v/\w'.ownsRow w.heap.size 9 1 v l.length (qg l)/\Below w.heap.size w w'
theorem sJ(gb:Nat)(tv:Value)(ts:List BA)(node way:BA)(f:Nat)(w:World)(hs:way.size<=1000)(hn:node.size<=140737488355328)(ht:qE w tv ts)(hr:(qe way).is=114)(hA:(qe way).A.size<=1000):
  Calls prog 201 #[.pointer (some ⟨gb,0,none⟩),tv,.string node,.string way] w (vR w (qW ts node f way)):=by
 have HE:Hid (qW ts node f way=[yU (qX node 35) (qe way).A]):=by
  show _=_
  cases f<;>rw[qW,if_neg (by omega),if_pos hr]
 have h5:way.size<=maxLen:=by unfold maxLen;omega
 have h7:node.size<=maxLen:=by unfold maxLen;omega
 have ha:=λw=>vg way.size way w h5 (Uc _)
 change (∀w,Calls prog 199 #[.string way] w λe w'=>e=.returned (qe way).val/\Below w.heap.size w w')at ha
 have hb:(qX node 35).size<=140737488355328:=Ue (rE node 35) hn;obtain⟨A0,Z0,O0,e1,e2,e3,h1,h2,h6⟩:=yZ node 35 h7;have hc: ∃x n c,tv=.slice x n c:=by
  rcases ht with⟨rfl,-⟩|⟨b,off,cap,rfl,-⟩
  ·exact⟨_,_,_,rfl⟩
  ·exact⟨_,_,_,rfl⟩
 obtain⟨tx,tn,tc,rfl⟩:=hc;rw[e1]at HE hb;unfold Pt.val at ha;rw[hr]at ha;generalize (qe way).A=A at *;generalize (qe way).B=B at *;have he:Hid (∀w,Calls prog 117 #[.string node,.int .u8 35] w λe w'=>e=.returned (.tuple #[.string A0,.string Z0,.bool O0])/\ ∃n,w'=w.drewN n):=h6;have HA:Hid (∀w,Calls prog 199 #[.string way] w λe w'=>e=.returned (.agg #[.int .u8 114,.string A,.string B])/\Below w.heap.size w w'):=ha;have hd:Hid (∀w2,Below w.heap.size w w2-> ∃v4 w4,(Builtin.append_ #[28,28] 28 #[.slice none 0 0,.slice (some ⟨w2.heap.size+1,0,none⟩) 1 1]).run prog ((w2.alloc (.cells #[.int .u8 114,.string A,.string B] 234)).alloc (.cells #[.string (A0++{data:= #[35]}++A)] 9))=.ok v4 w4/\Hid (w4.ownsRow w.heap.size 9 1 v4 (qW ts node f way).length (qg (qW ts node f way))/\Below w.heap.size w w4)):=by
  intro w2 h3;have h4:Below w.heap.size w (w2.alloc (.cells #[.int .u8 114,.string A,.string B] 234)):=h3.alloc h3.size _;obtain⟨v4,w4,h0,h9,h8,-⟩:=vf (w2.alloc (.cells #[.int .u8 114,.string A,.string B] 234)) w.heap.size (.slice none 0 0) 0 [] rfl (A0++{data:= #[35]}++A) (World.ownsRow_nil _ _ _ _) h4.size (by omega)
  rw[World.size_alloc]at h0;refine⟨v4,w4,h0,?_,h4.grown h8 h4.size (λj hj=>by cases hj)⟩
  rw[HE.out];exact h9
 clear ht h6 ha e1 e2 e3 hr h5 h7;go_enter func201,ntmps201
 go_wp2_with(first|(go_at_call 117;refine(he.out _).mono ?_;rintro e w1 ⟨rfl,nq,rfl⟩)|(go_at_call 199;refine(HA.out _).mono ?_;rintro e w2 ⟨rfl,h3⟩;obtain⟨v4,w4,h0,HR⟩:=hd.out w2 (Below.trans (qN ⟨nq,rfl⟩) (h3.mono (qN ⟨nq,rfl⟩).size)))|(at_builtin;refine qo rfl (.tmp 76) (.tmp 82) 28 rfl _ _ _ rfl rfl h0 ?_))
 go_ret;exact⟨_,rfl,HR.out.1,HR.out.2⟩
theorem j8(g:List BA->BA->List BA)(hg: ∀ys x,(g ys x).length<=ys.length+1): ∀(xs ys:List BA),(xs.foldl g ys).length<=ys.length+xs.length:=by
 intro xs
 induction xs with
 |nil=>intro ys;simp
 |cons x xs ih=>
  intro ys;have:=ih (g ys x);have:=hg ys x;simp only[List.foldl_cons,OL];omega
theorem cj(ys:List BA)(x:BA):(xy ys x).length<=ys.length+1:=by unfold xy;split<;>simp
theorem dG(B:BA)(ys:List BA)(x:BA):(xT B ys x).length<=ys.length+1:=by unfold xT;split<;>simp
theorem pT(node:BA): ∀(xs ys:List BA) (y:BA),y∈xs.foldl (xv node) ys->y∈ys\/ ∃x∈xs,y=qS x 64:=by
 intro xs
 induction xs with
 |nil=>intro ys y h;exact Or.inl h
 |cons x xs ih=>
  intro ys y h;rcases ih _ y h with h|⟨z,hz,e⟩
  ·unfold xv at h
   split at h
   ·rcases OS.1 h with h|h
    ·exact Or.inl h
    ·simp at h;exact Or.inr ⟨x,OV,h⟩
   ·exact Or.inl h
  ·exact Or.inr ⟨z,OU _ hz,e⟩
theorem g8(gb:Nat)(tv:Value)(ts:List BA)(node way:BA)(f:Nat)(w:World)(hs:way.size<=1000)(hn:node.size<=140737488355328)(ht:qE w tv ts)(hl:ts.length<=50)(he: ∀x∈ts,x.size<=maxLen)(hr:(qe way).is=116):
  Calls prog 201 #[.pointer (some ⟨gb,0,none⟩),tv,.string node,.string way] w (vR w (qW ts node f way)):=by
 have HE:Hid (qW ts node f way=(zq ts node).foldl xy []):=by
  show _=_
  cases f<;>rw[qW,if_pos hr]
 have hi:way.size<=maxLen:=by unfold maxLen;omega
 have hp:node.size<=maxLen:=by unfold maxLen;omega
 have ha:=λw=>vg way.size way w hi (Uc _)
 change (∀w,Calls prog 199 #[.string way] w λe w'=>e=.returned (qe way).val/\Below w.heap.size w w')at ha
 obtain⟨A0,Z0,O0,e1,e2,e3,h1,h2,hm⟩:=yZ node 35 hp;have hu:Hid (∀w2,Below w.heap.size w w2->Calls prog 220 #[tv,.string node] w2 λe w3=> ∃lx lc,e=.returned (.slice lx (zq ts node).length lc)/\qE w3 (.slice lx (zq ts node).length lc) (zq ts node)/\Below w.heap.size w w3):=by
  intro w2 h4;refine(ci tv ts node w2 (xg ht h4) (by omega) he).mono ?_
  rintro e w3 ⟨v,rfl,ho,h7⟩;obtain⟨lx,lc,rfl⟩: ∃lx lc,v=.slice lx (zq ts node).length lc:=by
   rcases ho.2 with⟨rfl,h0⟩|⟨g,cap,cur,rfl,-⟩
   ·exact⟨none,0,by rw[h0]⟩
   ·exact⟨_,cap,rfl⟩
  exact⟨lx,lc,rfl,yi ho,h4.trans (h7.mono h4.size)⟩
 have hv:Hid (∀y∈zq ts node,y.size<=maxLen):=by
  intro y hy;rcases pT node ts [] y hy with h|⟨x,hx,rfl⟩
  ·cases h
  ·exact di x 64 (he x hx)
 have hD:Hid ((zq ts node).length<=50):=by
  have:=vV node ts [];show _<=_
  unfold zq;simp at this;omega
 have hC: ∃x n c,tv=.slice x n c:=by
  rcases ht with⟨rfl,-⟩|⟨b,off,cap,rfl,-⟩
  ·exact⟨_,_,_,rfl⟩
  ·exact⟨_,_,_,rfl⟩
 obtain⟨tx,tn,tc,rfl⟩:=hC;unfold Pt.val at ha;rw[hr]at ha;generalize (qe way).A=A at *;generalize (qe way).B=B at *;generalize zq ts node=ls at *;have hq:Hid (∀w,Calls prog 117 #[.string node,.int .u8 35] w λe w'=>e=.returned (.tuple #[.string A0,.string Z0,.bool O0])/\ ∃n,w'=w.drewN n):=hm;have HA:Hid (∀w,Calls prog 199 #[.string way] w λe w'=>e=.returned (.agg #[.int .u8 116,.string A,.string B])/\Below w.heap.size w w'):=ha;clear ht hm ha e1 e2 e3 hr hi hp he;go_enter func201,ntmps201
 go_wp2_with(first|(go_at_call 117;refine(hq.out _).mono ?_;rintro e w1 ⟨rfl,nq,rfl⟩)|(go_at_call 199;refine(HA.out _).mono ?_;rintro e w2 ⟨rfl,h4⟩;have h5:Below w.heap.size w w2:=Below.trans (qN ⟨nq,rfl⟩) (h4.mono (qN ⟨nq,rfl⟩).size))|(go_at_call 220;refine(hu.out _ (h5.alloc h5.size _)).mono ?_;rintro e w3 ⟨lx,lc,rfl,hA,h7⟩))
 rcases hA with⟨e0,rfl⟩|⟨b,off,cap,e0,hc⟩
 ·injection e0 with e0 _ e0'
  subst e0;subst e0';refine wp_loop_rounds 1 ?_;rw[rounds_succ];go_wp2;go_ret;refine⟨_,rfl,?_,h7⟩;rw[HE.out];exact World.ownsRow_nil _ _ _ _
 ·injection e0 with e0 _ e0'
  subst e0;subst e0';obtain⟨n,hx⟩: ∃n,ls.length=n:=⟨_,rfl⟩;have HX:Hid (ls.length=n):=hx;have hf:Hid (Below w.heap.size w w3):=h7;clear h4 h5 h7;rw[hx];have hL:n<=50:=by have:=hD.out;omega
  clear hx
  go_loopw [13,15] (λov i wr=> ∃(k:Nat) (o:Value),o=ov/\k<=n/\i=.int .i64 k/\wr.ownsRow w3.heap.size 9 1 o ((ls.take k).foldl xy []).length (qg ((ls.take k).foldl xy []))/\Below w3.heap.size w3 wr) (λ_ i _=>n-(intOf i).toNat)
  case atStart=>exact⟨0,_,rfl,Um _,rfl,World.ownsRow_nil _ _ _ _,Ou _ _⟩
  case round=>
   obtain⟨k,o,rfl,hk,rfl,h3,hb⟩:=hrel;by_cases hlt:k<n
   ·have h9:k<ls.length:=by have:=HX.out;omega
    obtain⟨x,hx⟩: ∃x,ls[k]=x:=⟨_,rfl⟩;have h6:=hc k x (by rw[OC h9,hx])
    have hK:wr.cell? ⟨b,off+k,none⟩=some (.string x):=by rw[←h6];exact hb.cell (qp h6)
    have hG: ∀nq,(wr.drewN nq).cell? ⟨b,off+k,none⟩=some (.string x):=λnq=>hK;have HS:Hid ((ls.take (k+1)).foldl xy []=xy ((ls.take k).foldl xy []) x):=by
     show _=_
     rw[O8 h9,List.foldl_append,hx];rfl
    have hg:Hid (((ls.take k).foldl xy []).length<=2000):=by
     have:=j8 xy cj (ls.take k) [];rw[OQ]at this;show _<=_
     simp at this;omega
    have hE:x.size<=maxLen:=hv.out x (by rw[←hx];exact List.getElem_mem h9)
    have hd:Hid (∀w,Calls prog 73 #[.string x] w λe w'=>e=.returned (.bool (xt x))/\ ∃n,w'=w.drewN n):=λw=>cH x w hE;clear hc hx h6 h9;generalize (ls.take k).foldl xy []=ys at *;cases heq:xt x
    ·have HQ:Hid ((ls.take (k+1)).foldl xy []=ys):=by show _=_;rw[HS.out];unfold xy;rw[heq];rfl
     rw[heq]at hd
     go_wp2_with(go_at_call 73;refine(hd.out _).mono ?_;rintro e w1 ⟨rfl,nq,rfl⟩)
     go_roundw
     case rel=>exact⟨k+1,o,rfl,by omega,by go_num,by rw[HQ.out];exact q9 h3 (qN ⟨nq,rfl⟩),hb.trans (qN ⟨nq,rfl⟩|>.mono hb.size)⟩
     case measure=>simp[intOf];omega
    ·have HQ:Hid ((ls.take (k+1)).foldl xy []=ys++[x]):=by show _=_;rw[HS.out];unfold xy;rw[heq];rfl
     rw[heq]at hd;have hF:Hid (∀nq,∃v1 w1,(Builtin.append_ #[28,28] 28 #[o,.slice (some ⟨wr.heap.size,0,none⟩) 1 1]).run prog ((wr.drewN nq).alloc (.cells #[.string x] 9))=.ok v1 w1/\w1.ownsRow w3.heap.size 9 1 v1 (ys++[x]).length (qg (ys++[x]))/\Below w3.heap.size w3 w1):=by
      intro nq;have h4:Below w3.heap.size w3 (wr.drewN nq):=hb.trans ((qN ⟨nq,rfl⟩).mono hb.size);have h8:=q9 h3 (qN ⟨nq,rfl⟩);obtain⟨v1,w1,hB,hI,hJ,-⟩:=vf (wr.drewN nq) w3.heap.size o ys.length ys rfl x h8 h4.size (by have:=hg.out;omega)
      exact⟨v1,w1,hB,by rw[OK];exact hI,h4.grown hJ h4.size (λj hj=>(h8.lt j hj).1)⟩
     clear h3 hb HS
     go_wp2_with(first|(go_at_call 73;refine(hd.out _).mono ?_;rintro e w1 ⟨rfl,nq,rfl⟩;obtain⟨v2,w2',hz,h8,h4⟩:=hF.out nq;have HR:Hid (w2'.ownsRow w3.heap.size 9 1 v2 (ys++[x]).length (qg (ys++[x]))/\Below w3.heap.size w3 w2'):=⟨h8,h4⟩;clear h8 h4)|(at_builtin;refine qo rfl (.tmp 67) (.tmp 72) 28 rfl _ _ _ rfl rfl hz ?_))
     go_roundw
     case rel=>exact⟨k+1,v2,rfl,by omega,by go_num,by rw[HQ.out];exact HR.out.1,HR.out.2⟩
     case measure=>simp[intOf];omega
   ·obtain rfl:k=n:=by omega
    have HR:Hid (vR w (qW ts node f way) (.returned o) wr):=by
     refine⟨o,rfl,?_,hf.out.trans (hb.mono hf.out.size)⟩;rw[O7 (by rw[HX.out];exact Uc _)]at h3
     rw[HE.out];obtain⟨q1,q2⟩:=h3;refine⟨q1,?_⟩;rcases q2 with h|⟨g,cp,cu,rfl,a,d⟩
     ·exact Or.inl h
     ·exact Or.inr ⟨g,cp,cu,rfl,Ue hf.out.size a,d⟩
    clear h3 hb hc;go_wp2;go_ret;exact HR.out
theorem Qu(s:BA)(c:Int):(qS s c).size<=s.size:=by
 unfold qS;split<;>simp<;>omega
theorem sL(gb:Nat)(tv:Value)(ts:List BA)(node way:BA)(f:Nat)(w:World)(hs:way.size<=1000)(hn:node.size<=140737488355328)(ht:qE w tv ts)(hl:ts.length<=50)(hf: ∀x∈ts,x.size<=maxLen)(hC: ∀x∈ts,x.size<=140737488355328)(hr:(qe way).is=97)(hA:(qe way).A.size<=1000)(hB:(qe way).B.size<=1000):
  Calls prog 201 #[.pointer (some ⟨gb,0,none⟩),tv,.string node,.string way] w (vR w (qW ts node f way)):=by
 have HE:Hid (qW ts node f way=(zq ts (yU (qX node 35) (qe way).A)).foldl (xT (qe way).B) []):=by
  show _=_
  cases f<;>rw[qW,if_neg (by omega),if_neg (by omega),if_pos hr]
 have hq:way.size<=maxLen:=by unfold maxLen;omega
 have hz:node.size<=maxLen:=by unfold maxLen;omega
 have ha:=λw=>vg way.size way w hq (Uc _)
 change (∀w,Calls prog 199 #[.string way] w λe w'=>e=.returned (qe way).val/\Below w.heap.size w w')at ha
 have hJ:(qX node 35).size<=140737488355328:=Ue (rE node 35) hn;obtain⟨A0,Z0,O0,e1,e2,e3,h1,h2,hu⟩:=yZ node 35 hz;rw[e1]at HE hJ;obtain⟨N,hN⟩: ∃N,yU A0 (qe way).A=N:=⟨_,rfl⟩;have HN:Hid (A0++{data:= #[35]}++(qe way).A=N):=hN;rw[hN]at HE;clear hN;have hE:Hid (∀w2,Below w.heap.size w w2->Calls prog 220 #[tv,.string N] w2 λe w3=> ∃lx lc,e=.returned (.slice lx (zq ts N).length lc)/\qE w3 (.slice lx (zq ts N).length lc) (zq ts N)/\Below w.heap.size w w3/\Below w2.heap.size w2 w3):=by
  intro w2 h4;refine(ci tv ts N w2 (xg ht h4) (by omega) hf).mono ?_
  rintro e w3 ⟨v,rfl,ho,h7⟩;obtain⟨lx,lc,rfl⟩: ∃lx lc,v=.slice lx (zq ts N).length lc:=by
   rcases ho.2 with⟨rfl,h0⟩|⟨g,cap,cur,rfl,-⟩
   ·exact⟨none,0,by rw[h0]⟩
   ·exact⟨_,cap,rfl⟩
  exact⟨lx,lc,rfl,yi ho,h4.trans (h7.mono h4.size),h7⟩
 have hF:Hid (∀y∈zq ts N,y.size<=maxLen):=by
  intro y hy;rcases pT N ts [] y hy with h|⟨x,hx,rfl⟩
  ·cases h
  ·exact di x 64 (hf x hx)
 have hU:Hid (∀y∈zq ts N,y.size<=140737488355328):=by
  intro y hy;rcases pT N ts [] y hy with h|⟨x,hx,rfl⟩
  ·cases h
  ·exact Ue (Qu x 64) (hC x hx)
 have hM:Hid ((zq ts N).length<=50):=by
  have:=vV N ts [];show _<=_
  unfold zq;simp at this;omega
 have hL: ∃x n c,tv=.slice x n c:=by
  rcases ht with⟨rfl,-⟩|⟨b,off,cap,rfl,-⟩
  ·exact⟨_,_,_,rfl⟩
  ·exact⟨_,_,_,rfl⟩
 obtain⟨tx,tn,tc,rfl⟩:=hL;unfold Pt.val at ha;rw[hr]at ha;generalize (qe way).A=A at *;generalize (qe way).B=B at *;generalize zq ts N=ls at *;have hD:Hid (∀w,Calls prog 117 #[.string node,.int .u8 35] w λe w'=>e=.returned (.tuple #[.string A0,.string Z0,.bool O0])/\ ∃n,w'=w.drewN n):=hu;have HA:Hid (∀w,Calls prog 199 #[.string way] w λe w'=>e=.returned (.agg #[.int .u8 97,.string A,.string B])/\Below w.heap.size w w'):=ha;clear ht hu ha e1 e2 e3 hr hq hz hf hC;go_enter func201,ntmps201
 go_wp2_with(first|(go_at_call 117;refine(hD.out _).mono ?_;rintro e w1 ⟨rfl,nq,rfl⟩)|(go_at_call 199;refine(HA.out _).mono ?_;rintro e w2 ⟨rfl,h4⟩;have h5:Below w.heap.size w w2:=Below.trans (qN ⟨nq,rfl⟩) (h4.mono (qN ⟨nq,rfl⟩).size))|(go_at_call 220;rw[HN.out];refine(hE.out _ (h5.alloc h5.size _)).mono ?_;rintro e w3 ⟨lx,lc,rfl,hI,h7,hp⟩;have he:=qa (qn w2 [.int .u8 97,.string A,.string B] 234) (j:=2) rfl;have hv:w3.cell? ⟨w2.heap.size,2,none⟩=some (.string B):=(hp.cell (qp he)).trans he;clear he hp))
 rcases hI with⟨e0,rfl⟩|⟨b,off,cap,e0,hc⟩
 ·injection e0 with e0 _ e0'
  subst e0;subst e0';refine wp_loop_rounds 1 ?_;rw[rounds_succ];go_wp2;go_ret;refine⟨_,rfl,?_,h7⟩;rw[HE.out];exact World.ownsRow_nil _ _ _ _
 ·injection e0 with e0 _ e0'
  subst e0;subst e0';obtain⟨n,hx⟩: ∃n,ls.length=n:=⟨_,rfl⟩;have HX:Hid (ls.length=n):=hx;have hg:Hid (Below w.heap.size w w3):=h7;have hm:Hid (w3.cell? ⟨w2.heap.size,2,none⟩=some (.string B)):=hv;clear h4 h5 h7 hv;rw[hx];have hY:n<=50:=by have:=hM.out;omega
  clear hx
  go_loopw [13,18] (λov i wr=> ∃(k:Nat) (o:Value),o=ov/\k<=n/\i=.int .i64 k/\wr.ownsRow w3.heap.size 9 1 o ((ls.take k).foldl (xT B) []).length (qg ((ls.take k).foldl (xT B) []))/\Below w3.heap.size w3 wr) (λ_ i _=>n-(intOf i).toNat)
  case atStart=>exact⟨0,_,rfl,Um _,rfl,World.ownsRow_nil _ _ _ _,Ou _ _⟩
  case round=>
   obtain⟨k,o,rfl,hk,rfl,h3,hb⟩:=hrel;by_cases hlt:k<n
   ·have h8:k<ls.length:=by have:=HX.out;omega
    obtain⟨x,hx⟩: ∃x,ls[k]=x:=⟨_,rfl⟩;have h6:=hc k x (by rw[OC h8,hx])
    have hT:wr.cell? ⟨b,off+k,none⟩=some (.string x):=by rw[←h6];exact hb.cell (qp h6)
    have hQ: ∀nq,(wr.drewN nq).cell? ⟨b,off+k,none⟩=some (.string x):=λnq=>hT;have HS:Hid ((ls.take (k+1)).foldl (xT B) []=xT B ((ls.take k).foldl (xT B) []) x):=by
     show _=_
     rw[O8 h8,List.foldl_append,hx];rfl
    have hi:Hid (((ls.take k).foldl (xT B) []).length<=2000):=by
     have:=j8 (xT B) (dG B) (ls.take k) [];rw[OQ]at this;show _<=_
     simp at this;omega
    have hO:x.size<=maxLen:=hF.out x (by rw[←hx];exact List.getElem_mem h8)
    have hd:Hid (∀w,Calls prog 118 #[.string x] w λe w'=>e=.returned (.bool (zj x))/\ ∃n,w'=w.drewN n):=λw=>ko x w hO;have H1:x.size<=140737488355328:=hU.out x (by rw[←hx];exact List.getElem_mem h8)
    have hV: ∀nq,(wr.drewN nq).cell? ⟨w2.heap.size,2,none⟩=some (.string B):=λnq=>(hb.cell (qp hm.out)).trans hm.out;clear hc hx h6 h8;generalize (ls.take k).foldl (xT B) []=ys at *;cases heq:zj x
    ·have HQ:Hid ((ls.take (k+1)).foldl (xT B) []=ys):=by show _=_;rw[HS.out];unfold xT;rw[heq];rfl
     rw[heq]at hd
     go_wp2_with(go_at_call 118;refine(hd.out _).mono ?_;rintro e w1 ⟨rfl,nq,rfl⟩)
     go_roundw
     case rel=>exact⟨k+1,o,rfl,by omega,by go_num,by rw[HQ.out];exact q9 h3 (qN ⟨nq,rfl⟩),hb.trans (qN ⟨nq,rfl⟩|>.mono hb.size)⟩
     case measure=>simp[intOf];omega
    ·have HQ:Hid ((ls.take (k+1)).foldl (xT B) []=ys++[x++{data:= #[35]}++B]):=by show _=_;rw[HS.out];unfold xT yU;rw[heq];rfl
     rw[heq]at hd;have hZ: ¬9223372036854775807<x.size+1:=by omega
     have H0: ¬9223372036854775807<x.size+1+B.size:=by omega
     have hX: ¬9223372036854775807<x.size+(1+B.size):=by omega
     have hP:Hid (∀nq,∃v1 w1,(Builtin.append_ #[28,28] 28 #[o,.slice (some ⟨wr.heap.size,0,none⟩) 1 1]).run prog ((wr.drewN (nq+1)).alloc (.cells #[.string (x++{data:= #[35]}++B)] 9))=.ok v1 w1/\w1.ownsRow w3.heap.size 9 1 v1 (ys++[x++{data:= #[35]}++B]).length (qg (ys++[x++{data:= #[35]}++B]))/\Below w3.heap.size w3 w1):=by
      intro nq;have h4:Below w3.heap.size w3 (wr.drewN (nq+1)):=hb.trans ((qN ⟨nq+1,rfl⟩).mono hb.size);have h9:=q9 h3 (qN ⟨nq+1,rfl⟩);obtain⟨v1,w1,hK,hR,hS,-⟩:=vf (wr.drewN (nq+1)) w3.heap.size o ys.length ys rfl (x++{data:= #[35]}++B) h9 h4.size (by have:=hi.out;omega)
      exact⟨v1,w1,hK,by rw[OK];exact hR,h4.grown hS h4.size (λj hj=>(h9.lt j hj).1)⟩
     clear h3 hb HS
     go_wp2_with(first|(go_at_call 118;refine(hd.out _).mono ?_;rintro e w1 ⟨rfl,nq,rfl⟩;obtain⟨v2,w2',hG,h9,h4⟩:=hP.out nq;have HR:Hid (w2'.ownsRow w3.heap.size 9 1 v2 (ys++[x++{data:= #[35]}++B]).length (qg (ys++[x++{data:= #[35]}++B]))/\Below w3.heap.size w3 w2'):=⟨h9,h4⟩;clear h9 h4))
     go_region_law (refine iC rfl (.tmp 105) (.tmp 114) 28 rfl _ _ _ (by simp[Act.eval]) (by simp[Act.eval]) hG ?_)
     all_goals go_wp2
     all_goals exact⟨⟨k+1,v2,rfl,by omega,by go_num,by rw[HQ.out];exact HR.out.1,HR.out.2⟩,by simp[intOf];omega⟩
   ·obtain rfl:k=n:=by omega
    have HR:Hid (vR w (qW ts node f way) (.returned o) wr):=by
     refine⟨o,rfl,?_,hg.out.trans (hb.mono hg.out.size)⟩;rw[O7 (by rw[HX.out];exact Uc _)]at h3
     rw[HE.out];obtain⟨q1,q2⟩:=h3;refine⟨q1,?_⟩;rcases q2 with h|⟨g,cp,cu,rfl,a,d⟩
     ·exact Or.inl h
     ·exact Or.inr ⟨g,cp,cu,rfl,Ue hg.out.size a,d⟩
    clear h3 hb hc;go_wp2;go_ret;exact HR.out
theorem wA(w:World)(x:Option Addr)(n c:Nat)(h:n<=c):(Builtin.append_ #[28,28] 28 #[.slice x n c,.slice none 0 0]).run prog w=.ok (.slice x n c) w:=by
 cases x<;>simp[Builtin.append_,run_underlying underlying28,go_sem,h]
theorem bI(w:World)(base base2:Nat)(v u:Value)(xs ys:List BA)(h1:w.ownsRow base 9 1 v xs.length (qg xs))(hu:w.ownsRow base2 9 1 u ys.length (qg ys))(hb:base<=w.heap.size)(hl:xs.length+ys.length<=1000000):
  ∃v' w',(Builtin.append_ #[28,28] 28 #[v,u]).run prog w=.ok v' w'/\w'.ownsRow base 9 1 v' (xs++ys).length (qg (xs++ys))/\w.grownBy w' v.ownBlock:=by
 obtain⟨i,hi,hz,hs,h6⟩:=jZ;rcases yi hu with⟨rfl,rfl⟩|⟨b,off,cap,rfl,hc⟩
 ·obtain⟨x,c,h7,rfl⟩: ∃x c,xs.length<=c/\v=.slice x xs.length c:=by
   rcases h1.2 with⟨rfl,h0⟩|⟨g,cp,cu,rfl,-,-,h5,-⟩
   ·exact⟨none,0,by omega,by rw[h0]⟩
   ·exact⟨_,cp,h5,rfl⟩
  exact⟨_,w,wA w x _ c h7,by rw[List.append_nil];exact h1,⟨rfl,rfl,rfl,Uc _,λ_ _ _=>rfl⟩⟩
 ·obtain⟨v',w',hr,h2,h3,h4⟩:=run_append_own (P:=prog) w base 28 28 9 i (.string {data:= #[]}) 1 16 underlying28 hi hz hs h6 rfl (by decide) v xs.length (qg xs) h1 ⟨b,off,none⟩ ys.length cap (qg ys) (by rw[qH,Nat.mul_one])
   (by
    intro j z hj;simp only[qg,OF,Un]at hj;obtain⟨y,hy,rfl⟩:=hj;rw[show(⟨b,off,none⟩:Addr).add j=⟨b,off+j,none⟩ by unfold Addr.add;split;(rename_i h;rw[h];rfl);rfl]
    exact hc j y hy)
   (iM _) (by unfold maxLen;omega) (by omega) hb
  refine⟨v',w',hr,?_,h3⟩;rw[OK,i5];exact h2
theorem jz: ∀(n:Nat) (s:BA),s.size<=n->(qe s).is=120\/(((qe s).is=116\/(qe s).is=114\/(qe s).is=97\/(qe s).is=124\/(qe s).is=38)/\(qe s).A.size<=s.size/\(qe s).B.size<=s.size):=by
 intro n
 induction n with
 |zero=>
  intro s hs
  left
  have:=i4 s;unfold qe;rw[yR];unfold yx;split
  ·rfl
  ·rw[if_pos (Or.inr (Or.inr (by omega)))];rfl
 |succ n ih=>
  intro s hs;rcases i4 s with h|⟨-,-,-,⟨ha,e⟩|⟨-,-,-,h2,e⟩|⟨-,e⟩⟩
  ·exact Or.inl h
  ·right
   rcases rG s.data.toList sc0 0 (by decide)with⟨h,-⟩|⟨A,op,B,hl,h,h5,-⟩
   ·rw[h]at ha;exact absurd ha (by decide)
   ·rw[e,h]
    have h6:((0+A.length:Nat):Int).toNat=A.length:=by omega
    rw[h6,kh s A B op hl];have h7:s.size=A.length+(B.length+1):=by rw[zC,hl];simp
    refine⟨?_,?_,?_⟩
    ·rcases h5 with rfl|rfl
     ·exact Or.inr (Or.inr (Or.inr (Or.inl rfl)))
     ·exact Or.inr (Or.inr (Or.inr (Or.inr rfl)))
    ·show(mk A).size<=_
     rw[zC];simp[mk];omega
    ·show(mk B).size<=_
     rw[zC];simp[mk];omega
  ·have hx:(s.extract 1 (s.size-1)).size<=n:=by simp only[ByteArray.size_extract];omega
   have h0:(s.extract 1 (s.size-1)).size<=s.size:=by simp only[ByteArray.size_extract];omega
   rw[e];rcases ih _ hx with h|⟨h1,h3,h4⟩
   ·exact Or.inl h
   ·exact Or.inr ⟨h1,Ue h3 h0,Ue h4 h0⟩
  ·rw[e]
   unfold xB;split
   ·right;exact⟨Or.inl rfl,Um _,Um _⟩
   ·split
    ·right;exact⟨Or.inr (Or.inl rfl),Uc _,Um _⟩
    ·unfold kp
     split
     ·exact Or.inl rfl
     ·split
      ·exact Or.inl rfl
      ·right
       refine⟨Or.inr (Or.inr (Or.inl rfl)),rE s 45,?_⟩;have:=Qu s 45;show((qS s 45).extract 1 (qS s 45).size).size<=s.size
       simp only[ByteArray.size_extract];omega
theorem wD(gb:Nat)(tv:Value)(ts:List BA)(node A B:BA)(la lb:List BA)(w:World)(ht:qE w tv ts)(h4:la.length+lb.length<=1000000)
  (hc: ∀w',qE w' tv ts->Calls prog 201 #[.pointer (some ⟨gb,0,none⟩),tv,.string node,.string A] w' (vR w' la)) (he: ∀w',qE w' tv ts->Calls prog 201 #[.pointer (some ⟨gb,0,none⟩),tv,.string node,.string B] w' (vR w' lb))
  (w3:World) (pb:Nat) (hP:w3.cell? ⟨pb,2,none⟩=some (.string B)) (h3:Below w.heap.size w w3):
  Calls prog 201 #[.pointer (some ⟨gb,0,none⟩),tv,.string node,.string A] w3 λe w4=> ∃va,e=.returned va/\w4.cell? ⟨pb,2,none⟩=some (.string B)/\
   Calls prog 201 #[.pointer (some ⟨gb,0,none⟩),tv,.string node,.string B] w4 λe w5=> ∃vb,e=.returned vb/\
    ∃v6 w6,(Builtin.append_ #[28,28] 28 #[.slice none 0 0,va]).run prog w5=.ok v6 w6/\
    ∃v7 w7,(Builtin.append_ #[28,28] 28 #[v6,vb]).run prog w6=.ok v7 w7/\Hid (vR w (la++lb) (.returned v7) w7):=by
 refine(hc w3 (xg ht h3)).mono ?_;rintro e w4 ⟨va,rfl,hk,h7⟩;have h1:Below w.heap.size w w4:=h3.trans (h7.mono h3.size);refine⟨va,rfl,(h7.cell (qp hP)).trans hP,?_⟩;refine(he w4 (xg ht h1)).mono ?_;rintro e w5 ⟨vb,rfl,h8,ha⟩;have h2:Below w.heap.size w w5:=h1.trans (ha.mono h1.size);refine⟨vb,rfl,?_⟩;obtain⟨v6,w6,hi,h6,h9⟩:=bI w5 w.heap.size w3.heap.size (.slice none 0 0) va [] la (World.ownsRow_nil _ _ _ _) (q9 hk ha) h2.size (by simp;omega)
 rw[List.nil_append]at h6;refine⟨v6,w6,hi,?_⟩;have h0:Below w.heap.size w w6:=h2.grown h9 h2.size (λj hj=>by cases hj)
 have h5:w6.ownsRow w4.heap.size 9 1 vb lb.length (qg lb):=qF h8 λg hg=>h9.block g (qf h8 g hg).1 (by intro e;cases e)
 obtain⟨v7,w7,hb,hf,hd⟩:=bI w6 w.heap.size w4.heap.size v6 vb la lb h6 h5 h0.size h4;exact⟨v7,w7,hb,v7,rfl,hf,h0.grown hd h0.size (λj hj=>(h6.lt j hj).1)⟩
theorem XR(gb:Nat)(tv:Value)(ts:List BA)(node way:BA)(la lb:List BA)(w:World)(hs:way.size<=1000)(hn:node.size<=140737488355328)(ht:qE w tv ts)(hd:(qe way).is=124\/(qe way).is=38)(h0:la.length+lb.length<=1000000)
  (h6: ∀w',qE w' tv ts->Calls prog 201 #[.pointer (some ⟨gb,0,none⟩),tv,.string node,.string (qe way).A] w' (vR w' la)) (h8: ∀w',qE w' tv ts->Calls prog 201 #[.pointer (some ⟨gb,0,none⟩),tv,.string node,.string (qe way).B] w' (vR w' lb)):
  Calls prog 201 #[.pointer (some ⟨gb,0,none⟩),tv,.string node,.string way] w (vR w (la++lb)):=by
 have h4:way.size<=maxLen:=by unfold maxLen;omega
 have h7:node.size<=maxLen:=by unfold maxLen;omega
 have ha:=λw=>vg way.size way w h4 (Uc _)
 change (∀w,Calls prog 199 #[.string way] w λe w'=>e=.returned (qe way).val/\Below w.heap.size w w')at ha
 obtain⟨A0,Z0,O0,e1,e2,e3,h1,h2,h5⟩:=yZ node 35 h7;have h3:Hid (∀(w3:World) (pb:Nat),w3.cell? ⟨pb,2,none⟩=some (.string (qe way).B)->Below w.heap.size w w3->Calls prog 201 #[.pointer (some ⟨gb,0,none⟩),tv,.string node,.string (qe way).A] w3 _):=wD gb tv ts node _ _ la lb w ht h0 h6 h8;have hg: ∃x n c,tv=.slice x n c:=by
  rcases ht with⟨rfl,-⟩|⟨b,off,cap,rfl,-⟩
  ·exact⟨_,_,_,rfl⟩
  ·exact⟨_,_,_,rfl⟩
 obtain⟨tx,tn,tc,rfl⟩:=hg;clear h6 h8;unfold Pt.val at ha;generalize (qe way).A=A at *;generalize (qe way).B=B at *;generalize (qe way).is=op at *;have hj:Hid (∀w,Calls prog 117 #[.string node,.int .u8 35] w λe w'=>e=.returned (.tuple #[.string A0,.string Z0,.bool O0])/\ ∃n,w'=w.drewN n):=h5;have HA:Hid (∀w,Calls prog 199 #[.string way] w λe w'=>e=.returned (.agg #[.int .u8 op,.string A,.string B])/\Below w.heap.size w w'):=ha;clear ht h5 ha e1 e2 e3 h4 h7;rcases hd with rfl|rfl
 all_goals
  go_enter func201,ntmps201
  go_wp2_with(first|(go_at_call 117;refine(hj.out _).mono ?_;rintro e w1 ⟨rfl,nq,rfl⟩)|(go_at_call 199;refine(HA.out _).mono ?_;rintro e w2 ⟨rfl,hf⟩;have hb:Hid (Below w.heap.size w w2):=Below.trans (qN ⟨nq,rfl⟩) (hf.mono (qN ⟨nq,rfl⟩).size))|(go_at_call 201;refine(h3.out _ w2.heap.size (qa (qn w2 [.int .u8 _,.string A,.string B] _) (j:=2) rfl) (hb.out.alloc hb.out.size _)).mono ?_;rintro e w4 ⟨va,rfl,hk,h9⟩;have he:Hid (Calls prog 201 #[.pointer (some ⟨gb,0,none⟩),.slice tx tn tc,.string node,.string B] w4 _):=h9;clear h9 h3)|(go_at_call 201;refine he.out.mono ?_;rintro e w5 ⟨vb,rfl,v6,w6,hi,v7,w7,hc,HR⟩)|(at_builtin;refine qo rfl (.tmp 44) (.tmp 45) 28 rfl _ _ _ rfl rfl hi ?_)|(at_builtin;refine qo rfl (.tmp 47) (.tmp 48) 28 rfl _ _ _ rfl rfl hc ?_))
  go_ret;exact HR.out
theorem oB: ∀(n:Nat) (s:BA),s.size<=n->((qe s).is=124\/(qe s).is=38)->(qe s).A.size+(qe s).B.size+1<=s.size:=by
 intro n
 induction n with
 |zero=>
  intro s hs h0;have:=kQ s.size s h0;omega
 |succ n ih=>
  intro s hs h0;rcases i4 s with h|⟨-,-,-,⟨ha,e⟩|⟨-,-,-,h2,e⟩|⟨-,e⟩⟩
  ·rw[h]at h0;omega
  ·rcases rG s.data.toList sc0 0 (by decide)with⟨h,-⟩|⟨A,op,B,hl,h,-,-⟩
   ·rw[h]at ha;exact absurd ha (by decide)
   ·rw[e,h]
    have h3:((0+A.length:Nat):Int).toNat=A.length:=by omega
    rw[h3,kh s A B op hl];have h4:s.size=A.length+(B.length+1):=by rw[zC,hl];simp
    show(mk A).size+(mk B).size+1<=_
    rw[zC,zC];simp[mk];omega
  ·have hx:(s.extract 1 (s.size-1)).size<=n:=by simp only[ByteArray.size_extract];omega
   have h1:(s.extract 1 (s.size-1)).size<=s.size:=by simp only[ByteArray.size_extract];omega
   rw[e]at h0 ⊢;exact Ue (ih _ hx h0) h1
  ·have:=gK s
   rw[e]at h0;omega
theorem co{f:Nat}{way:BA}(hw:yb f way=true):((qe way).is=116\/(qe way).is=114\/(qe way).is=97)\/(((qe way).is=124\/(qe way).is=38)/\ ∃g,f=g+1/\yb g (qe way).A=true/\yb g (qe way).B=true):=by
 by_cases hop:(qe way).is=124\/(qe way).is=38
 ·right
  cases f with
  |zero=>rw[yb,if_neg (by omega)]at hw;cases hw
  |succ g=>
   rw[yb,if_neg (by omega),Bool.and_eq_true]at hw
   exact⟨hop,g,rfl,hw.1,hw.2⟩
 ·left
  have h0:(qe way).is≠120:=by
   cases f<;>(rw[yb,if_pos (by omega)]at hw;exact of_decide_eq_true hw)
  rcases jz way.size way (Uc _)with h|⟨h,-⟩
  ·exact absurd h h0
  ·omega
theorem oC(ts:List BA)(node:BA)(hl:ts.length<=50): ∀(f:Nat) (way:BA),yb f way=true->(qW ts node f way).length<=50 * (way.size+1):=by
 intro f
 induction f with
 |zero=>
  intro way hw;rw[qW];have h1:=j8 xy cj (zq ts node) [];have h2:=vV node ts [];have h3:=j8 (xT (qe way).B) (dG _) (zq ts (yU (qX node 35) (qe way).A)) [];have h4:=vV (yU (qX node 35) (qe way).A) ts [];unfold zq at *;simp only[List.length_nil,Ul]at h1 h2 h3 h4;split
  ·omega
  ·split
   ·simp;omega
   ·split
    ·omega
    ·simp
 |succ f ih=>
  intro way hw;rw[qW];have h1:=j8 xy cj (zq ts node) [];have h2:=vV node ts [];have h3:=j8 (xT (qe way).B) (dG _) (zq ts (yU (qX node 35) (qe way).A)) [];have h4:=vV (yU (qX node 35) (qe way).A) ts [];unfold zq at *;simp only[List.length_nil,Ul]at h1 h2 h3 h4;split
  ·omega
  ·split
   ·simp;omega
   ·split
    ·omega
    ·rcases co hw with h|⟨h0,g,e,ha,hb⟩
     ·omega
     ·injection e with e
      subst e;have h5:=ih _ ha;have h6:=ih _ hb;have h7:=oB way.size way (Uc _) h0;rw[OK];omega
theorem sM(gb:Nat)(tv:Value)(ts:List BA)(node:BA)(hn:node.size<=140737488355328)(hl:ts.length<=50)(h0: ∀x∈ts,x.size<=maxLen)(h3: ∀x∈ts,x.size<=140737488355328): ∀(f:Nat) (way:BA) (w:World),way.size<=1000->yb f way=true->qE w tv ts->
  Calls prog 201 #[.pointer (some ⟨gb,0,none⟩),tv,.string node,.string way] w (vR w (qW ts node f way)):=by
 intro f
 induction f with
 |zero=>
  intro way w hs hw ht;rcases co hw with(h|h|h)|⟨-,g,e,-⟩
  ·exact g8 gb tv ts node way 0 w hs hn ht hl h0 h
  ·rcases jz way.size way (Uc _)with h'|⟨-,hA,-⟩
   ·omega
   ·exact sJ gb tv ts node way 0 w hs hn ht h (by omega)
  ·rcases jz way.size way (Uc _)with h'|⟨-,hA,hB⟩
   ·omega
   ·exact sL gb tv ts node way 0 w hs hn ht hl h0 h3 h (by omega) (by omega)
  ·omega
 |succ f ih=>
  intro way w hs hw ht;rcases co hw with(h|h|h)|⟨h2,g,e,ha,hb⟩
  ·exact g8 gb tv ts node way _ w hs hn ht hl h0 h
  ·rcases jz way.size way (Uc _)with h'|⟨-,hA,-⟩
   ·omega
   ·exact sJ gb tv ts node way _ w hs hn ht h (by omega)
  ·rcases jz way.size way (Uc _)with h'|⟨-,hA,hB⟩
   ·omega
   ·exact sL gb tv ts node way _ w hs hn ht hl h0 h3 h (by omega) (by omega)
  ·injection e with e
   subst e;have h7:=oB way.size way (Uc _) h2;have h5:=oC ts node hl f _ ha;have h6:=oC ts node hl f _ hb;have he:qW ts node (f+1) way=qW ts node f (qe way).A++qW ts node f (qe way).B:=by
    rw[qW,if_neg (by omega),if_neg (by omega),if_neg (by omega)]
   rw[he];exact XR gb tv ts node way _ _ w hs hn ht h2 (by omega) (λw' h1=>ih _ w' (by omega) ha h1) (λw' h1=>ih _ w' (by omega) hb h1)
