import Derived.Test.YtalmoiogbdahcaaGreatAAllSy
import Derived.Test.YtalmoiogbdahcaaGreatAAllSz
import Derived.Deep.RegionHeld3
open Go.Proofs.Tryz
namespace Go.Proofs.YtalmoiogbdahcaaGreat
set_option maxRecDepth 100000
set_option maxHeartbeats 8000000
open Go.RowKit Go.Shelf
variable{L:List PA}{V:Int}{W w:World}{i wb:Nat}{l1 l3 pv:Value}{p:PA}{us ws:List Value}
theorem tZ(HN:Hid xS)(HR:Hid jC)(hS:LA W w wb V L pv l1 l3 us ws)(hi:L[i]?=some p)(k g n m:Int)(s:BA)(tv:Value)(hs:s.size<=maxLen):
  ∀w1,Below w.heap.size w w1->w1.heap[w.heap.size]?=some (.cells (opL k g n m s tv).toArray 69 (0,0))->Calls prog 27 #[.pointer (some ⟨p.gb,0,none⟩),.string s,.int .i64 n,.int .i64 m] w1 λe w2=> ∃a b:Int,e=.returned (.tuple #[.int .i64 a,.int .i64 b])/\MidA w p k g n m s tv w2/\
  Hid (∀w2',Below w2.heap.size w2 w2'->Calls prog 123 #[.pointer (some ⟨p.rb,0,none⟩),.string s,.int .i64 n,.int .i64 m] w2' λe w3=>e=.returned (.tuple #[.int .i64 a,.int .i64 b])/\MidA w p k g n m s tv w3/\qw W wb V L us (.returned (.bool true)) w3):=by
 intro w1 hb ho;have hm:=OZ hi;have h0:=hS.pairs p hm;have h1:=hS.later hb;have hp:=h1.pairs p hm;refine(Xy HN HR hp h1.below.size s hs n m).mono ?_;rintro e w2 ⟨a,b,rfl,HF,HC⟩;refine⟨a,b,rfl,dZ h0 hp ho HF.out,λw2' h3=>?_⟩;refine(HC.out w2' h3).mono ?_;rintro e w3 ⟨rfl,hP⟩;refine⟨rfl,?_,oi h1 hi hP⟩;obtain⟨p',e1,e2,e3,h2,hf,-⟩:=hP;have hd:=h2.doc.pair;rw[e1,e2,e3]at hd;exact⟨hd,(hf.block _ (qc ho) λe=>by have:=h0.lt _ e;omega).trans ho⟩
theorem m6(HN:Hid xS)(HR:Hid jC)(hS:LA W w wb V L pv l1 l3 us ws)(hi:L[i]?=some p)(g n m:Int)(s:BA)(tv:Value)(hs:s.size<=maxLen):
  Calls prog 80 #[.pointer (some ⟨wb,0,none⟩),.pointer (some ⟨p.pb,0,none⟩),opV 7 g n m s tv] w (qw W wb V L us):=by
 have hm:=OZ hi;have hp:=(hS.pairs p hm).doc.pair;have HC:Hid _:=tZ HN HR hS hi 7 g n m s tv hs;have ho:=qn w (opL 7 g n m s tv) 69;have h3:(w.alloc (opO 7 g n m s tv)).cell? ⟨p.pb,0,none⟩=some (.pointer (some ⟨p.gb,0,none⟩)):=qa (qG hp _) (j:=0) rfl;have h2:(w.alloc (opO 7 g n m s tv)).drew.cell? ⟨p.pb,0,none⟩=some (.pointer (some ⟨p.gb,0,none⟩)):=h3;have h5:p.pb<(w.alloc (opO 7 g n m s tv)).heap.size:=qp h3;have HO:Hid ((w.alloc (opO 7 g n m s tv)).heap[w.heap.size]?=some (.cells (opL 7 g n m s tv).toArray 69 (0,0))):=ho;clear hS hi hp hm ho HN HR hs;unfold opO at h3 h2 h5 HO;unfold opV;generalize qw W wb V L us=PP at *;go_enter func80,ntmps80;go_wp2
 go_region_held3 (λw'=>w'.cell? ⟨p.pb,0,none⟩=some (.pointer (some ⟨p.gb,0,none⟩))/\w'.cell? ⟨w.heap.size,2,none⟩=some (.int .i64 n)/\w'.cell? ⟨w.heap.size,3,none⟩=some (.int .i64 m)/\w'.cell? ⟨w.heap.size,4,none⟩=some (.string s)) (go_keep) ((go_at_call 27;refine(Calls.mono (HC.out _ bl (by exact HO.out))) ?_;rintro e w2 ⟨a,b,rfl,h1,HQ⟩;have ha:w2.cell? ⟨p.pb,0,none⟩=some (.pointer (some ⟨p.gb,0,none⟩)):=qa h1.pair (j:=0) rfl;have hc:w2.cell? ⟨p.pb,1,none⟩=some (.pointer (some ⟨p.rb,0,none⟩)):=qa h1.pair (j:=1) rfl;have h6:w2.cell? ⟨w.heap.size,2,none⟩=some (.int .i64 n):=qa h1.op (j:=2) rfl;have h7:w2.cell? ⟨w.heap.size,3,none⟩=some (.int .i64 m):=qa h1.op (j:=3) rfl;have h8:w2.cell? ⟨w.heap.size,4,none⟩=some (.string s):=qa h1.op (j:=4) rfl;clear h1))
 all_goals go_wp2
 all_goals go_region_held3 (λw'=>w'.cell? ⟨p.pb,1,none⟩=some (.pointer (some ⟨p.rb,0,none⟩))/\w'.cell? ⟨w.heap.size,2,none⟩=some (.int .i64 n)/\w'.cell? ⟨w.heap.size,3,none⟩=some (.int .i64 m)/\w'.cell? ⟨w.heap.size,4,none⟩=some (.string s)) (go_keep) ((go_at_call 123;refine(Calls.mono (HQ.out _ bl)) ?_;rintro e w3 ⟨rfl,h0,h4⟩;have h9:w3.cell? ⟨p.pb,1,none⟩=some (.pointer (some ⟨p.rb,0,none⟩)):=qa h0.pair (j:=1) rfl;have he:w3.cell? ⟨w.heap.size,2,none⟩=some (.int .i64 n):=qa h0.op (j:=2) rfl;have hb:w3.cell? ⟨w.heap.size,3,none⟩=some (.int .i64 m):=qa h0.op (j:=3) rfl;have hd:w3.cell? ⟨w.heap.size,4,none⟩=some (.string s):=qa h0.op (j:=4) rfl;clear h0))
 all_goals go_wp2
 all_goals exact h4
theorem XA(HN:Hid xS)(HW:Hid xh)(HR:Hid uL)(HD:Hid jC)(hS:LA W w wb V L pv l1 l3 us ws)(h4:0<=V)(hV:V+1<=4611686018427387904)(h0:0<L.length)(hn:L.length<=8796093022208)(h1:(us.length+1) * 24<=140737488355328)(h3:(3 * us.length+3) * 24<=140737488355328)(o:OpR)(ho:OpOk2 W o):
  Calls prog 36 #[.pointer (some ⟨wb,0,none⟩),opV o.k o.g o.n o.m o.s o.tv,.int .i64 12] w (qw W wb V L us):=by
 obtain⟨k,g,n,m,s,tv,xs⟩:=o;obtain⟨⟨hg,ht,hl,h2⟩,hs⟩:=ho;dsimp only at hg ht hl h2 hs ⊢;have hm:us.length<=140737488355328:=by omega
 by_cases e1:k=1
 ·subst e1;exact Q9 hS h4 hn g n m s tv xs ht hl h2 12 (by decide)
 by_cases e2:k=2
 ·subst e2;exact eT hS hV h0 hn g n m hg s tv xs ht hl h2 12 (by decide)
 by_cases e3:k=3
 ·subst e3;exact n7 hS h0 hn g n m hg s tv h1 h3 hm 12 (by decide)
 obtain⟨tx,tn,tc,rfl⟩:=JR ht;by_cases e4:k=4
 ·subst e4
  exact pK hS h0 hn 4 g n m hg s tx tn tc 12 (by decide) (by decide) (by decide) λi p w1 hi hb=>rp HN HW HR (hS.later hb) hi g n m s _ hs
 by_cases e5:k=5
 ·subst e5
  exact pK hS h0 hn 5 g n m hg s tx tn tc 12 (by decide) (by decide) (by decide) λi p w1 hi hb=>mY HN HW HR (hS.later hb) hi h1 h3 hm g n m s _ hs
 by_cases e6:k=6
 ·subst e6
  exact pK hS h0 hn 6 g n m hg s tx tn tc 12 (by decide) (by decide) (by decide) λi p w1 hi hb=>tV HN HW HD (hS.later hb) hi g n m s _ hs
 by_cases e7:k=7
 ·subst e7
  exact vG hS h0 hn 7 g n m hg s tx tn tc 12 (by decide) (by decide) λi p w1 hi hb=>m6 HN HD (hS.later hb) hi g n m s _ hs
 by_cases e8:k=8
 ·subst e8
  exact vG hS h0 hn 8 g n m hg s tx tn tc 12 (by decide) (by decide) λi p w1 hi hb=>tX HW (hS.later hb) hi g n m s _
 by_cases e9:k=9
 ·subst e9
  exact vG hS h0 hn 9 g n m hg s tx tn tc 12 (by decide) (by decide) λi p w1 hi hb=>tW (hS.later hb) hi g n m s _
 by_cases e10:k=10
 ·subst e10
  exact vG hS h0 hn 10 g n m hg s tx tn tc 12 (by decide) (by decide) λi p w1 hi hb=>mZ (hS.later hb) hi g n m s _
 by_cases e11:k=11
 ·subst e11
  exact vG hS h0 hn 11 g n m hg s tx tn tc 12 (by decide) (by decide) λi p w1 hi hb=>tY HR (hS.later hb) hi h1 h3 hm g n m s _
 by_cases e12:k=12
 ·subst e12
  exact vG hS h0 hn 12 g n m hg s tx tn tc 12 (by decide) (by decide) λi p w1 hi hb=>rt (hS.later hb) hi g n m s _
 exact Q8 hS k g n m s _ 12 (by omega)
def G9(W:World)(n:Nat)(i:Value)(wr:World):Prop:=
 ∃(k:Nat) (L:List PA) (pv l1 l3:Value) (us ws:List Value),k<=n/\i=.int .i64 k/\LA W wr W.heap.size (1+k) L pv l1 l3 us ws/\2<=L.length/\L.length<=2+k/\us.length<=k
theorem eV(HN:Hid xS)(hv:Hid xh)(h5:Hid uL)(hB:Hid jC)(W:World)(b off c n:Nat)(ops:List OpR)(h1:ops.length=n)(hb:b<W.heap.size)(h2: ∀i r,ops[i]?=some r->bQ W b (off+i * 6) r/\OpOk2 W r)(hl:n * 72<=140737488351232):
  Calls prog 13 #[.slice (some ⟨b,off,none⟩) n c,.int .i64 12] W λe w'=>e=.returned (.bool true)/\Below W.heap.size W w':=by
 have hc:Hid (∀i r,ops[i]?=some r->bQ W b (off+i * 6) r/\OpOk2 W r):=h2;have h7:Hid (ops.length=n):=h1;clear h2 h1;have hz:(W.alloc (.cells #[.slice none 0 0,.slice none 0 0,.slice none 0 0] 61)).heap.size=W.heap.size+1:=by simp
 have ha:=kF (LA.start W) (by decide) (by simp) 2 3 bO
 rw[hz]at ha;have HR:Hid (Calls prog 34 #[] _ _):=ha;clear ha hz;go_enter func13,ntmps13
 go_wp2_with(first|(go_at_call 34;refine HR.out.mono ?_;rintro e w1 ⟨rfl,ho⟩;have HO:Hid (Calls prog 33 #[.pointer (some ⟨W.heap.size,0,none⟩),_,_,_] w1 _):=ho;clear ho)|(go_at_call 33;refine HO.out.mono ?_;rintro e w4 ⟨rfl,pv2,p2,hg,-⟩;have hf:Hid (LA W w4 W.heap.size 0 [p1,p2] pv2 _ _ _ _):=hg;clear hg;obtain⟨pg,pc,rfl,hj,hp,he,ht⟩:=aU hf.out h3.out.1 h3.out.2.1 h3.out.2.2.1 h3.out.2.2.2;have hd:Hid (Calls prog 24 #[.pointer (some ⟨p1.gb,0,none⟩),.slice (some ⟨w4.heap.size,0,none⟩) 2 2] (w4.alloc (.cells (qg vW).toArray 9)) _):=ht _ ((Ou _ _).alloc (Uc _) _) (qn w4 (qg vW) _);clear ht;have h6:=ct hj;have h9:=ct hp;have h8:=ct he)|(go_at_call 33;refine HO.out.mono ?_;rintro e w2 ⟨rfl,pv1,p1,h0,hu⟩;have h3:Hid (p1.xs=jd/\p1.now=[]/\p1.g.ver=0/\p1.g.cl=false):=hu;clear hu;have HR:Hid (Calls prog 34 #[] _ _):=kF h0 (by decide) (by simp) 1 1 bP;clear h0)|(go_at_call 24;refine hd.out.mono ?_;rintro e w6 ⟨rfl,hy,hC,hA,hs⟩;have h5:Hid (∀w7,Below w6.heap.size w6 w7->Calls prog 35 #[.pointer (some ⟨p1.rb,0,none⟩),.slice (some ⟨w4.heap.size,0,none⟩) 2 2] w7 _):=hs;clear hs)|(go_at_call 35;refine(h5.out _ bl).mono ?_;rintro e w8 ⟨rfl,L8,hq,hi⟩;have h4:Hid (LA W w8 W.heap.size 1 L8 _ _ _ _ _/\L8.length=2):=⟨hq,hi⟩;clear hq hi))
 go_loopw [12] (λi wr=>G9 W n i wr) (λi _=>n-(intOf i).toNat)
 case atStart=>exact⟨0,L8,_,_,_,_,_,Um _,rfl,h4.out.1,by rw[h4.out.2];exact Uc _,by rw[h4.out.2];exact Uc _,Um _⟩
 case round=>
  obtain⟨k,L,pv,l1,l3,us,ws,hk,rfl,hI,hJ,hG,hL⟩:=hrel;clear h4 HR HO h3 hf hd h5 hj hp he h6 h9 h8 hy hC hA;by_cases hlt:k<n
  ·obtain⟨r,hr⟩: ∃r,ops[k]?=some r:=⟨_,OC (by rw[h7.out];exact hlt)⟩
   obtain⟨⟨a0,a1,a2,a3,a4,a5⟩,hn⟩:=hc.out k r hr;have b0:=(hI.below.cell hb).trans a0;have b1:=(hI.below.cell hb).trans a1;have b2:=(hI.below.cell hb).trans a2;have b3:=(hI.below.cell hb).trans a3;have b4:=(hI.below.cell hb).trans a4;have b5:=(hI.below.cell hb).trans a5;have hm:Hid (Calls prog 36 #[.pointer (some ⟨W.heap.size,0,none⟩),opV r.k r.g r.n r.m r.s r.tv,.int .i64 12] wr _):=XA HN hv h5 hB hI (by omega) (by omega) (by omega) (by omega) (by omega) (by omega) r hn
   clear a0 a1 a2 a3 a4 a5 hn hI;unfold opV at hm
   go_wp2_with(first|(go_at_call 36;refine hm.out.mono ?_;rintro e w2 ⟨rfl,L2,pv2,q1,q3,us2,ws2,h0,hK,hE,hF⟩;have hx:Hid (Calls prog 37 #[.pointer (some ⟨W.heap.size,0,none⟩)] w2 _):=Q5 h0 (by omega);have hD:Hid (LA W w2 W.heap.size (1+k+1) L2 pv2 q1 q3 us2 ws2):=h0;clear h0)|(go_at_call 37;refine hx.out.mono ?_;rintro e w3 ⟨rfl,rfl⟩))
   go_roundw
   case rel=>exact⟨k+1,L2,pv2,q1,q3,us2,ws2,by omega,by go_num,by have:=hD.out;rw[Int.add_assoc]at this;exact this,by omega,by omega,by omega⟩
   case measure=>simp[intOf];omega
  ·obtain rfl:k=n:=by omega
   have HB:Hid (Below W.heap.size W wr):=hI.below;clear hI;go_wp2;go_ret;exact⟨rfl,HB.out⟩
