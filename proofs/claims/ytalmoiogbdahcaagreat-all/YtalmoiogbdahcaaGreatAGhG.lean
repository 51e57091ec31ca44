import Derived.Test.YtalmoiogbdahcaaGreatAGhD
import Derived.Test.YtalmoiogbdahcaaGreatAGhE
import Derived.Test.YtalmoiogbdahcaaGreatALckA
open Go.Proofs.Tryz
namespace Go.Proofs.YtalmoiogbdahcaaGreat
set_option maxRecDepth 100000
set_option maxHeartbeats 8000000
open Go.RowKit Go.MuLone
theorem Jv(rs:List (BA×BA)): ∀(xs now:List BA) (i k:Nat) (x:BA),(∀(j:Nat) (y:BA),j<k->xs[j]?=some y->xk rs y=0)->xs[k]?=some x->xk rs x≠0->zJ rs now i xs=.inl (i+k,xk rs x):=by
 intro xs
 induction xs with
 |nil=>intro now i k x _ hx;simp at hx
 |cons y xs ih=>
  intro now i k x h hx hf;rw[zJ];cases k with
  |zero=>simp at hx;subst hx;rw[if_neg hf];rfl
  |succ k=>
   rw[if_pos (h 0 y (by omega) rfl),ih _ (i+1) k x (λj z hj hz=>h (j+1) z (by omega) (by simpa using hz)) (by simpa using hx) hf]
   congr 2;omega
theorem Jw(rs:List (BA×BA)): ∀(xs now:List BA) (i:Nat),(∀(j:Nat) (y:BA),xs[j]?=some y->xk rs y=0)->zJ rs now i xs=.inr (xs.foldl yH now):=by
 intro xs
 induction xs with
 |nil=>intro now i _;rfl
 |cons y xs ih=>
  intro now i h;rw[zJ,if_pos (h 0 y rfl),ih _ (i+1) (λj z hz=>h (j+1) z (by simpa using hz))];rfl
def uI(w:World)(b:Nat)(g:Pg)(r:Sum (Nat×Int) (List BA))(e:Ending)(w':World):Prop:=
 w.grownBy w' (some b)/\match r with
 | .inl (i,f)=>e=.returned (.tuple #[.int .i64 0,.int .i64 i,.int .i64 f])/\zU w' b g
 | .inr ys=>if 50<ys.length then e=.returned (.tuple #[.int .i64 0,.int .i64 0,.int .i64 6])/\zU w' b g
   else∃v,e=.returned (.tuple #[.int .i64 (g.ver+1),.int .i64 0,.int .i64 0])/\zU w' b {g with tv:=v,ver:=g.ver+1}/\w'.ownsRow w.heap.size 9 1 v ys.length (qg ys)
variable{b:Nat}{g:Pg}{w:World}
theorem yV(h:zU w b g)(n:Int):zU (w.setCell ⟨b,0,none⟩ (.int .i32 n)) b {g with lk:=n}:=qL h 0 _
variable{w':World}
theorem yr(h:zU w b g)(hb:Below w.heap.size w w'):zU w' b g:=by
 unfold zU at h ⊢;rw[hb.block b (qc h)];exact h
variable{v:Value}{xs:List BA}
theorem oD(h:qE w v xs)(hn: ∀a n c,v=.slice (some a) n c->a.block≠b)(hk:w.grownBy w' (some b)):qE w' v xs:=by
 rcases h with h|⟨bk,off,cap,rfl,hc⟩
 ·exact Or.inl h
 ·refine Or.inr ⟨bk,off,cap,rfl,λi x hx=>?_⟩
  have h1:=hc i x hx;rw[←h1];exact(zR hk).1 bk (off+i) (qp h1) (hn _ _ _ rfl)
variable{t:TypeId}
theorem Jy{Gd:Value->Prop}{mb:Nat}{m:List (Value×Value)}{cs:List Value}(h:zt w Gd mb m)(hb:w.heap[b]?=some (.cells cs.toArray t (0,0)))(hk:w.grownBy w' (some b)):zt w' Gd mb m:=by
 refine h.move (hk.block mb h.lt ?_);intro e;injection e with e;subst e;obtain⟨es,c,h1,-⟩:=h;rw[h1]at hb;cases hb
theorem bJ(b:Nat)(g:Pg)(m:List (Value×Value))(rs:List (BA×BA))(now xs:List BA)(bb off cap:Nat)(w:World)(hg:zU w b g)(hF:g.lk=0)(hE:g.cl=false)(ha:kW m)(hm:zt w yX g.mb m)(hf: ∀s,faultG m s=xk rs s)
  (h6:qE w g.tv now) (hs:zy now) (hP:now.length<=50) (hL: ∀a n c,g.tv=.slice (some a) n c->a.block≠b)
  (ht: ∀i x,xs[i]?=some x->w.cell? ⟨bb,off+i,none⟩=some (.string x)) (hO:bb≠b) (hR:xs.length<=20) (hM: ∀x∈xs,x.size<=140737488355328) (h8:0<=g.ver/\g.ver<=4611686018427387904):
  Calls prog 24 #[.pointer (some ⟨b,0,none⟩),.slice (some ⟨bb,off,none⟩) xs.length cap] w (uI w b g (zJ rs now 0 xs)):=by
 obtain⟨lk,mb,tv,ver,dk,cl⟩:=g;dsimp only at hF hE hm h6 hL h8;subst hF hE;obtain⟨n,hn⟩: ∃n,xs.length=n:=⟨_,rfl⟩;have HX:Hid (xs.length=n):=hn;rw[hn]at hR ⊢;clear hn;have h0:=qa hg (j:=0) rfl;have f0:=qd hg 0;have hQ:decide (20<(n:Int))=false:=by simp;omega
 go_enter_defers func24,ntmps24
 go_wp2_with(go_at_call 51;refine(lock_free Tryz.muLib ⟨b,0,none⟩ _ h0 f0).mono ?_;rintro e w1 ⟨rfl,hq⟩;have h5:zU w1 b ⟨1,mb,tv,ver,dk,false⟩:=(by rw[hq];exact yV hg 1);have hi:w.grownBy w1 (some b):=(by rw[hq];exact zf (xD _ _) _ _);clear hq;have c5:=qa h5 (j:=6) rfl;have c3:=qa h5 (j:=3) rfl;have c4:=qa h5 (j:=4) rfl;have z3:=qd h5 3;have z4:=qd h5 4)
 have hJ:zt w1 yX mb m:=Jy hm hg hi;have h3:qE w1 tv now:=oD h6 hL hi;have hc: ∀i x,xs[i]?=some x->w1.cell? ⟨bb,off+i,none⟩=some (.string x):=λi x hx=>((zR hi).1 bb (off+i) (qp (ht i x hx)) hO).trans (ht i x hx);have HW:Hid (zU w1 b ⟨1,mb,tv,ver,dk,false⟩/\w.grownBy w1 (some b)/\zt w1 yX mb m/\qE w1 tv now/\ ∀i x,xs[i]?=some x->w1.cell? ⟨bb,off+i,none⟩=some (.string x)):=⟨h5,hi,hJ,h3,hc⟩;clear h5 hi hJ h3 hc hm h6 ht hg h0 f0 hQ c3 c4 c5 z3 z4
 go_loopw [27] (λi wr=> ∃(k:Nat),k<=n/\i=.int .i64 k/\Below w1.heap.size w1 wr/\ ∀(j:Nat) (y:BA),j<k->xs[j]?=some y->xk rs y=0) (λi _=>n-(intOf i).toNat)
 case atStart=>exact⟨0,Um _,rfl,Ou _ _,λj y hj=>by omega⟩
 case round=>
  obtain⟨k,hk,rfl,hb,hG⟩:=hrel;have hl:Hid (∀(j:Nat) (y:BA),j<k->xs[j]?=some y->xk rs y=0):=hG;have HB:Hid (Below w1.heap.size w1 wr):=hb;have h7:Hid (zU wr b ⟨1,mb,tv,ver,dk,false⟩):=yr HW.out.1 hb;clear hG hb;by_cases hlt:k<n
  ·have hC:k<xs.length:=by have:=HX.out;omega
   obtain⟨x,hx⟩: ∃x,xs[k]=x:=⟨_,rfl⟩;have hp:xs[k]?=some x:=by rw[OC hC,hx]
   have hu:=HW.out.2.2.2.2 k x hp;have hX:wr.cell? ⟨bb,off+k,none⟩=some (.string x):=by rw[←hu];exact HB.out.cell (qp hu)
   have he:Hid (Calls prog 53 #[.pointer (some ⟨b,0,none⟩),.string x] wr λe w'=>e=.returned (.int .i64 (faultG m x))/\Below wr.heap.size wr w'):=ww b _ m ha x (hM x (OZ hp)) wr h7.out (HW.out.2.2.1.move (HB.out.block _ HW.out.2.2.1.lt));rw[hf x]at he;have hK:Hid (xs[k]?=some x):=hp;clear hC hx hp hu;by_cases hz:xk rs x=0
   ·have hr:Hid (∀(j:Nat) (y:BA),j<k+1->xs[j]?=some y->xk rs y=0):=by
     intro j y hj hy;by_cases e:j=k
     ·subst e;rw[hK.out]at hy;injection hy with hy;subst hy;exact hz
     ·exact hl.out j y (by omega) hy
    rw[hz]at he;clear hz
    go_wp2_with(go_at_call 53;refine he.out.mono ?_;rintro e w2 ⟨rfl,ho⟩)
    go_roundw
    case rel=>exact⟨k+1,by omega,by go_num,HB.out.trans (ho.mono HB.out.size),hr.out⟩
    case measure=>simp[intOf];omega
   ·have h4:Hid (zJ rs now 0 xs=.inl (k,xk rs x)):=by
     show _=_
     rw[Jv rs xs now 0 k x hl.out hK.out hz,Ul]
    obtain⟨f,hI⟩: ∃f,xk rs x=f:=⟨_,rfl⟩;rw[hI]at hz he h4;have hV:(f !=0)=true:=by simpa using hz
    rw[h4.out];clear hz hI h4
    go_wp2_with(go_at_call 53;refine he.out.mono ?_;rintro e w2 ⟨rfl,ho⟩)
    have hB:=yr h7.out ho;refine leaves_cons (f:=52) (args:= #[.pointer (some ⟨b,0,none⟩)]) (by simp) (by simp[go_sem]) ?_
    refine(unlock_deferred Tryz.muLib ⟨b,0,none⟩ .returning _ (qa hB (j:=0) rfl) (qd hB 0)).mono ?_;rintro e u' w3 ⟨rfl,rfl,rfl⟩;refine⟨.tuple #[.int .i64 0,.int .i64 k,.int .i64 f],by simp[results,results24,go_sem],zf (qr HW.out.2.1 (yO (HB.out.trans (ho.mono HB.out.size)))) _ _,rfl,yV hB 0⟩
  ·obtain rfl:k=n:=by omega
   have h4:Hid (zJ rs now 0 xs=.inr (xs.foldl yH now)):=Jw rs xs now 0 λj y hy=>hl.out j y (by have:=(OE.1 hy).1;have:=HX.out;omega) hy
   have hD:Hid (Calls prog 54 #[tv,.slice (some ⟨bb,off,none⟩) k cap] wr λe w'=> ∃v,e=.returned v/\w'.ownsRow wr.heap.size 9 1 v (xs.foldl yH now).length (qg (xs.foldl yH now))/\Below wr.heap.size wr w'):=by
    have:=wz tv now xs bb off cap wr (xg HW.out.2.2.2.1 HB.out) hs hP (λi x hx=>(HB.out.cell (qp (HW.out.2.2.2.2 i x hx))).trans (HW.out.2.2.2.2 i x hx)) (by have:=HX.out;omega) hM (λx hx=>by
     obtain⟨j,hj⟩:=OX.1 hx;have hz:=hl.out j x (by have:=(OE.1 hj).1;have:=HX.out;omega) hj
     unfold xk at hz;by_cases h:x.size=0\/(qR x 0≠43/\qR x 0≠45)
     ·rw[if_pos h]at hz;cases hz
     ·refine⟨λe=>h (Or.inl e),?_⟩
      by_cases h43:qR x 0=43
      ·exact Or.inl h43
      ·right
       by_cases h45:qR x 0=45
       ·exact h45
       ·exact absurd (Or.inr ⟨h43,h45⟩) h)
    rw[HX.out]at this;exact this
   rw[h4.out];have c3:=qa h7.out (j:=3) rfl;have c4:=qa h7.out (j:=4) rfl;have hN:(xs.foldl yH now).length<=1000:=by
    have key: ∀(l acc:List BA),(l.foldl yH acc).length<=acc.length+l.length:=by
     intro l
     induction l with
     |nil=>intro acc;simp
     |cons y l ih=>intro acc;have:=ih (yH acc y);have h2:=ab acc (y.extract 1 y.size) (decide (qR y 0=43));simp only[List.foldl_cons,OL];unfold yH at this ⊢;omega
    have:=key xs now;have:=HX.out;omega
   generalize xs.foldl yH now=ys at *;by_cases h50:50<ys.length
   ·go_wp2_with(go_at_call 54;refine hD.out.mono ?_;rintro e w5 ⟨v5,rfl,h9,hd⟩;obtain⟨vx,vc,rfl⟩:=qz h9;have h1:=yr h7.out hd)
    refine leaves_cons (f:=52) (args:= #[.pointer (some ⟨b,0,none⟩)]) (by simp) (by simp[go_sem]) ?_
    refine(unlock_deferred Tryz.muLib ⟨b,0,none⟩ .returning _ (qa h1 (j:=0) rfl) (qd h1 0)).mono ?_;rintro e u' w6 ⟨rfl,rfl,rfl⟩;refine⟨.tuple #[.int .i64 0,.int .i64 0,.int .i64 6],by simp[results,results24,go_sem],?_⟩
    rw[h4.out];refine⟨zf (qr HW.out.2.1 (yO (HB.out.trans (hd.mono HB.out.size)))) _ _,?_⟩;show if 50<ys.length then _ else _
    rw[if_pos h50];exact⟨rfl,yV h1 0⟩
   ·obtain⟨v1,v2⟩:=h8
    go_wp2_with(go_at_call 54;refine hD.out.mono ?_;rintro e w5 ⟨v5,rfl,h9,hd⟩;obtain⟨vx,vc,rfl⟩:=qz h9;have h1:=yr h7.out hd;have d3:=qa h1 (j:=3) rfl;have d4:=qa h1 (j:=4) rfl;have z3:=qd h1 3;have z4:=qd h1 4)
    have hA:zU ((w5.setCell ⟨b,3,none⟩ (.slice vx ys.length vc)).setCell ⟨b,4,none⟩ (.int .i64 (ver+1))) b ⟨1,mb,.slice vx ys.length vc,ver+1,dk,false⟩:=qL (qL h1 3 _) 4 _;refine leaves_cons (f:=52) (args:= #[.pointer (some ⟨b,0,none⟩)]) (by simp) (by simp[go_sem]) ?_
    refine(unlock_deferred Tryz.muLib ⟨b,0,none⟩ .returning _ (qa hA (j:=0) rfl) (qd hA 0)).mono ?_;rintro e u' w6 ⟨rfl,rfl,rfl⟩;refine⟨.tuple #[.int .i64 (ver+1),.int .i64 0,.int .i64 0],by simp[results,results24,go_sem],?_⟩
    rw[h4.out];refine⟨zf (zf (zf (qr HW.out.2.1 (yO (HB.out.trans (hd.mono HB.out.size)))) _ _) _ _) _ _,?_⟩;show if 50<ys.length then _ else _
    rw[if_neg h50];refine⟨_,rfl,yV hA 0,?_⟩;have hT:b<wr.heap.size:=qc h7.out;have hS:w.heap.size<=wr.heap.size:=Ue HW.out.2.1.size HB.out.size;refine qF (xM h9 hS) λg hg=>?_;have hU:=(qf h9 g hg).2.1;have hv: ¬g=b:=by omega
    rw[Ot _ _ _ _ hv,Ot _ _ _ _ hv,Ot _ _ _ _ hv]
theorem bK(b:Nat)(g:Pg)(x:Option Addr)(n c:Nat)(w:World)(hg:zU w b g)(h4:g.lk=0)(h3:g.cl=false)(hn:20<n)(hl:n<=maxLen):
  Calls prog 24 #[.pointer (some ⟨b,0,none⟩),.slice x n c] w λe w'=>e=.returned (.tuple #[.int .i64 0,.int .i64 0,.int .i64 6])/\zU w' b g/\w.grownBy w' (some b):=by
 obtain⟨lk,mb,tv,ver,dk,cl⟩:=g;dsimp only at h4 h3;subst h4 h3;unfold maxLen at hl;have h0:=qa hg (j:=0) rfl;have f0:=qd hg 0;go_enter_defers func24,ntmps24
 go_wp2_with(go_at_call 51;refine(lock_free Tryz.muLib ⟨b,0,none⟩ _ h0 f0).mono ?_;rintro e w1 ⟨rfl,h2⟩;have h1:zU w1 b ⟨1,mb,tv,ver,dk,false⟩:=(by rw[h2];exact yV hg 1);have h5:w.grownBy w1 (some b):=(by rw[h2];exact zf (xD _ _) _ _);clear h2;have c5:=qa h1 (j:=6) rfl)
 refine leaves_cons (f:=52) (args:= #[.pointer (some ⟨b,0,none⟩)]) (by simp) (by simp[go_sem]) ?_
 refine(unlock_deferred Tryz.muLib ⟨b,0,none⟩ .returning _ (qa h1 (j:=0) rfl) (qd h1 0)).mono ?_;rintro e u' w6 ⟨rfl,rfl,rfl⟩;exact⟨.tuple #[.int .i64 0,.int .i64 0,.int .i64 6],by simp[results,results24,go_sem],rfl,yV h1 0,zf h5 _ _⟩
theorem wE(tv:Value)(now:List BA)(w:World)(h0:qE w tv now)(h5:now.length<=50):
  Calls prog 54 #[tv,.slice none 0 0] w λe w'=> ∃v,e=.returned v/\w'.ownsRow w.heap.size 9 1 v now.length (qg now)/\Below w.heap.size w w':=by
 have h1:Calls prog 49 #[tv] w λe w'=> ∃v,e=.returned v/\w'.ownsRow w.heap.size 9 1 v now.length (qg now)/\Below w.heap.size w w':=by
  rcases h0 with⟨rfl,rfl⟩|⟨b0,o0,c0,rfl,h2⟩
  ·refine(dm w).mono ?_
   rintro e w' ⟨rfl,rfl⟩;exact⟨_,rfl,World.ownsRow_nil _ _ _ _,Ou _ _⟩
  ·refine(dl b0 o0 c0 now w h2 (by omega)).mono ?_
   rintro e w' ⟨g,c,rfl,ho,hb⟩;exact⟨_,rfl,ho,hb⟩
 go_enter func54,ntmps54
 go_wp2_with(go_at_call 49;refine h1.mono ?_;clear h1;rintro e w1 ⟨v1,rfl,h3,h4⟩)
 refine wp_loop_rounds 1 ?_;rw[rounds_succ];go_wp2;go_ret;exact⟨_,rfl,h3,h4⟩
theorem wF(b:Nat)(g:Pg)(now:List BA)(rs:List (BA×BA))(w:World)(hg:zU w b g)(hb:g.lk=0)(ha:g.cl=false)
  (h4:qE w g.tv now) (hi:now.length<=50) (hd: ∀a n c,g.tv=.slice (some a) n c->a.block≠b) (h1:0<=g.ver/\g.ver<=4611686018427387904):
  Calls prog 24 #[.pointer (some ⟨b,0,none⟩),.slice none 0 0] w (uI w b g (zJ rs now 0 [])):=by
 obtain⟨lk,mb,tv,ver,dk,cl⟩:=g;dsimp only at hb ha h4 hd h1;subst hb ha;obtain⟨v1,v2⟩:=h1;have h0:=qa hg (j:=0) rfl;have f0:=qd hg 0;go_enter_defers func24,ntmps24
 go_wp2_with(go_at_call 51;refine(lock_free Tryz.muLib ⟨b,0,none⟩ _ h0 f0).mono ?_;rintro e w1 ⟨rfl,h5⟩;have h2:zU w1 b ⟨1,mb,tv,ver,dk,false⟩:=(by rw[h5];exact yV hg 1);have h8:w.grownBy w1 (some b):=(by rw[h5];exact zf (xD _ _) _ _);clear h5;have c5:=qa h2 (j:=6) rfl;have c3:=qa h2 (j:=3) rfl;have c4:=qa h2 (j:=4) rfl)
 have he:Hid (Calls prog 54 #[tv,.slice none 0 0] w1 λe w'=> ∃v,e=.returned v/\w'.ownsRow w1.heap.size 9 1 v now.length (qg now)/\Below w1.heap.size w1 w'):=wE tv now w1 (oD h4 hd h8) hi;have hf: ¬50<now.length:=by omega
 refine wp_loop_rounds 1 ?_;rw[rounds_succ]
 go_wp2_with(go_at_call 54;refine he.out.mono ?_;rintro e w5 ⟨v5,rfl,h6,hc⟩;obtain⟨vx,vc,rfl⟩:=qz h6;have h3:=yr h2 hc;have d3:=qa h3 (j:=3) rfl;have d4:=qa h3 (j:=4) rfl;have z3:=qd h3 3;have z4:=qd h3 4)
 have h9:zU ((w5.setCell ⟨b,3,none⟩ (.slice vx now.length vc)).setCell ⟨b,4,none⟩ (.int .i64 (ver+1))) b ⟨1,mb,.slice vx now.length vc,ver+1,dk,false⟩:=qL (qL h3 3 _) 4 _;refine leaves_cons (f:=52) (args:= #[.pointer (some ⟨b,0,none⟩)]) (by simp) (by simp[go_sem]) ?_
 refine(unlock_deferred Tryz.muLib ⟨b,0,none⟩ .returning _ (qa h9 (j:=0) rfl) (qd h9 0)).mono ?_;rintro e u' w6 ⟨rfl,rfl,rfl⟩;refine⟨.tuple #[.int .i64 (ver+1),.int .i64 0,.int .i64 0],by simp[results,results24,go_sem],?_⟩
 refine⟨zf (zf (zf (qr h8 (yO hc)) _ _) _ _) _ _,?_⟩;show if 50<now.length then _ else _
 rw[if_neg hf];refine⟨_,rfl,yV h9 0,?_⟩;have hj:b<w1.heap.size:=qc h2;refine qF (xM h6 h8.size) λg hg=>?_;have hk:=(qf h6 g hg).2.1;have h7: ¬g=b:=by omega
 rw[Ot _ _ _ _ h7,Ot _ _ _ _ h7,Ot _ _ _ _ h7]
theorem oE(b:Nat)(g:Pg)(w:World)(hg:zU w b g)(h3:g.lk=0):
  Calls prog 50 #[.pointer (some ⟨b,0,none⟩)] w λe w'=>e=.returned g.tv/\zU w' b g/\w.grownBy w' (some b):=by
 obtain⟨lk,mb,tv,ver,dk,cl⟩:=g;dsimp only at h3;subst h3;have h0:=qa hg (j:=0) rfl;have f0:=qd hg 0;go_enter_defers func50,ntmps50
 go_wp2_with(go_at_call 51;refine(lock_free Tryz.muLib ⟨b,0,none⟩ _ h0 f0).mono ?_;rintro e w1 ⟨rfl,h2⟩;have h1:zU w1 b ⟨1,mb,tv,ver,dk,cl⟩:=(by rw[h2];exact yV hg 1);have h4:w.grownBy w1 (some b):=(by rw[h2];exact zf (xD _ _) _ _);clear h2;have c3:=qa h1 (j:=3) rfl)
 refine leaves_cons (f:=52) (args:= #[.pointer (some ⟨b,0,none⟩)]) (by simp) (by simp[go_sem]) ?_
 refine(unlock_deferred Tryz.muLib ⟨b,0,none⟩ .returning _ (qa h1 (j:=0) rfl) (qd h1 0)).mono ?_;rintro e u' w6 ⟨rfl,rfl,rfl⟩;exact⟨_,results_tmp rfl _ _ _,rfl,yV h1 0,zf h4 _ _⟩
theorem Zz(b:Nat)(g:Pg)(now:List BA)(w:World)(hg:zU w b g)(h8:g.lk=0)(h2:qE w g.tv now)(hc:now.length<=50)(h7: ∀a n c,g.tv=.slice (some a) n c->a.block≠b):
  Calls prog 23 #[.pointer (some ⟨b,0,none⟩)] w λe w'=> ∃v,e=.returned v/\w'.ownsRow w.heap.size 9 1 v now.length (qg now)/\zU w' b g/\w.grownBy w' (some b):=by
 have ha:=oE b g w hg h8;have h6:Hid (∀w1,qE w1 g.tv now->Calls prog 49 #[g.tv] w1 λe w'=> ∃v,e=.returned v/\w'.ownsRow w1.heap.size 9 1 v now.length (qg now)/\Below w1.heap.size w1 w'):=by
  intro w1 h1;obtain⟨v,hv⟩: ∃v,g.tv=v:=⟨_,rfl⟩;rw[hv]at h1 ⊢;rcases h1 with⟨rfl,rfl⟩|⟨b0,o0,c0,rfl,h4⟩
  ·refine(dm w1).mono ?_
   rintro e w' ⟨rfl,rfl⟩;exact⟨_,rfl,World.ownsRow_nil _ _ _ _,Ou _ _⟩
  ·refine(dl b0 o0 c0 now w1 h4 (by omega)).mono ?_
   rintro e w' ⟨g,c,rfl,ho,hb⟩;exact⟨_,rfl,ho,hb⟩
 go_enter func23,ntmps23
 go_wp2_with(first|(go_at_call 50;refine ha.mono ?_;rintro e w1 ⟨rfl,h9,h0⟩)|(go_at_call 49;refine(h6.out _ (oD h2 h7 h0)).mono ?_;rintro e w2 ⟨v2,rfl,h5,h3⟩))
 go_ret;exact⟨_,rfl,xM h5 h0.size,yr h9 h3,qr h0 (yO h3)⟩
open Go.RowKit
structure PS where
 pb:Nat
 gb:Nat
 rb:Nat
 g:Pg
 r:Rg
 xs:List BA
 now:List BA
 m:List (Value×Value)
 lo:Nat
def pU(rs:List (BA×BA))(s:BA):Prop:=y8 s=true/\(qD rs (qX s 64)).size≠0/\(xt (qS s 64)=true->(qD rs (qS s 64)).size≠0)
structure PairOk(w:World)(B:Nat)(V:Int)(p:PS):Prop where
 pair:w.heap[p.pb]?=some (.cells [Value.pointer (some ⟨p.gb,0,none⟩),.pointer (some ⟨p.rb,0,none⟩)].toArray 65 (0,0))
 pg:zU w p.gb p.g
 rg:xX w p.rb p.r
 map:zt w yX p.g.mb p.m
 rmap:RMap w p.lo p.xs p.m
 rules:w.ownsRow p.lo 163 2 p.r.rulesV (qh p.xs).length (flR (qh p.xs))
 okx:xN p.xs=none
 few:p.xs.length<=12
 tv:zH w p.g.tv p.now
 nv:zH w p.r.nowV p.now
 sorted:zy p.now
 nl:p.now.length<=50
 tup: ∀s∈p.now,pU (qh p.xs) s
 lk:p.g.lk=0
 cl:p.g.cl=false
 rcl:p.r.closed=false
 ver:p.g.ver=p.r.version
 ver0:0<=p.g.ver
 verV:p.g.ver<=V
 gB:B<=p.gb
 rB:B<=p.rb
structure LSt(W w:World)(wb:Nat)(V:Int)(L:List PS)(pv l1 l3:Value)(us ws:List Value):Prop where
 lw:ue w wb pv l1 l3
 op:w.ownsRow (wb+1) 66 1 pv L.length (L.map λp=>Value.pointer (some ⟨p.pb,0,none⟩))
 o1:w.ownsRow (wb+1) 28 1 l1 us.length us
 o3:w.ownsRow (wb+1) 28 1 l3 ws.length ws
 sep: ∀k,l1.ownBlock=some k->l3.ownBlock≠some k
 pairs: ∀p∈L,PairOk w W.heap.size V p
 gnd:(L.map (·.gb)).Nodup
 rnd:(L.map (·.rb)).Nodup
 three:ws.length=3 * us.length
 full1: ∀(k:Nat) (u:Value),us[k]?=some u->uN w u (zr k)
 full3: ∀(k j:Nat) (u:Value),k<us.length->j<3->ws[3 * k+j]?=some u->uf w u (zr k)
 below:Below W.heap.size W w
 wbB:W.heap.size<=wb
variable{c:Int}{k:Nat}
theorem bL(h:xN xs=some (k,c)):c≠0:=by
 unfold xN at h;obtain⟨j,-,hj⟩:=List.exists_of_findSome?_eq_some h;obtain⟨c',hc,e⟩:=Un.1 hj;injection e with _ e;subst e;unfold yy at hc;split at hc
 ·cases hc
 ·split at hc
  ·injection hc with hc;omega
  ·split at hc
   ·injection hc with hc;omega
   ·cases hc
theorem Tryz.infoPP:(prog.info? 66).map (λi=>(i.zero,i.size,i.bytes))=some (some (.pointer none),1,8):=by kernel_rfl
def zB(xs:List BA)(wk qu:Int):Option (Nat×Int):=if zY xs.length wk qu then some (0,1)else xN xs
variable{qu wk:Int}
theorem cq(h:zB xs wk qu=some (k,c)):c≠0:=by
 unfold zB at h;split at h
 ·injection h with h;injection h with _ h;omega
 ·exact bL h
theorem pV(v:Value)(xs:List BA)(wk qu:Int)(w:World)(h:qE w v xs)(hl:xs.length<=maxLen)(hr:zB xs wk qu=some (k,c)):
  Calls prog 26 #[v,.int .i64 wk,.int .i64 qu] w λe w'=>e=.returned (.tuple #[.pointer none,.int .i64 k,.int .i64 c])/\Below w.heap.size w w':=by
 refine(lr v xs wk qu w h hl).mono ?_;rintro e w' ⟨hb,⟨h1,rfl⟩|⟨h1,⟨k',c',h2,rfl⟩|⟨h2,-⟩⟩⟩<;>unfold zB at hr<;>rw[h1]at hr
 ·injection hr with hr;injection hr with a b;subst a;subst b;exact⟨rfl,hb⟩
 ·simp only[Bool.false_eq_true,if_false]at hr
  rw[h2]at hr;injection hr with hr;injection hr with a b;subst a;subst b;exact⟨rfl,hb⟩
 ·simp only[Bool.false_eq_true,if_false]at hr
  rw[h2]at hr;cases hr
theorem a8(v:Value)(xs:List BA)(wk qu:Int)(w:World)(h:qE w v xs)(hl:xs.length<=maxLen)(h0: ∀x∈xs,x.size<=maxLen)(hr:zB xs wk qu=some (k,c)):
  Calls prog 70 #[v,.int .i64 wk,.int .i64 qu] w λe w'=>e=.returned (.tuple #[.pointer none,.int .i64 k,.int .i64 c])/\Below w.heap.size w w':=by
 refine(aZ v xs wk qu w h hl h0).mono ?_;rintro e w' ⟨hb,⟨h1,rfl⟩|⟨h1,⟨k',c',h2,rfl⟩|⟨h2,-⟩⟩⟩<;>unfold zB at hr<;>rw[h1]at hr
 ·injection hr with hr;injection hr with a b;subst a;subst b;exact⟨rfl,hb⟩
 ·simp only[Bool.false_eq_true,if_false]at hr
  rw[h2]at hr;injection hr with hr;injection hr with a b;subst a;subst b;exact⟨rfl,hb⟩
 ·simp only[Bool.false_eq_true,if_false]at hr
  rw[h2]at hr;cases hr
theorem oF(hr:zB xs wk qu=none):xN xs=none/\zY xs.length wk qu=false/\xs.length<=12:=by
 unfold zB at hr;cases h:zY xs.length wk qu
 ·rw[h]at hr
  refine⟨by simpa using hr,rfl,?_⟩
  unfold zY at h;simp at h;omega
 ·rw[h]at hr;cases hr
theorem cV{g:Nat}(h:zK w g xs)(hb:Below w.heap.size w w'):zK w' g xs:=by
 unfold zK at h ⊢;rw[hb.block g (qc h)];exact h
variable{ys:List BA}
theorem bM{g:Nat}{c:Nat}(h:zK w g (xs++ys)):qE w (.slice (some ⟨g,0,none⟩) xs.length c) xs:=by
 refine Or.inr ⟨g,0,c,rfl,λi x hx=>?_⟩;rw[Ul];refine qa h (x4 ?_);rw[Oz (OE.1 hx).1];exact hx
theorem XS(a:Addr)(w:World):
  ∃W2,(Builtin.copy_ #[28,28] 3 #[.slice (some ⟨w.heap.size,0,none⟩) 8 8,.slice (some a) 0 0]).run prog (w.alloc (.cells (madeCells #[.string {data:= #[]}] 8) 9))=.ok (goInt 0) W2/\
   zK W2 w.heap.size (List.replicate 8 uK)/\Below w.heap.size w W2:=by
 have hg:(w.alloc (.cells (madeCells #[.string {data:= #[]}] 8) 9)).heap[w.heap.size]?=some (.cells (qg (List.replicate 8 uK)).toArray 9 (0,0)):=by
  rw[show madeCells #[Value.string {data:= #[]}] 8=madeCells #[Value.string {data:= #[]}] (0+8)from rfl,sT];show(w.heap.push _)[w.heap.size]?=_
  simp
 refine⟨_,?_,hg,(Ou _ _).alloc (Uc _) _⟩;simp[Builtin.copy_,run_underlying underlying28,go_sem]
theorem dH(a:Addr)(w:World):
  Calls prog 68 #[.slice (some a) 0 0] w λe w'=>e=.returned (.slice (some ⟨w.heap.size,0,none⟩) 8 8)/\zK w' w.heap.size (List.replicate 8 zQ)/\Below w.heap.size w w':=by
 have h3:=run_make_row' (P:=prog) 28 9 (.string {data:= #[]}) 16 underlying28 Tryz.infoStr rfl .i64 .i64 8 (by omega) (by omega)
 have hq:=fun(w:World) (a:Option Addr) (n c n' c':Nat)=>Lib.run_eql_slice_nil (P:=prog) w 28 9 a n c n' c' underlying28;obtain⟨W2,h5,h0,h1⟩:=XS a w;have ec:((8:Nat):Int)=(8:Int):=rfl;rw[ec]at h3;clear ec;go_enter func68,ntmps68;go_wp2
 go_loopw [5] (λi wr=> ∃k:Nat,k<=8/\i=.int .i64 k/\zK wr w.heap.size (List.replicate k zQ++List.replicate (8-k) uK)/\Below w.heap.size w wr) (λi _=>8-(intOf i).toNat)
 case atStart=>exact⟨0,by omega,rfl,h0,h1⟩
 case round=>
  obtain⟨k,hk,rfl,hr,hb⟩:=hrel;clear h0 h1 h5 h3;by_cases hlt:k<8
  ·have h7:wr.cell? ⟨w.heap.size,k,none⟩=some (.string uK):=by
    refine qa hr (x4 ?_);rw[OA (by simp),OG,if_pos (by simp;omega)]
   have h6:wr.frozen? ⟨w.heap.size,k,none⟩=false:=qd hr _;have h4:zK (wr.setCell ⟨w.heap.size,k,none⟩ (.string zQ)) w.heap.size (List.replicate (k+1) zQ++List.replicate (8-(k+1)) uK):=by
    unfold zK at hr ⊢;rw[qL hr,gh]
    congr 4
    rw[List.set_append_right _ _ (by simp),ON,Uk,List.replicate_succ',Ov]
    congr 1
    rw[show 8-k=(8-(k+1))+1 by omega,List.replicate_succ];rfl
   have h2:=hb.setCell (p:=⟨w.heap.size,k,none⟩) (Uc _) (.string zQ);have HB:Hid (zK (wr.setCell ⟨w.heap.size,k,none⟩ (.string zQ)) w.heap.size (List.replicate (k+1) zQ++List.replicate (8-(k+1)) uK)/\Below w.heap.size w (wr.setCell ⟨w.heap.size,k,none⟩ (.string zQ))):=⟨h4,h2⟩;clear h4 h2 hr hb;go_wp2
   go_roundw
   case rel=>exact⟨k+1,by omega,by go_num,HB.out.1,HB.out.2⟩
   case measure=>simp[intOf];omega
  ·obtain rfl:k=8:=by omega
   go_wp2;go_ret;exact⟨rfl,by simpa using hr,hb⟩
theorem pW(a:Addr)(g:Nat)(w:World)(h0:zK w g (List.replicate 8 zQ)):
  Calls prog 69 #[.slice (some ⟨g,0,none⟩) 8 8,.slice (some a) 0 0] w λe w'=>e=.returned (.bool true)/\w.grownBy w' (some g):=by
 have HR:Hid (zK w g (List.replicate 0 jo++(List.replicate 8 zQ).drop 0)):=h0;clear h0;go_enter func69,ntmps69;go_wp2
 go_loopw [5] (λi wr=> ∃k:Nat,k<=8/\i=.int .i64 k/\zK wr g (List.replicate k jo++(List.replicate 8 zQ).drop k)/\w.grownBy wr (some g)) (λi _=>8-(intOf i).toNat)
 case atStart=>exact⟨0,by omega,rfl,HR.out,xD _ _⟩
 case round=>
  obtain⟨k,hk,rfl,hr,hb⟩:=hrel;by_cases hlt:k<8
  ·have h1:k<(List.replicate 8 zQ).length:=by simp;omega
   have h5:wr.cell? ⟨g,k,none⟩=some (.string zQ):=by
    refine qa hr (x4 ?_);rw[OA (by simp),ON,Uk,OB,Ua,OG,if_pos hlt]
   have h3:wr.frozen? ⟨g,k,none⟩=false:=qd hr _;have HB:Hid (zK (wr.setCell ⟨g,k,none⟩ (.string jo)) g (List.replicate (k+1) jo++(List.replicate 8 zQ).drop (k+1))/\w.grownBy (wr.setCell ⟨g,k,none⟩ (.string jo)) (some g)):=by
    refine⟨?_,zf hb k _⟩;unfold zK at hr ⊢;rw[qL hr,gh,fa _ _ h1]
   have h4:(zQ.toList==[109,97,114,107])=true:=by rw[show zQ.toList=[109,97,114,107] by rw[Lib.toList_data];rfl];rfl
   have h2: ¬(k:Int)<0:=by omega
   clear hr hb h1 HR;go_wp2
   go_roundw
   case rel=>exact⟨k+1,by omega,by go_num,HB.out.1,HB.out.2⟩
   case measure=>simp[intOf];omega
  ·obtain rfl:k=8:=by omega
   clear HR hr;go_wp2;go_ret;exact⟨rfl,hb⟩
theorem oG(a:Addr)(wk qu:Int)(w:World):Calls prog 70 #[.slice (some a) 0 0,.int .i64 wk,.int .i64 qu] w (iB [] wk qu w):=by
 cases hb:zY 0 wk qu
 ·have h0:=hb
  unfold zY at h0;simp at h0;obtain⟨k,rfl⟩: ∃k:Nat,wk=(k:Int):=⟨wk.toNat,by omega⟩
  have h6:=run_make_row' (P:=prog) 25 3 (.int .i64 0) 8 underlying25 Tryz.infoInt rfl .i64 .i64 k (by omega) (by omega)
  have HA:Hid (zY ([]:List BA).length k qu=false):=hb;have t2:decide ((k:Int)<1)=false:=by simp;omega
  have t3:decide (4<(k:Int))=false:=by simp;omega
  have t4:decide (qu<1)=false:=by simp;omega
  have t5:decide (6<qu)=false:=by simp;omega
  have h1:Hid (ROInv [] w k qu _ 0 (.slice none 0 0)):=ROInv.start [] w k qu;clear hb h0;go_enter func70,ntmps70;go_wp2;refine wp_loop_rounds 1 ?_;rw[rounds_succ];go_wp2;refine bodyPost_ret (v:=.tuple #[.pointer (some ⟨w.heap.size+1,0,none⟩),.int .i64 0,.int .i64 0]) (by simp[results,results70,go_sem]) rfl ⟨h1.out.below,Or.inr ⟨HA.out,Or.inr ⟨iA λj hj=>absurd hj (Uj j),w.heap.size+1,_,w.heap.size,k,rfl,Ud _,h1.out.gate,World.ownsRow_nil _ _ _ _,rfl,Uc _,h1.out.wrk⟩⟩⟩
 ·have HP:Hid (∀e,e=.returned (.tuple #[.pointer none,.int .i64 0,.int .i64 1])->iB [] wk qu w e w):=λe he=>⟨Ou _ _,Or.inl ⟨hb,he⟩⟩
  generalize iB [] wk qu w=post at *;unfold zY at hb;by_cases h2:wk<1
  ·clear hb
   go_enter func70,ntmps70;go_wp2;refine bodyPost_ret (v:=.tuple #[.pointer none,.int .i64 0,.int .i64 1]) (by simp[results,results70,go_sem]) rfl (HP.out _ rfl)
  ·by_cases h3:4<wk
   ·clear hb
    go_enter func70,ntmps70;go_wp2;refine bodyPost_ret (v:=.tuple #[.pointer none,.int .i64 0,.int .i64 1]) (by simp[results,results70,go_sem]) rfl (HP.out _ rfl)
   ·by_cases h4:qu<1
    ·clear hb
     go_enter func70,ntmps70;go_wp2;refine bodyPost_ret (v:=.tuple #[.pointer none,.int .i64 0,.int .i64 1]) (by simp[results,results70,go_sem]) rfl (HP.out _ rfl)
    ·have h5:6<qu:=by simp[h2,h3,h4]at hb;omega
     clear hb;go_enter func70,ntmps70;go_wp2;refine bodyPost_ret (v:=.tuple #[.pointer none,.int .i64 0,.int .i64 1]) (by simp[results,results70,go_sem]) rfl (HP.out _ rfl)
theorem mG(a:Addr)(wk qu:Int)(w:World)(hr:zB [] wk qu=some (k,c)):
  Calls prog 70 #[.slice (some a) 0 0,.int .i64 wk,.int .i64 qu] w λe w'=>e=.returned (.tuple #[.pointer none,.int .i64 k,.int .i64 c])/\Below w.heap.size w w':=by
 refine(oG a wk qu w).mono ?_;rintro e w' ⟨hb,⟨h1,rfl⟩|⟨h1,⟨k',c',h2,rfl⟩|⟨h2,-⟩⟩⟩<;>unfold zB at hr<;>rw[h1]at hr
 ·injection hr with hr;injection hr with a b;subst a;subst b;exact⟨rfl,hb⟩
 ·simp only[Bool.false_eq_true,if_false]at hr
  rw[h2]at hr;injection hr with hr;injection hr with a b;subst a;subst b;exact⟨rfl,hb⟩
 ·simp only[Bool.false_eq_true,if_false]at hr
  rw[h2]at hr;cases hr
theorem sO(w:World)(g c:Nat):qE w (.slice (some ⟨g,0,none⟩) 0 c) []:=Or.inr ⟨g,0,c,rfl,λi x hx=>by simp at hx⟩
def pX(w:World)(v:Value)(xs:List BA):Prop:=
 (v=.slice none 0 0/\xs=[])\/(∃a,v=.slice (some a) 0 0/\xs=[])\/ ∃b off cap,v=.slice (some ⟨b,off,none⟩) xs.length cap/\b<w.heap.size/\ ∀i x,xs[i]?=some x->w.cell? ⟨b,off+i,none⟩=some (.string x)
def jN(rs:List (BA×BA))(now xs:List BA):Sum (Nat×Int) (List BA):=if 20<xs.length then .inl (0,6)else zJ rs now 0 xs
def wrV(ver:Int):Sum (Nat×Int) (List BA)->Int
 | .inl _=>0
 | .inr ys=>if 50<ys.length then 0 else ver+1
def wrA:Sum (Nat×Int) (List BA)->Int
 | .inl (i,_)=>i
 | .inr _=>0
def wrE:Sum (Nat×Int) (List BA)->Int
 | .inl (_,f)=>f
 | .inr ys=>if 50<ys.length then 6 else 0
variable{now:List BA}
theorem wG(h:zy now)(s:BA):zy (yH now s):=by
 obtain⟨i,hi⟩:=gC h (s.extract 1 s.size);exact dM h hi _
theorem bN(rs:List (BA×BA)): ∀(xs now:List BA) (i:Nat) (ys:List BA),zy now->zJ rs now i xs=.inr ys->zy ys:=by
 intro xs
 induction xs with
 |nil=>intro now i ys h e;injection e with e;subst e;exact h
 |cons s l ih=>
  intro now i ys h e;unfold zJ at e;split at e
  ·exact ih _ _ _ (wG h s) e
  ·cases e
variable{rs:List (BA×BA)}
theorem XT(h:zy now)(e:jN rs now xs=.inr ys):zy ys:=by
 unfold jN at e;split at e
 ·cases e
 ·exact bN rs _ _ _ _ h e
theorem Jz(s:BA): ∀(xs:List BA) (q:Bool×List BA) (y:BA),y∈(xs.foldl (qC s) q).2->y∈q.2\/y∈xs\/y=s:=by
 intro xs
 induction xs with
 |nil=>intro q y h;exact Or.inl h
 |cons x xs ih=>
  intro q y h;rw[List.foldl_cons]at h;rcases ih _ _ h with h|h|h
  ·unfold qC at h
   dsimp only at h;rcases OS.1 h with h|h
   ·split at h
    ·rcases OS.1 h with h|h
     ·exact Or.inl h
     ·exact Or.inr (Or.inr (O3.1 h))
    ·exact Or.inl h
   ·split at h
    ·exact Or.inr (Or.inl (by rw[O3.1 h];exact OV ..))
    ·cases h
  ·exact Or.inr (Or.inl (OU _ h))
  ·exact Or.inr (Or.inr h)
variable{s:BA}
theorem XU{b:Bool}{y:BA}(h:y∈yN xs s b):y∈xs\/y=s:=by
 unfold yN at h;rcases OS.1 h with h|h
 ·rcases Jz s xs _ y h with h|h|h
  ·cases h
  ·exact Or.inl h
  ·exact Or.inr h
 ·split at h
  ·exact Or.inr (O3.1 h)
  ·cases h
theorem wH(h:xk rs s=0):pU rs (s.extract 1 s.size):=by
 unfold xk at h;split at h
 ·cases h
 ·split at h
  ·cases h
  ·rename_i h2
   split at h
   ·cases h
   ·rename_i h3
    refine⟨by simpa using h2,λe=>h3 (Or.inl e),λe1 e2=>h3 (Or.inr ⟨e1,e2⟩)⟩
theorem ZA(rs:List (BA×BA)): ∀(xs now:List BA) (i:Nat) (ys:List BA),(∀s∈now,pU rs s)->zJ rs now i xs=.inr ys-> ∀s∈ys,pU rs s:=by
 intro xs
 induction xs with
 |nil=>intro now i ys h e;injection e with e;subst e;exact h
 |cons s l ih=>
  intro now i ys h e;unfold zJ at e;split at e
  ·rename_i hf
   refine ih _ _ _ ?_ e;intro y hy;rcases XU hy with h1|h1
   ·exact h y h1
   ·rw[h1];exact wH hf
  ·cases e
theorem KZ(h: ∀s∈now,pU rs s)(e:jN rs now xs=.inr ys): ∀s∈ys,pU rs s:=by
 unfold jN at e;split at e
 ·cases e
 ·exact ZA rs _ _ _ _ h e
theorem rF{cs:Array Value}(h:zH w v xs)(hb:w.heap[b]?=some (.cells cs t (0,0)))(ht:t≠9): ∀a n c,v=.slice (some a) n c->a.block≠b:=by
 intro a n c e h0;rcases h with⟨rfl,-⟩|⟨b',cap,cur,rfl,hh,-⟩
 ·cases e
 ·injection e with e1 e2 e3
  injection e1 with e1;subst e1;dsimp only at h0;subst h0;rw[hb]at hh;injection hh with hh;injection hh with _ hh;exact ht hh
theorem GO{r:Sum (Nat×Int) (List BA)}{e:Ending}(h:uI w b g r e w'):e=.returned (.tuple #[.int .i64 (wrV g.ver r),.int .i64 (wrA r),.int .i64 (wrE r)]):=by
 obtain⟨-,h⟩:=h;rcases r with⟨i,f⟩|ys
 ·exact h.1
 ·dsimp only at h
  unfold wrV wrA wrE;split at h
  ·rename_i h5;dsimp only;rw[if_pos h5,if_pos h5];exact h.1
  ·rename_i h5;dsimp only;rw[if_neg h5,if_neg h5];obtain⟨v,h,-⟩:=h;exact h
def GP(w:World)(v:Value)(xs:List BA):Prop:=qE w v xs\/ ∃a,v=.slice (some a) 0 0/\xs=[]
def XV(w:World)(v:Value)(xs:List BA)(b:Nat):Prop:=
 (v=.slice none 0 0/\xs=[])\/ ∃bb off cap,v=.slice (some ⟨bb,off,none⟩) xs.length cap/\bb≠b/\ ∀i x,xs[i]?=some x->w.cell? ⟨bb,off+i,none⟩=some (.string x)
def opV(k g n m:Int)(s:BA)(tv:Value):Value:=.agg #[.int .i64 k,.int .i64 g,.int .i64 n,.int .i64 m,.string s,tv]
def opO(k g n m:Int)(s:BA)(tv:Value):Obj:=.cells #[.int .i64 k,.int .i64 g,.int .i64 n,.int .i64 m,.string s,tv] 69
def pY(W:World)(wb:Nat)(V:Int)(L:List PS)(us:List Value)(e:Ending)(w':World):Prop:=
 e=.returned (.bool true)/\ ∃L' pv' l1' l3' us' ws',LSt W w' wb (V+1) L' pv' l1' l3' us' ws'/\L.length<=L'.length/\L'.length<=L.length+1/\us'.length<=us.length+1
theorem ke{base:Nat}{us:List Value}(h:w.ownsRow base t 1 v us.length us):lE w v us:=by
 rcases h.2 with⟨hv,hn⟩|⟨g,cap,cur,hv,hg,hh,-,-,-,ht⟩
 ·exact Or.inl ⟨hv,Oy hn⟩
 ·refine Or.inr ⟨g,cap,hv,λi x hx=>?_⟩
  have hl:i<us.length:=(OE.1 hx).1;have h0:w.heap[g]?=some (.cells cur.toList.toArray t (0,0)):=by rw[Oo];exact hh
  refine qa h0 (j:=i) ?_;rw[Nat.mul_one]at ht;rw[←hx,←ht,List.getElem?_take,if_pos hl]
def vW:List BA:=[{data:= #[43,103,114,111,117,112,58,97,35,109,101,109,98,101,114,64,117,115,101,114,58,120]},{data:= #[43,100,111,99,58,49,35,114,101,97,100,101,114,64,103,114,111,117,112,58,97,35,109,101,109,98,101,114]}]
theorem bO:zB jd 2 3=none:=by decide +kernel
theorem bP:zB jd 1 1=none:=by decide +kernel
theorem wI:(match jN (qh jd) [] vW with| .inr ys=>decide (ys.length<=50)| .inl _=>false)=true:=by decide +kernel
structure OpR where
 k:Int
 g:Int
 n:Int
 m:Int
 s:BA
 tv:Value
 xs:List BA
structure OpOk(W:World)(o:OpR):Prop where
 hg: -9223372036854775808<=o.g/\o.g<=9223372036854775807
 ht:pX W o.tv o.xs
 hl:o.xs.length<=8796093022208
 hsz: ∀x∈o.xs,x.size<=140737488355328
def bQ(W:World)(b o:Nat)(r:OpR):Prop:=
 W.cell? ⟨b,o,none⟩=some (.int .i64 r.k)/\W.cell? ⟨b,o+1,none⟩=some (.int .i64 r.g)/\W.cell? ⟨b,o+2,none⟩=some (.int .i64 r.n)/\W.cell? ⟨b,o+3,none⟩=some (.int .i64 r.m)/\W.cell? ⟨b,o+4,none⟩=some (.string r.s)/\W.cell? ⟨b,o+5,none⟩=some r.tv
theorem ct{j:Nat}{u:Value}(h:w.cell? ⟨b,j,none⟩=some u)(o:Obj):(w.alloc o).cell? ⟨b,j,none⟩=some u:=
 (World.cell?_of_block (a:=⟨b,j,none⟩) (Oq w o b (qp h))).trans h
