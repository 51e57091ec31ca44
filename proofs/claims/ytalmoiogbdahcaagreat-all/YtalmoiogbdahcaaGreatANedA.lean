import Derived.Test.YtalmoiogbdahcaaGreatAAskA
open Go.Proofs.Tryz
namespace Go.Proofs.YtalmoiogbdahcaaGreat
set_option maxRecDepth 100000
set_option maxHeartbeats 8000000
open Go.RowKit Go.Shelf
variable{a:BA}{is:Int}{ts:List (Nod×Nod)}{x y:Nod}
theorem JO{b:BA}(h:y∈vr ts x is a b):(y.th=x.th\/ ∃t∈ts,y.th=t.2.th)/\(y.r=b\/ ∃t∈ts,y.r=t.2.r):=by
 unfold vr at h;split at h
 ·exact⟨Or.inr ⟨_,vu.1 h,rfl⟩,Or.inr ⟨_,vu.1 h,rfl⟩⟩
 ·split at h
  ·simp at h;rw[h];exact⟨Or.inl rfl,Or.inl rfl⟩
  ·obtain⟨z,hz,rfl⟩:=OY.1 h
   exact⟨Or.inr ⟨_,vu.1 (OW.1 hz).1,rfl⟩,Or.inl rfl⟩
mutual
theorem s8{ts:List (Nod×Nod)}{x y:Nod}:(t:WayT)->y∈qY ts x t->(y.th=x.th\/ ∃t∈ts,y.th=t.2.th)/\(y.r∈xH t\/ ∃t∈ts,y.r=t.2.r)
 | .mk is a b parts,h=>by
  rw[qY]at h;rw[xH];by_cases hl:zV is=true
  ·rw[if_pos hl]at h ⊢
   obtain⟨h1,h2⟩:=JO h;refine⟨h1,?_⟩;rcases h2 with e|e
   ·left;rw[e];simp
   ·exact Or.inr e
  ·rw[if_neg hl]at h ⊢;exact s9 parts h
theorem s9{ts:List (Nod×Nod)}{x y:Nod}:(l:List WayT)->y∈qO ts x l->(y.th=x.th\/ ∃t∈ts,y.th=t.2.th)/\(y.r∈yp l\/ ∃t∈ts,y.r=t.2.r)
 | [],h=>by rw[qO]at h;cases h
 |t::l,h=>by
  rw[qO]at h;rw[yp];rcases OS.1 h with h|h
  ·obtain⟨h1,h2⟩:=s8 t h
   exact⟨h1,h2.imp (List.mem_append_left _) id⟩
  ·obtain⟨h1,h2⟩:=s9 l h
   exact⟨h1,h2.imp (List.mem_append_right _) id⟩
end
structure DocOk(xs now:List BA):Prop where
 hv: ∀y∈xs,xm y=true
 few:xs.length<=12
 ht: ∀s∈now,xG s=true
 nl:now.length<=50
def fk(now:List BA)(x:Nod):List Nod:=x.th::(qt now).map (·.2.th)
def fm(xs now:List BA)(x:Nod):List BA:=x.r::((qt now).map (·.2.r)++xs.flatMap λy=>xH (xZ y).1)
variable{now xs:List BA}
theorem GW(ok:DocOk xs now)(h:Rch (qt now) (qi xs) x y):y.th∈fk now x/\y.r∈fm xs now x:=by
 have h0: ∀y∈xs,y.size<=200:=λy hy=>(xL y (ok.hv y hy)).1
 induction h with
 |here=>exact⟨by simp[fk],by simp[fm]⟩
 |on _ h ih=>
  rename_i y z _
  obtain⟨h1,h2⟩:=s8 _ (OW.1 h).1
  constructor
  ·rcases h1 with e|⟨t,ht,e⟩
   ·rw[e];exact ih.1
   ·rw[e];exact OU _ (OY.2 ⟨t,ht,rfl⟩)
  ·rcases h2 with e|⟨t,ht,e⟩
   ·exact OU _ (List.mem_append_right _ ((pL h0 y).1 _ e))
   ·rw[e];exact OU _ (List.mem_append_left _ (OY.2 ⟨t,ht,rfl⟩))
variable{met:List Nod}
theorem td(ok:DocOk xs now)(hn:met.Nodup)(hr: ∀y∈met,Rch (qt now) (qi xs) x y):met.length<=300000:=by
 have h0: ∀y∈xs,y.size<=200:=λy hy=>(xL y (ok.hv y hy)).1;have h1:met.length<=((fk now x).flatMap λt=>(fm xs now x).map λr=>t.to r).length:=by
  refine xP _ _ hn λy hy=>?_;obtain⟨k1,k2⟩:=GW ok (hr y hy);refine List.mem_flatMap.2 ⟨y.th,k1,OY.2 ⟨y.r,k2,?_⟩⟩;obtain⟨a,b,c⟩:=y
  rfl
 have h2: ∀(U:List BA) (l:List Nod),(l.flatMap λt=>U.map λr=>t.to r).length=l.length * U.length:=by
  intro U l
  induction l with
  |nil=>simp
  |cons a l ih=>rw[List.flatMap_cons,OK,ih,OM,OL,Nat.add_mul];omega
 rw[h2]at h1;have h3:(fk now x).length<=51:=by
  unfold fk qt;simp only[OL,OM];have:=ok.nl;omega
 have h4:(fm xs now x).length<=5000:=by
  unfold fm qt;simp only[OL,OK,OM];have:=ba xs h0;have:=ok.nl;have:=ok.few;omega
 have:=Nat.mul_le_mul h3 h4;omega
variable{k n:List UInt8}
theorem mL{o:Option (List UInt8)}(h:NmN x k n o):(txT x).size<=200:=by
 rw[uF h,zE];have a1:=qQ h.hk;have a2:=qQ h.hn;have a6:(zO o).length<=37:=by
  cases o with
  |none=>simp[zO]
  |some x=>have:=qQ (h.ho x rfl);simp[zO];omega
 simp only[OK,OL];omega
structure DocAt(xs now:List BA)(b:Nat)(g:Rg)(tv:Value)(w:World):Prop where
 rg:xX w b g
 rl:vL w g.rulesV (qh xs)
 tv:qE w tv now
variable{b:Nat}{g:Rg}{tv:Value}{w w':World}
theorem DocAt.below(h:DocAt xs now b g tv w)(hb:Below w.heap.size w w'):DocAt xs now b g tv w':=
 ⟨ut h.rg hb,i6 h.rl hb,xg h.tv hb⟩
variable{r:List UInt8}
theorem fo(ok:DocOk xs now)(h:DocAt xs now b g tv w)(hx:NmN x k n (some r)):
  Calls prog 72 #[.pointer (some ⟨b,0,none⟩),.string (txT x)] w λe w'=>e=.returned (.string (qD (qh xs) (txT x)))/\ ∃n,w'=w.drewN n:=by
 have:=mL hx;exact mP b g (qh xs) (txT x) w h.rg h.rl (by unfold qh;rw[OM];exact ok.few) (by omega)
theorem fp(ok:DocOk xs now)(hx:NmN x k n (some r))(h0:(qD (qh xs) (txT x)).size≠0):(qD (qh xs) (txT x)).size<=200/\yb (qD (qh xs) (txT x)).size (qD (qh xs) (txT x))=true:=by
 rw[pM ok.hv hx]at h0 ⊢;cases hf:xs.find? (λs=>decide (qU (rd0 s)=x.k/\zh (rd0 s)=x.r))with
 |none=>rw[hf]at h0;exact absurd rfl h0
 |some y=>
  have hy:=List.mem_of_find?_eq_some hf;have hv:=ok.hv y hy;obtain⟨hs,k',r',wy,op,ts,d⟩:=xL y hv;have hw:=(uh y d).2.1;dsimp only;refine⟨?_,?_⟩
  ·have e:y.size=y.data.toList.length:=by rw[Array.length_toList];rfl
   rw[e,d.text]at hs;rw[hw,zE];simp only[OK,OL]at hs;omega
  ·unfold xm at hv
   simp only[Bool.and_eq_true]at hv;exact hv.1.2
theorem Yc(ok:DocOk xs now)(h:DocAt xs now b g tv w)(hx:NmN x k n (some r))(h0:(qD (qh xs) (txT x)).size≠0):
  Calls prog 201 #[.pointer (some ⟨b,0,none⟩),tv,.string (txT x),.string (qD (qh xs) (txT x))] w (vR w ((qI (qt now) (qi xs) x).map txT)):=by
 have hs:=mL hx;have h3:=ji;obtain⟨h1,h2⟩:=fp ok hx h0;rcases ow ok.hv ok.ht hx with⟨e,-⟩|⟨-,e⟩
 ·exact absurd e h0
 ·rw[←e _ (Uc _)]
  have ht: ∀s∈now,s.size<=250:=λs h=>by
   obtain⟨k,n,r,k2,n2,o,-,-,-,-,-,-,-,h9⟩:=im (ok.ht s h);exact h9
  exact sM b tv now (txT x) (by omega) ok.nl (λs h=>by have:=ht s h;omega) (λs h=>by have:=ht s h;omega) _ _ w (by omega) h2 h.tv
def xQ(ts:List BA)(node:BA)(W:BA->BA->Prop):Nat->BA->BA->Prop
 |f,way,s=>
  if(qe way).is=124 then(match f with
   |0=>False
   |f+1=>xQ ts node W f (qe way).A s\/xQ ts node W f (qe way).B s)
  else if(qe way).is=38 then(match f with
   |0=>False
   |f+1=>xQ ts node W f (qe way).A s/\xQ ts node W f (qe way).B s)
  else(∃y∈qW ts node f way,W y s)\/((qe way).is=116/\s∈zq ts node/\zj s=true)
def usT(now:List BA):List BA:=(((qt now).map (·.2)).filter (·.isTh)).map txT
theorem kX(h:now.length<=50):(usT now).length<=50:=by
 unfold usT;rw[OM];refine Ue (List.length_filter_le _ _) ?_;unfold qt;rw[OM,OM];exact h
variable{s:BA}
theorem Yd(ht: ∀s∈now,xG s=true)(h:s∈usT now): ∃u k n,NmN u k n none/\u.isTh=true/\s=txT u/\ ∃t∈qt now,t.2=u:=by
 obtain⟨u,hu,rfl⟩:=OY.1 h;obtain⟨h2,h0⟩:=OW.1 hu;obtain⟨t,h1,e⟩:=OY.1 h2;obtain⟨z,hz,rfl⟩:=OY.1 h1;obtain⟨k,n,o,hn⟩:=(aC (ht z hz)).2.1;rw[e]at hn;have ho:=(vE hn).1 h0;subst ho;exact⟨u,k,n,hn,h0,rfl,_,h1,e⟩
theorem K6(ht: ∀s∈now,xG s=true)(hx:NmN x k n (some r))(hs:s∈zq now (txT x))(h:zj s=true):s∈usT now:=by
 rw[cQ ht hx]at hs;obtain⟨y,hy,rfl⟩:=OY.1 hs;obtain⟨k,n,o,hn⟩:=vl ht hy;rw[ot hn]at h;exact OY.2 ⟨y,OW.2 ⟨OY.2 ⟨_,vu.1 hy,rfl⟩,h⟩,rfl⟩
theorem ZO{ts:List BA}{node b:BA}{W:BA->BA->Prop}(h:qe a=qe b)(f:Nat)(s:BA):xQ ts node W f a s↔xQ ts node W f b s:=by
 cases f<;>rw[xQ,xQ,h,aV h]
def kL(ts:List (Nod×Nod))(P:Nod->Prop)(x:Nod)(op:UInt8)(l:List WayT):Prop:=if op=38 then vt ts P x l else u4 ts P x l
variable{op:UInt8}
theorem ic{P:Nod->Prop}{t:WayT}:kL ts P x op [t]↔yg ts P x t:=by
 unfold kL;split
 ·rw[vt,vt];simp
 ·rw[u4,u4];simp
variable{l:List WayT}
theorem lG{P:Nod->Prop}:yg ts P x (jO op l)↔kL ts P x op l:=by
 unfold jO;split
 ·exact ic.symm
 ·unfold kL
  by_cases h:op=38
  ·rw[if_pos h,if_pos h,yg,if_neg (by decide),if_pos rfl]
  ·rw[if_neg h,if_neg h,yg,if_pos rfl]
theorem ZP{P:Nod->Prop}{t:WayT}:kL ts P x op (l++[t])↔if op=38 then kL ts P x op l/\yg ts P x t else kL ts P x op l\/yg ts P x t:=by
 unfold kL;by_cases h:op=38
 ·simp only[if_pos h]
  induction l with
  |nil=>simp only[List.nil_append,vt];simp
  |cons a l ih=>rw[List.cons_append,vt,ih,vt,and_assoc]
 ·simp only[if_neg h]
  induction l with
  |nil=>simp only[List.nil_append,u4];simp
  |cons a l ih=>rw[List.cons_append,u4,ih,u4,or_assoc]
theorem gD{P:Nod->Prop}{b:BA}(h:is≠3)(h4:is≠4):yg ts P x (.mk is a b l)↔ ∃y∈qY ts x (.mk is a b l),P y:=by
 rw[yg,if_neg h,if_neg h4]
variable{ku nu:List UInt8}{u:Nod}
theorem Ye(ht: ∀s∈now,xG s=true)(hx:NmN x k n (some r))(hu:NmN u ku nu none){W:BA->BA->Prop}{P:Nod->Prop}{b:Bool}{d:Nat}{l:List UInt8}{ts:List WayT}(h:Gr b d op l ts):
  (∀y∈qO (qt now) x ts,y.isTh=false->(W (txT y) (txT u)↔P y))-> ∀f,l.length<=f->(xQ now (txT x) W f (mk l) (txT u)↔kL (qt now) (inU u P) x op ts):=by
 have h0:u.isTh=true:=(vE hu).2 rfl;have h5:zj (txT u)=true:=by rw[ot hu];exact h0
 induction h with
 |this d op=>
  intro hW f hf;have e:=Qi d op;have e1:xQ now (txT x) W f (mk yn) (txT u)↔(∃y∈qW now (txT x) f (mk yn),W y (txT u))\/((qe (mk yn)).is=116/\txT u∈zq now (txT x)/\zj (txT u)=true):=by
   cases f<;>rw[xQ,if_neg (by omega),if_neg (by omega)]
  rw[e1,ic,gD (by decide) (by decide),gY ht hx (.this d op) f hf,cQ ht hx]
  have en:qY (qt now) x (.mk 0 qk qk [])=qy (qt now) x:=by simp[qY,zV,vr]
  have h6:qO (qt now) x [.mk 0 qk qk []]=qy (qt now) x:=by simp[qO,en]
  rw[h6]at hW ⊢;rw[en]
  constructor
  ·rintro(⟨y,hy,h⟩|⟨-,h,-⟩)
   ·obtain⟨z,hz,rfl⟩:=OY.1 hy
    obtain⟨z1,z2⟩:=OW.1 hz;have z3:z.isTh=false:=by simpa using z2
    exact⟨z,z1,by unfold inU;rw[if_neg (by rw[z3];decide)];exact(hW z z1 z3).1 h⟩
   ·obtain⟨z,hz,e⟩:=OY.1 h
    obtain⟨k,n,o,hn⟩:=vl ht hz;have:=pd hn hu e;subst this;exact⟨z,hz,by unfold inU;rw[if_pos h0]⟩
  ·rintro⟨y,hy,h⟩
   unfold inU at h;by_cases hyt:y.isTh=true
   ·rw[if_pos hyt]at h
    right
    exact⟨e,OY.2 ⟨y,hy,by rw[h]⟩,h5⟩
   ·rw[if_neg hyt]at h
    left
    have z3:y.isTh=false:=by simpa using hyt
    exact⟨txT y,OY.2 ⟨y,OW.2 ⟨hy,by rw[z3];rfl⟩,rfl⟩,(hW y hy z3).2 h⟩
 |rel d op a h1 h2=>
  intro hW f hf;have e:=XH d op h1 h2;have ei:(qe (mk a)).is=114:=by rw[e]
  have e1:xQ now (txT x) W f (mk a) (txT u)↔(∃y∈qW now (txT x) f (mk a),W y (txT u))\/((qe (mk a)).is=116/\txT u∈zq now (txT x)/\zj (txT u)=true):=by
   cases f<;>rw[xQ,if_neg (by omega),if_neg (by omega)]
  rw[e1,ic,gD (by decide) (by decide),bh hx ei h1 (by rw[e]) f]
  have e3:(x.to (mk a)).isTh=false:=Uo (j7 h1);have en:qY (qt now) x (.mk 1 qk (mk a) [])=[x.to (mk a)]:=by simp[qY,zV,vr]
  have hq:=hW (x.to (mk a)) (by simp[qO,en]) e3
  rw[en]
  constructor
  ·rintro(⟨y,hy,h⟩|⟨h,-⟩)
   ·simp at hy
    rw[hy]at h;exact⟨x.to (mk a),by simp,by unfold inU;rw[if_neg (by rw[e3];decide)];exact hq.1 h⟩
   ·omega
  ·rintro⟨y,hy,h⟩
   simp at hy;rw[hy]at h;unfold inU at h;rw[if_neg (by rw[e3];decide)]at h
   exact Or.inl ⟨_,by simp,hq.2 h⟩
 |arrow d op a b h1 h2 h3 h4=>
  intro hW f hf;have e:=bm d op h1 h2 h3 h4;have ei:(qe (mk (a++45::62::b))).is=97:=by rw[e]
  have e1:xQ now (txT x) W f (mk (a++45::62::b)) (txT u)↔(∃y∈qW now (txT x) f (mk (a++45::62::b)),W y (txT u))\/((qe (mk (a++45::62::b))).is=116/\txT u∈zq now (txT x)/\zj (txT u)=true):=by
   cases f<;>rw[xQ,if_neg (by omega),if_neg (by omega)]
  rw[e1,ic,gD (by decide) (by decide),bj ht hx ei h1 h2 (by rw[e]) (by rw[e]) f]
  have e3: ∀y:Nod,(y.to (mk b)).isTh=false:=λy=>Uo (j7 h2);have en:qY (qt now) x (.mk 2 (mk a) (mk b) [])=((qy (qt now) (x.to (mk a))).filter (·.isTh)).map (·.to (mk b)):=by simp[qY,zV,vr]
  have hq: ∀y∈((qy (qt now) (x.to (mk a))).filter (·.isTh)).map (·.to (mk b)),y.isTh=false/\(W (txT y) (txT u)↔P y):=λy hy=>by
   have e4:y.isTh=false:=by
    obtain⟨z,-,rfl⟩:=OY.1 hy;exact e3 z
   exact⟨e4,hW y (by simp only[qO,en,List.append_nil];exact hy) e4⟩
  rw[en]
  constructor
  ·rintro(⟨y,hy,h⟩|⟨h,-⟩)
   ·obtain⟨z,hz,rfl⟩:=OY.1 hy
    obtain⟨q1,q2⟩:=hq z hz;exact⟨z,hz,by unfold inU;rw[if_neg (by rw[q1];decide)];exact q2.1 h⟩
   ·omega
  ·rintro⟨y,hy,h⟩
   obtain⟨q1,q2⟩:=hq y hy;unfold inU at h;rw[if_neg (by rw[q1];decide)]at h
   exact Or.inl ⟨_,OY.2 ⟨y,hy,rfl⟩,q2.2 h⟩
 |br d op op' l ts h1 ih=>
  intro hW f hf;rw[ZO (Ky (op:=op) h1) f,ic,lG];exact ih (λy hy=>hW y (by simp only[qO,vI,List.append_nil];exact hy)) f (by simp at hf;omega)
 |one d op l ts h1 ih=>exact ih
 |more d op l m ts t hop h1 h2 ih1 ih2=>
  intro hW f hf;have e:=Qj hop h1 h2;simp only[OK,OL]at hf;obtain⟨g,rfl⟩: ∃g,f=g+1:=⟨f-1,by omega⟩
  have i1:=ih1 (λy hy=>hW y (by rw[jL];exact List.mem_append_left _ hy)) g (by omega)
  have i2:=ih2 (λy hy=>hW y (by rw[jL];exact List.mem_append_right _ hy)) g (by omega)
  rw[ic]at i2;rw[xQ,ZP,e];dsimp only;rcases hop with rfl|rfl
  ·rw[if_pos (by decide),if_neg (by decide),i1,i2]
  ·rw[if_neg (by decide),if_pos (by decide),if_pos rfl,i1,i2]
structure Gat(us out:List BA)(P:BA->Prop):Prop where
 so:zy out
 us: ∀s∈out,s∈us
 iff: ∀s,s∈out↔P s
theorem ir{l:List BA}(h:zy l):l.Nodup:=List.Pairwise.imp (λh e=>by subst e;rw[kK]at h;cases h) h
variable{P:BA->Prop}{out us:List BA}
theorem Gat.len(h:Gat us out P):out.length<=us.length:=xP _ _ (ir h.so) h.us
variable{Q:BA->Prop}
theorem Gat.congr(h:Gat us out P)(hq: ∀s,P s↔Q s):Gat us out Q:=⟨h.so,h.us,λs=>(h.iff s).trans (hq s)⟩
theorem Gat.nil(us:List BA):Gat us [] λ_=>False:=⟨List.Pairwise.nil,(λs h=>by cases h),(λs=>by simp)⟩
theorem fq{l:List BA}(hs:zy l)(x s:BA):s∈yN l x true↔s∈l\/s=x:=by
 obtain⟨i,hp⟩:=gC hs x;rw[gz hs hp];split
 ·rename_i e
  rw[if_pos rfl]
  constructor
  ·exact Or.inl
  ·rintro(h|h)
   ·exact h
   ·rw[h];exact OZ e
 ·rw[if_pos rfl]
  unfold jV
  constructor
  ·intro h
   rcases OS.1 h with h|h
   ·exact Or.inl (List.mem_of_mem_take h)
   ·rcases OT.1 h with h|h
    ·exact Or.inr h
    ·exact Or.inl (List.mem_of_mem_drop h)
  ·rintro(h|h)
   ·rw[←O6 i l]at h
    rcases OS.1 h with h|h
    ·exact List.mem_append_left _ h
    ·exact List.mem_append_right _ (OU _ h)
   ·rw[h];exact List.mem_append_right _ (OV ..)
theorem Gat.add(h:Gat us out P){x:BA}(hx:x∈us):Gat us (yN out x true) λs=>P s\/s=x:=by
 obtain⟨i,hp⟩:=gC h.so x;refine⟨dM h.so hp true,λs hs=>?_,λs=>?_⟩
 ·rcases(fq h.so x s).1 hs with e|e
  ·exact h.us s e
  ·rw[e];exact hx
 ·rw[fq h.so,h.iff]
def Wof(met:List Nod)(whoL:List (List BA))(y s:BA):Prop:=s∈whoL.getD (yE (met.map txT) y).toNat []
def Pof(met:List Nod)(whoL:List (List BA))(u y:Nod):Prop:= ∃i,met[i]?=some y/\txT u∈whoL.getD i []
variable{i:Nat}
theorem oV(hn:met.Nodup){j:Nat}(hi:met[i]?=some y)(hj:met[j]?=some y):i=j:=
 (List.getElem?_inj (l:=met) (OE.1 hi).1 hn).1 (hi.trans hj.symm)
theorem GX(hn:met.Nodup)(hm: ∀z∈met,∃k n r,NmN z k n (some r))(hy:met[i]?=some y):yE (met.map txT) (txT y)=i:=by
 have h3:=OZ hy;obtain⟨k,n,r,h2⟩:=hm y h3;have h0:=mt (Qk hm h2).1 (λe=>e h3);unfold yE at h0 ⊢;cases hf:(met.map txT).findIdx? (λx=>x.toList==(txT y).toList)with
 |none=>rw[hf]at h0;simp at h0
 |some j=>
  obtain⟨hj,he,-⟩:=List.findIdx?_eq_some_iff_getElem.1 hf;rw[jn,decide_eq_true_iff,List.getElem_map]at he;have h1:j<met.length:=by simpa using hj
  obtain⟨k',n',r',hz⟩:=hm _ (List.getElem_mem h1);have e:=pd hz h2 he;have:j=i:=oV hn (y:=y) (by rw[OC h1,e]) hy
  rw[this]
variable{whoL:List (List BA)}
theorem QC(hn:met.Nodup)(hm: ∀z∈met,∃k n r,NmN z k n (some r))(hy:y∈met):Wof met whoL (txT y) (txT u)↔Pof met whoL u y:=by
 obtain⟨i,hi⟩:=OX.1 hy;unfold Wof Pof;rw[GX hn hm hi]
 constructor
 ·intro h;exact⟨i,hi,h⟩
 ·rintro⟨j,hj,h⟩
  have:j=i:=oV hn hj hi;subst this;exact h
theorem te(ok:DocOk xs now)(hx:NmN x k n (some r))(hu:NmN u ku nu none){W:BA->BA->Prop}{P:Nod->Prop}(hW: ∀y∈qI (qt now) (qi xs) x,(W (txT y) (txT u)↔P y)):
  ((qD (qh xs) (txT x)).size=0/\ ¬yg (qt now) (inU u P) x (qi xs x))\/((qD (qh xs) (txT x)).size≠0/\ ∀f,(qD (qh xs) (txT x)).size<=f->(xQ now (txT x) W f (qD (qh xs) (txT x)) (txT u)↔yg (qt now) (inU u P) x (qi xs x))):=by
 rw[pM ok.hv hx];unfold qI at hW;unfold qi at hW ⊢;cases hf:xs.find? (λs=>decide (qU (rd0 s)=x.k/\zh (rd0 s)=x.r))with
 |none=>
  left
  refine⟨rfl,?_⟩;dsimp only;rw[yg,if_pos rfl,u4];exact id
 |some y=>
  right
  have hy:=List.mem_of_find?_eq_some hf;obtain⟨-,k',r',wy,op,ts,d⟩:=xL y (ok.hv y hy);obtain⟨-,-,a3,-⟩:=jl y d;have hw:=(uh y d).2.1;rw[hf]at hW;dsimp only at hW ⊢;rw[hw,a3,zE];rw[a3]at hW;refine⟨λe=>cX d.gr (Oy e),λf hf=>?_⟩;dsimp only;rw[lG];refine Ye ok.ht hx hu d.gr (λz hz h0=>hW z (OW.2 ⟨?_,by rw[h0];rfl⟩)) f hf
  dsimp only;rw[vI];exact hz
variable{α:Type}
theorem gE(l:List (List α))(i j:Nat)(a:List α)(hi:i<l.length):(l.set i a).getD j []=if j=i then a else l.getD j []:=by
 by_cases e:j=i
 ·subst e
  rw[if_pos rfl,List.getD_eq_getElem?_getD,OI hi];rfl
 ·rw[if_neg e,List.getD_eq_getElem?_getD,OH (λh=>e h.symm),List.getD_eq_getElem?_getD]
structure WRnd(xs now:List BA)(met:List Nod)(whoL:List (List BA)):Prop where
 len:whoL.length=met.length
 so: ∀i,zy (whoL.getD i [])/\ ∀s∈whoL.getD i [],s∈usT now
 sound: ∀i y,met[i]?=some y-> ∀u ku nu,NmN u ku nu none->txT u∈whoL.getD i []->Std (qt now) (qi xs) u y
 up: ∀i y,met[i]?=some y-> ∀u ku nu,NmN u ku nu none->txT u∈whoL.getD i []->yg (qt now) (inU u (Pof met whoL u)) y (qi xs y)
structure MetOk(xs now:List BA)(x:Nod)(met:List Nod):Prop where
 nd:met.Nodup
 gone:Gone (qt now) xs x met met.length
 nm: ∀z∈met,∃k n r,NmN z k n (some r)
theorem MetOk.closed(h:MetOk xs now x met)(hy:y∈met): ∀z∈qI (qt now) (qi xs) y,z∈met:=by
 obtain⟨i,hi⟩:=OX.1 hy;exact h.gone.closed i y (OE.1 hi).1 hi
theorem JP{whoL':List (List BA)}(h: ∀i,∀s∈whoL.getD i [],s∈whoL'.getD i [])(hp:Pof met whoL u y):Pof met whoL' u y:=by
 obtain⟨i,hi,hs⟩:=hp;exact⟨i,hi,h i _ hs⟩
theorem WRnd.tell(ok:DocOk xs now)(mk0:MetOk xs now x met)(hy:met[i]?=some y)(h0:(qD (qh xs) (txT y)).size≠0)(hu:NmN u ku nu none):
  xQ now (txT y) (Wof met whoL) (qD (qh xs) (txT y)).size (qD (qh xs) (txT y)) (txT u)↔yg (qt now) (inU u (Pof met whoL u)) y (qi xs y):=by
 have h1:=OZ hy;obtain⟨k,n,r,h2⟩:=mk0.nm y h1;rcases te ok h2 hu (W:=Wof met whoL) (P:=Pof met whoL u) (λz hz=>QC mk0.nd mk0.nm (mk0.closed h1 z hz))with⟨e,-⟩|⟨-,e⟩
 ·exact absurd e h0
 ·exact e _ (Uc _)
theorem WRnd.grow(ok:DocOk xs now)(mk0:MetOk xs now x met)(h:WRnd xs now met whoL)(hy:met[i]?=some y)(h0:(qD (qh xs) (txT y)).size≠0)(hg:Gat (usT now) out (xQ now (txT y) (Wof met whoL) (qD (qh xs) (txT y)).size (qD (qh xs) (txT y)))):
  (∀s∈whoL.getD i [],s∈out)/\WRnd xs now met (whoL.set i out)/\(out.length<=(whoL.getD i []).length-> ∀s,xQ now (txT y) (Wof met whoL) (qD (qh xs) (txT y)).size (qD (qh xs) (txT y)) s->s∈whoL.getD i []):=by
 have h4:i<whoL.length:=by rw[h.len];exact(OE.1 hy).1
 have h2: ∀s∈whoL.getD i [],s∈out:=λs hs=>by
  obtain⟨u,ku,nu,hu,-,rfl,-⟩:=Yd ok.ht ((h.so i).2 s hs);exact(hg.iff _).2 ((WRnd.tell ok mk0 hy h0 hu).2 (h.up i y hy u ku nu hu hs))
 have h3: ∀j,∀s∈whoL.getD j [],s∈(whoL.set i out).getD j []:=λj s hs=>by
  rw[gE _ _ _ _ h4];split
  ·rename_i e;rw[e]at hs;exact h2 s hs
  ·exact hs
 refine⟨h2,⟨?_,λj=>?_,λj z hz u ku nu hu hs=>?_,λj z hz u ku nu hu hs=>?_⟩,λhl s hs=>?_⟩
 ·rw[OO];exact h.len
 ·rw[gE _ _ _ _ h4]
  split
  ·exact⟨hg.so,hg.us⟩
  ·exact h.so j
 ·rw[gE _ _ _ _ h4]at hs
  split at hs
  ·rename_i e
   rw[e,hy]at hz;injection hz with hz;rw[←hz];have ht:=(WRnd.tell ok mk0 hy h0 hu).1 ((hg.iff _).1 hs);refine Std.step (kP (λv _ hv=>?_) ht);obtain⟨m,hm,h5⟩:=hv;exact h.sound m v hm u ku nu hu h5
  ·exact h.sound j z hz u ku nu hu hs
 ·rw[gE _ _ _ _ h4]at hs
  refine kP (λv _ hv=>JP h3 hv) ?_ (P:=Pof met whoL u);split at hs
  ·rename_i e
   rw[e,hy]at hz;injection hz with hz;rw[←hz];exact(WRnd.tell ok mk0 hy h0 hu).1 ((hg.iff _).1 hs)
  ·exact h.up j z hz u ku nu hu hs
 ·refine Classical.byContradiction λhn=>?_
  have h1:(s::whoL.getD i []).length<=out.length:=xP _ _ (List.nodup_cons.2 ⟨hn,ir (h.so i).1⟩) (λa ha=>by
   rcases OT.1 ha with e|e
   ·rw[e];exact(hg.iff s).2 hs
   ·exact h2 a e)
  rw[OL]at h1;omega
theorem WRnd.done(ok:DocOk xs now)(mk0:MetOk xs now x met)(h:WRnd xs now met whoL)
  (hf: ∀i y,met[i]?=some y->(qD (qh xs) (txT y)).size=0\/ ∀s,xQ now (txT y) (Wof met whoL) (qD (qh xs) (txT y)).size (qD (qh xs) (txT y)) s->s∈whoL.getD i [])
    (hy:met[i]?=some y)   (hu:NmN u ku nu none):txT u∈whoL.getD i []↔Std (qt now) (qi xs) u y:=by
 refine⟨h.sound i y hy u ku nu hu,λhs=>?_⟩;have key:Pof met whoL u y:=by
  refine Std.in (S:=(· ∈met)) (W:=λz=>Pof met whoL u z) (λz hz=>mk0.closed hz) ?_ (OZ hy) hs;intro z hz ht;obtain⟨j,hj⟩:=OX.1 hz;obtain⟨k,n,r,h0⟩:=mk0.nm z hz;rcases te ok h0 hu (W:=Wof met whoL) (P:=Pof met whoL u) (λv hv=>QC mk0.nd mk0.nm (mk0.closed hz v hv))with⟨-,e⟩|⟨e,e2⟩
  ·exact absurd ht e
  ·rcases hf j z hj with e3|e3
   ·exact absurd e3 e
   ·exact⟨j,hj,e3 _ ((e2 _ (Uc _)).2 ht)⟩
 obtain⟨j,hj,h1⟩:=key;have:j=i:=oV mk0.nd hj hy;rw[←this];exact h1
theorem WRnd.start(met:List Nod):WRnd xs now met (List.replicate met.length []):=by
 have h: ∀i,(List.replicate met.length ([]:List BA)).getD i []=[]:=λi=>by
  rw[List.getD_eq_getElem?_getD,OG];split<;>rfl
 refine⟨by simp,λi=>?_,λi y _ u _ _ _ hs=>?_,λi y _ u _ _ _ hs=>?_⟩
 ·rw[h];exact⟨List.Pairwise.nil,λs hs=>by cases hs⟩
 ·rw[h]at hs;cases hs
 ·rw[h]at hs;cases hs
def cE(whoL:List (List BA)):Nat:=(whoL.map λl=>50-l.length).sum
theorem JQ: ∀{whoL:List (List BA)} {i:Nat} {out:List BA},i<whoL.length->(whoL.getD i []).length<out.length->out.length<=50->cE (whoL.set i out)<cE whoL:=by
 intro whoL
 induction whoL with
 |nil=>intro i out hi;simp at hi
 |cons a l ih=>
  intro i out hi hl ho;unfold cE at ih ⊢;cases i with
  |zero=>
   simp only[List.set_cons_zero,List.map_cons,List.sum_cons];simp at hl;omega
  |succ i=>
   simp only[List.set_cons_succ,List.map_cons,List.sum_cons];have:=ih (i:=i) (out:=out) (by simpa using hi) (by simpa using hl) ho
   omega
theorem pq{zs:List BA}:0<=yE zs s↔s∈zs:=by
 unfold yE;cases hf:zs.findIdx? (λx=>x.toList==s.toList)with
 |none=>
  rw[List.findIdx?_eq_none_iff]at hf
  constructor
  ·intro h;exact absurd h (by decide)
  ·intro h
   have:=hf s h;simp at this
 |some i=>
  obtain⟨hi,he,-⟩:=List.findIdx?_eq_some_iff_getElem.1 hf;rw[jn,decide_eq_true_iff]at he
  constructor
  ·intro _;rw[←he];exact List.getElem_mem hi
  ·intro _;exact Int.natCast_nonneg i
structure ByC(now:List BA)(met:List Nod)(whoL:List (List BA))(tv nv wv:Value)(w:World):Prop where
 tv:qE w tv now
 nv:qE w nv (met.map txT)
 wv: ∃wg c,wv=.slice (some ⟨wg,0,none⟩) whoL.length c/\ ∀i l,whoL[i]?=some l-> ∃x c',w.cell? ⟨wg,i,none⟩=some (.slice x l.length c')/\qE w (.slice x l.length c') l
variable{nv wv:Value}
theorem ByC.below(h:ByC now met whoL tv nv wv w)(hb:Below w.heap.size w w'):ByC now met whoL tv nv wv w':=by
 refine⟨xg h.tv hb,xg h.nv hb,?_⟩;obtain⟨wg,c,e,hc⟩:=h.wv;refine⟨wg,c,e,λi l hl=>?_⟩;obtain⟨x,c',h1,h2⟩:=hc i l hl;exact⟨x,c',(hb.cell (qp h1)).trans h1,xg h2 hb⟩
structure ByK(now:List BA)(met:List Nod)(whoL:List (List BA)):Prop where
 ht: ∀s∈now,xG s=true
 nl:now.length<=50
 ml:met.length<=300000
 len:whoL.length=met.length
 us: ∀l∈whoL,∀s∈l,s∈usT now
 short: ∀l∈whoL,l.length<=50
def yt(us:List BA)(P:BA->Prop)(w:World)(e:Ending)(w':World):Prop:=
 ∃o c out,e=.returned (.slice o out.length c)/\w'.ownsRow w.heap.size 9 1 (.slice o out.length c) out.length (qg out)/\Gat us out P/\Below w.heap.size w w'
structure ByI(us:List BA)(P:BA->Prop)(w w5:World)(ov:Value)(out:List BA)(wr:World):Prop where
 own:wr.ownsRow w.heap.size 9 1 ov out.length (qg out)
 g:Gat us out P
 below:Below w5.heap.size w5 wr
variable{ov:Value}{w5 wr:World}
theorem ByI.congr(h:ByI us P w w5 ov out wr)(hq: ∀s,P s↔Q s):ByI us Q w w5 ov out wr:=⟨h.own,h.g.congr hq,h.below⟩
theorem ByI.later{wr':World}(h:ByI us P w w5 ov out wr)(hb:Below wr.heap.size wr wr'):ByI us P w w5 ov out wr':=⟨q9 h.own hb,h.g,h.below.trans (hb.mono h.below.size)⟩
theorem ByI.with(h0:us.length<=50)(h5:w.heap.size<=w5.heap.size)(h:ByI us P w w5 ov out wr){x:BA}(hx:x∈us):
  Calls prog 74 #[ov,.string x,.bool true] wr λe w'=> ∃o c out',e=.returned (.slice o out'.length c)/\ByI us (λs=>P s\/s=x) w w5 (.slice o out'.length c) out' w':=by
 refine(fH ov out x true wr (yi h.own) (by have:=h.g.len;omega)).mono ?_
 rintro e w' ⟨v',rfl,ho,hb⟩;obtain⟨o,c,rfl⟩:=qz ho;exact⟨o,c,_,rfl,xM ho (Ue h5 h.below.size),h.g.add hx,h.below.trans (hb.mono h.below.size)⟩
theorem ByI.post(h5:Below w.heap.size w w5){o:Option Addr}{c:Nat}(h:ByI us P w w5 (.slice o out.length c) out wr):yt us P w (.returned (.slice o out.length c)) wr:=
 ⟨o,c,out,rfl,h.own,h.g,h5.trans (h.below.mono h5.size)⟩
variable{e:Ending}
theorem yt.congr(h:yt us P w e w')(hq: ∀s,P s↔Q s):yt us Q w e w':=by
 obtain⟨o,c,out,h1,h2,h3,h4⟩:=h;exact⟨o,c,out,h1,h2,h3.congr hq,h4⟩
theorem ft(gb:Nat)(node A B:BA)(us:List BA)(PA PB:BA->Prop)(w:World)(hc:ByC now met whoL tv nv wv w)
  (h7: ∀w',ByC now met whoL tv nv wv w'->Calls prog 200 #[.pointer (some ⟨gb,0,none⟩),tv,nv,wv,.string node,.string A] w' (yt us PA w')) (h5: ∀w',ByC now met whoL tv nv wv w'->Calls prog 200 #[.pointer (some ⟨gb,0,none⟩),tv,nv,wv,.string node,.string B] w' (yt us PB w'))
  (w3:World) (h1:Below w.heap.size w w3):
  Calls prog 200 #[.pointer (some ⟨gb,0,none⟩),tv,nv,wv,.string node,.string A] w3 λe w4=> ∃oa ca la,e=.returned (.slice oa la.length ca)/\Below w3.heap.size w3 w4/\
   Hid (Calls prog 200 #[.pointer (some ⟨gb,0,none⟩),tv,nv,wv,.string node,.string B] w4 λe w5=> ∃ob cb lb,e=.returned (.slice ob lb.length cb)/\Below w3.heap.size w3 w5/\Hid (w5.ownsRow w.heap.size 9 1 (.slice oa la.length ca) la.length (qg la)/\w5.ownsRow w.heap.size 9 1 (.slice ob lb.length cb) lb.length (qg lb)/\Gat us la PA/\Gat us lb PB/\Below w.heap.size w w5)):=by
 refine(h7 w3 (hc.below h1)).mono ?_;rintro e w4 ⟨oa,ca,la,rfl,ha,h4,h2⟩;refine⟨oa,ca,la,rfl,h2,?_⟩;have h0:Below w.heap.size w w4:=h1.trans (h2.mono h1.size);refine(h5 w4 (hc.below h0)).mono ?_;rintro e w5 ⟨ob,cb,lb,rfl,hb,h6,h3⟩;exact⟨ob,cb,lb,rfl,h2.trans (h3.mono h2.size),q9 (xM ha h1.size) h3,xM hb h0.size,h4,h6,h0.trans (h3.mono h0.size)⟩
theorem fu(hv: ∀y∈xs,xm y=true)(hx:NmN x k n (some r)):x8 xs x=true↔(qD (qh xs) (txT x)).size≠0:=by
 rw[pM hv hx];unfold x8;cases hf:xs.find? (λs=>decide (qU (rd0 s)=x.k/\zh (rd0 s)=x.r))with
 |none=>
  constructor
  ·intro h;cases h
  ·intro h;exact absurd rfl h
 |some y=>
  obtain⟨-,k',r',wy,op,ts,d⟩:=xL y (hv y (List.mem_of_find?_eq_some hf));have hw:=(uh y d).2.1;dsimp only;rw[hw,zE];exact⟨λ_ e=>cX d.gr (Oy e),λ_=>rfl⟩
theorem Yf(hx:NmN x k n (some r)):txT x=ndT x:=by
 unfold txT;rw[if_neg (λe=>by have:=(vE hx).1 e;cases this)]
theorem Yg(hx:x.isTh=true):txT x=thT x:=by
 unfold txT;rw[if_pos hx]
inductive AskC (xs:List BA) (s:BA):BA->BA->Bool->Int->Prop
 |none:zP s=false->AskC xs s qk qk false 4
 |free (c:Bool):zP s=true->vd s=c->x8 xs (qj s)=false->AskC xs s qk qk c 5
 |some (t:BA) (c:Bool) (k n r:List UInt8):zP s=true->vd s=c->x8 xs (qj s)=true->NmN (qj s) k n (some r)->(c=true->t=thT (qK s))->t.size<=1000->AskC xs s (txT (qj s)) t c 0
theorem K7(hv: ∀y∈xs,xm y=true)(s:BA): ∃nd th c er,Zi (qh xs) s=.tuple #[.string nd,.string th,.bool c,.int .i64 er]/\AskC xs s nd th c er:=by
 unfold Zi;by_cases h1:xt s=true
 ·rw[if_pos h1]
  obtain⟨q1,q2,q3,k,n,r,hk,hn,hr,hx⟩:=Jb h1;have nm:NmN (qj s) k n (some r):=⟨hx,hk,hn,λz hz=>by cases hz;exact hr⟩
  have e:txT (qj s)=s:=(Yf nm).trans q3;have hR:=fu hv nm;rw[e]at hR;by_cases h2:(qD (qh xs) s).size=0
  ·rw[if_pos h2]
   refine⟨_,_,_,_,rfl,.free false q1 q2 ?_⟩;cases h:x8 xs (qj s)
   ·rfl
   ·exact absurd h2 (hR.1 h)
  ·rw[if_neg h2]
   have:=AskC.some (xs:=xs) qk false k n r q1 q2 (hR.2 h2) nm (λe=>by cases e) (Um _)
   rw[e]at this;exact⟨_,_,_,_,rfl,this⟩
 ·rw[if_neg h1]
  by_cases h2:y8 s=true/\zj (qS s 64)=true
  ·rw[if_pos h2]
   obtain⟨q1,q2,q3,q4,k,n,r,hk,hn,hr,hx⟩:=XF h2.1 h2.2;have nm:NmN (qj s) k n (some r):=⟨hx,hk,hn,λz hz=>by cases hz;exact hr⟩
   have e:txT (qj s)=qX s 64:=(Yf nm).trans q3;have hR:=fu hv nm;rw[e]at hR;by_cases h3:(qD (qh xs) (qX s 64)).size=0
   ·rw[if_pos h3]
    refine⟨_,_,_,_,rfl,.free true q1 q2 ?_⟩;cases h:x8 xs (qj s)
    ·rfl
    ·exact absurd h3 (hR.1 h)
   ·rw[if_neg h3]
    have:=AskC.some (xs:=xs) (qS s 64) true k n r q1 q2 (hR.2 h3) nm (λ_=>q4.symm) (bp h2.1).2;rw[e]at this;exact⟨_,_,_,_,rfl,this⟩
  ·rw[if_neg h2]
   exact⟨_,_,_,_,rfl,.none (Jc (by simpa using h1) h2)⟩
def ZQ(xs now:List BA)(x:Nod)(w:World)(e:Ending)(w':World):Prop:=
 ∃o c zs,e=.returned (.slice o zs.length c)/\qE w' (.slice o zs.length c) zs/\zy zs/\zs.length<=50/\(∀s,s∈zs↔ ∃u,InN (qt now) xs u x/\thT u=s)/\Below w.heap.size w w'
def uL:Prop:= ∀{xs now:List BA},DocOk xs now-> ∀{b:Nat} {g:Rg} {tv:Value} {w:World},DocAt xs now b g tv w-> ∀{x:Nod} {k n r:List UInt8},NmN x k n (some r)->Calls prog 169 #[.pointer (some ⟨b,0,none⟩),tv,.string (txT x)] w (ZQ xs now x w)
def lH(xs now:List BA)(x:Nod)(w:World)(e:Ending)(w':World):Prop:=
 ∃o c met,e=.returned (.slice o met.length c)/\MetOk xs now x met/\w'.ownsRow w.heap.size 9 1 (.slice o met.length c) met.length (qg (met.map txT))/\met.length<=300000/\Below w.heap.size w w'
def jC:Prop:= ∀{xs now:List BA},DocOk xs now-> ∀{b:Nat} {g:Rg} {tv:Value} {w:World},DocAt xs now b g tv w-> ∀{x:Nod} {k n r:List UInt8},NmN x k n (some r)->Calls prog 171 #[.pointer (some ⟨b,0,none⟩),tv,.string (txT x)] w (lH xs now x w)
theorem ZR(ok:DocOk xs now)(mo:MetOk xs now x met)(h:WRnd xs now met whoL)
  (hf: ∀i y,met[i]?=some y->(qD (qh xs) (txT y)).size=0\/ ∀s,xQ now (txT y) (Wof met whoL) (qD (qh xs) (txT y)).size (qD (qh xs) (txT y)) s->s∈whoL.getD i []):
  zy (whoL.getD 0 [])/\(whoL.getD 0 []).length<=50/\ ∀s,s∈whoL.getD 0 []↔ ∃u,InN (qt now) xs u x/\thT u=s:=by
 refine⟨(h.so 0).1,Ue (xP _ _ (ir (h.so 0).1) (h.so 0).2) (kX ok.nl),λs=>?_⟩
 constructor
 ·intro hs
  obtain⟨u,ku,nu,hu,h0,rfl,ht⟩:=Yd ok.ht ((h.so 0).2 s hs);exact⟨u,⟨h0,ht,(WRnd.done ok mo h hf mo.gone.first hu).1 hs⟩,(Yg h0).symm⟩
 ·rintro⟨u,⟨h0,⟨t,ht,e⟩,h1⟩,rfl⟩
  obtain⟨z,hz,rfl⟩:=OY.1 ht;obtain⟨k,n,o,hn⟩:=(aC (ok.ht z hz)).2.1;rw[e]at hn;have ho:=(vE hn).1 h0;subst ho;have:=(WRnd.done ok mo h hf mo.gone.first hn).2 h1
  rw[Yg h0]at this;exact this
theorem kY(ok:DocOk xs now)(h:DocAt xs now b g tv w)(s:BA)(hs:s.size<=maxLen): ∃nd th c er,AskC xs s nd th c er/\
  Calls prog 168 #[.pointer (some ⟨b,0,none⟩),.string s] w λe w'=>e=.returned (.tuple #[.string nd,.string th,.bool c,.int .i64 er])/\Below w.heap.size w w':=by
 obtain⟨nd,th,c,er,e,ha⟩:=K7 ok.hv s;refine⟨nd,th,c,er,ha,?_⟩;refine(Zj b g (qh xs) s w h.rg h.rl (by unfold qh;rw[OM];exact ok.few) hs).mono ?_
 rintro e' w' ⟨rfl,hd⟩;rw[e];exact⟨rfl,qN hd⟩
def jP(xs now:List BA)(s:BA)(w:World)(e:Ending)(w':World):Prop:=
 ∃o n c,∃er:Int,e=.returned (.tuple #[.slice o n c,.int .i64 er])/\Below w.heap.size w w'/\er=(if zP s=false\/vd s=true then 4 else if x8 xs (qj s)=false then 5 else 0)/\ ∃zs:List BA,n=zs.length/\zy zs/\zs.length<=50/\qE w' (.slice o n c) zs/\if er=0 then(∀z,z∈zs↔ ∃u,InN (qt now) xs u (qj s)/\thT u=z)else zs=[]
theorem nA(HW:Hid uL)(ok:DocOk xs now)(h:DocAt xs now b g g.nowV w)(s:BA)(hs:s.size<=maxLen):
  Calls prog 122 #[.pointer (some ⟨b,0,none⟩),.string s] w (jP xs now s w):=by
 obtain⟨nd,th,c,er,ha,h6⟩:=kY ok h s hs;have h7:Hid (∀er:Int,er≠0->er=(if zP s=false\/vd s=true then 4 else if x8 xs (qj s)=false then 5 else 0)-> ∀w',Below w.heap.size w w'->jP xs now s w (.returned (.tuple #[.slice none 0 0,.int .i64 er])) w'):=by
  intro er hf he w' hb;exact⟨none,0,0,er,rfl,hb,he,[],rfl,List.Pairwise.nil,by simp,Or.inl ⟨rfl,rfl⟩,by rw[if_neg hf]⟩
 cases ha with
 |none h1=>
  have H4:Hid (∀w',Below w.heap.size w w'->jP xs now s w (.returned (.tuple #[.slice none 0 0,.int .i64 4])) w'):=h7.out 4 (by decide) (by rw[h1];rfl)
  generalize jP xs now s w=P at *;clear h hs h7 HW ok h1;go_enter func122,ntmps122
  go_wp2_with(go_at_call 168;refine h6.mono ?_;rintro e w1 ⟨rfl,h0⟩)
  exact H4.out _ h0
 |free c h1 h2 h3=>
  cases c with
  |false=>
   have H4:Hid (∀w',Below w.heap.size w w'->jP xs now s w (.returned (.tuple #[.slice none 0 0,.int .i64 5])) w'):=h7.out 5 (by decide) (by rw[h1,h2,h3];rfl)
   generalize jP xs now s w=P at *;clear h hs h7 HW ok h1 h2 h3;go_enter func122,ntmps122
   go_wp2_with(go_at_call 168;refine h6.mono ?_;rintro e w1 ⟨rfl,h0⟩)
   exact H4.out _ h0
  |true=>
   have H4:Hid (∀w',Below w.heap.size w w'->jP xs now s w (.returned (.tuple #[.slice none 0 0,.int .i64 4])) w'):=h7.out 4 (by decide) (by rw[h2];simp)
   generalize jP xs now s w=P at *;clear h hs h7 HW ok h1 h2 h3;go_enter func122,ntmps122
   go_wp2_with(go_at_call 168;refine h6.mono ?_;rintro e w1 ⟨rfl,h0⟩)
   exact H4.out _ h0
 |some t c k n r h1 h2 h3 nm h4 h5=>
  cases c with
  |true=>
   have H4:Hid (∀w',Below w.heap.size w w'->jP xs now s w (.returned (.tuple #[.slice none 0 0,.int .i64 4])) w'):=h7.out 4 (by decide) (by rw[h2];simp)
   generalize jP xs now s w=P at *;generalize txT (qj s)=nd at *;clear h hs h7 HW ok h1 h2 h3 nm h4;go_enter func122,ntmps122
   go_wp2_with(go_at_call 168;refine h6.mono ?_;rintro e w1 ⟨rfl,h0⟩)
   exact H4.out _ h0
  |false=>
   have h8:Hid (∀w1,Below w.heap.size w w1->Calls prog 169 #[.pointer (some ⟨b,0,none⟩),g.nowV,.string (txT (qj s))] w1 λe w2=> ∃o n c,e=.returned (.slice o n c)/\jP xs now s w (.returned (.tuple #[.slice o n c,.int .i64 0])) w2):=by
    intro w1 h0;refine(HW.out ok (h.below h0) nm).mono ?_;rintro e w2 ⟨o,c,zs,rfl,q1,q2,q3,q4,q5⟩;exact⟨o,_,c,rfl,o,_,c,0,rfl,h0.trans (q5.mono h0.size),by rw[h1,h2,h3];rfl,zs,rfl,q2,q3,q1,by rw[if_pos rfl];exact q4⟩
   have hc:=qa h.rg (j:=1) rfl;have hd:=qc h.rg;obtain⟨nx,nn,nc,h9⟩: ∃x n c,g.nowV=.slice x n c:=by
    rcases h.tv with⟨e,-⟩|⟨b,off,cap,e,-⟩
    ·exact⟨_,_,_,e⟩
    ·exact⟨_,_,_,e⟩
   rw[h9]at hc h8;generalize jP xs now s w=P at *;generalize txT (qj s)=nd at *;clear h hs h7 HW ok h1 h2 h3 nm h4 h9;go_enter func122,ntmps122
   go_wp2_with(first|(go_at_call 168;refine h6.mono ?_;rintro e w1 ⟨rfl,h0⟩;have hg:=(h0.cell hd).trans hc)|(go_at_call 169;refine(h8.out _ (by first|exact h0|exact h0.drew)).mono ?_;rintro e w2 ⟨o,n,c,rfl,hp⟩))
   exact hp
def x9(xs now:List BA)(s:BA)(w:World)(e:Ending)(w':World):Prop:=
 ∃(bo:Bool) (er:Int),e=.returned (.tuple #[.bool bo,.int .i64 er])/\Below w.heap.size w w'/\er=(if zP s=false\/vd s=false then 4 else if x8 xs (qj s)=false then 5 else 0)/\(bo=true↔er=0/\ ∃u,InN (qt now) xs u (qj s)/\thT u=thT (qK s))
variable{U:List BA}
theorem tf(HN:Hid xS)(HW:Hid xh){g:Pg}(h:GateQ U xs now b g w)(s:BA)(hs:s.size<=maxLen)(hQ:zP s=true->x8 xs (qj s)=true->QueOk U s)(hO:uq (qj s)):
  Calls prog 21 #[.pointer (some ⟨b,0,none⟩),.string s] w (x9 xs now s w):=by
 have h6:=vC s w hs;have h4:Hid (∀er:Int,er≠0->er=(if zP s=false\/vd s=false then 4 else if x8 xs (qj s)=false then 5 else 0)-> ∀w',Below w.heap.size w w'->x9 xs now s w (.returned (.tuple #[.bool false,.int .i64 er])) w'):=by
  intro er hu he w' hb;exact⟨false,er,rfl,hb,he,⟨(λe=>by cases e),λe=>absurd e.1 hu⟩⟩
 cases hok:zP s
 ·rw[hok,cP hok]at h6
  have H4:Hid (∀w',Below w.heap.size w w'->x9 xs now s w (.returned (.tuple #[.bool false,.int .i64 4])) w'):=h4.out 4 (by decide) (by rw[hok];rfl)
  generalize x9 xs now s w=P at *;clear h hs hQ hO hok h4 HN HW;go_enter func21,ntmps21
  go_wp2_with(go_at_call 45;refine h6.mono ?_;rintro e w1 ⟨rfl,h0⟩)
  exact H4.out _ (h0.alloc h0.size _)
 ·rw[hok,kH hok]at h6
  have h7:Hid (∀w1,Calls prog 46 #[.agg #[.string (qj s).k,.string (qj s).n,.string (qj s).r,.string (qK s).k,.string (qK s).n,.string (qK s).r]] w1 λe w'=>e=.returned (.bool (vd s))/\Below w1.heap.size w1 w'):=λw1=>dV _ _ _ _ _ _ w1;cases hc:vd s
  ·rw[hc]at h7
   have H4:Hid (∀w',Below w.heap.size w w'->x9 xs now s w (.returned (.tuple #[.bool false,.int .i64 4])) w'):=h4.out 4 (by decide) (by rw[hok,hc];rfl)
   generalize x9 xs now s w=P at *;generalize qj s=x at *;generalize qK s=y at *;clear h hs hQ hO hok h4 HN HW hc;go_enter func21,ntmps21
   go_wp2_with(first|(go_at_call 45;refine h6.mono ?_;rintro e w1 ⟨rfl,h0⟩)|(go_at_call 46;refine(h7.out _).mono ?_;rintro e w2 ⟨rfl,h1⟩;have h2:Below w.heap.size w w2:=(h0.alloc h0.size _).trans (h1.mono (by have:=h0.size;simp;omega))))
   exact H4.out _ h2
  ·rw[hc]at h7
   have h8:Hid (∀w1,Below w.heap.size w w1->Calls prog 47 #[.pointer (some ⟨b,0,none⟩),.agg #[.string (qj s).k,.string (qj s).n,.string (qj s).r]] w1 λe w'=>e=.returned (.bool (x8 xs (qj s)))/\Below w1.heap.size w1 w'):=λw1 hb=>mF (h.to hb.block) hO;cases hr:x8 xs (qj s)
   ·rw[hr]at h8
    have H5:Hid (∀w',Below w.heap.size w w'->x9 xs now s w (.returned (.tuple #[.bool false,.int .i64 5])) w'):=h4.out 5 (by decide) (by rw[hok,hc,hr];rfl)
    generalize x9 xs now s w=P at *;generalize qj s=x at *;generalize qK s=y at *;clear h hs hQ hO hok h4 HN HW hc hr;go_enter func21,ntmps21
    go_wp2_with(first|(go_at_call 45;refine h6.mono ?_;rintro e w1 ⟨rfl,h0⟩)|(go_at_call 46;refine(h7.out _).mono ?_;rintro e w2 ⟨rfl,h1⟩;have h2:Below w.heap.size w w2:=(h0.alloc h0.size _).trans (h1.mono (by have:=h0.size;simp;omega));have k0:=h1.cell (p:=⟨w1.heap.size,0,none⟩) (by simp);have k1:=h1.cell (p:=⟨w1.heap.size,1,none⟩) (by simp);have k2:=h1.cell (p:=⟨w1.heap.size,2,none⟩) (by simp))|(go_at_call 47;refine(h8.out _ h2).mono ?_;rintro e w3 ⟨rfl,h9⟩))
    exact H5.out _ (h2.trans (h9.mono h2.size))
   ·rw[hr]at h8
    have q:=hQ hok hr;have hi:Hid (∀(wq:World) (qb:Nat),Below w.heap.size w wq->wq.heap[qb]?=some (.cells (ya (qj s) (qK s)).toArray 77 (0,0))->Calls prog 42 #[.pointer (some ⟨b,0,none⟩)] wq λe w1=> ∃tb,e=.returned (.pointer (some ⟨tb,0,none⟩))/\w1.heap[qb]?=some (.cells (ya (qj s) (qK s)).toArray 77 (0,0))/\Hid (∀w1',Below w1.heap.size w1 w1'->Calls prog 43 #[.pointer (some ⟨tb,0,none⟩),.agg #[.string (qj s).k,.string (qj s).n,.string (qj s).r]] w1' λe w2=> ∃wb,e=.returned (.pointer (some ⟨wb,0,none⟩))/\w2.heap[qb]?=some (.cells (ya (qj s) (qK s)).toArray 77 (0,0))/\Hid (∀w2',Below w2.heap.size w2 w2'->Calls prog 48 #[.pointer (some ⟨wb,0,none⟩),.agg #[.string (qK s).k,.string (qK s).n,.string (qK s).r]] w2' λe w'=> ∃bo,e=.returned (.bool bo)/\x9 xs now s w (.returned (.tuple #[.bool bo,.int .i64 0])) w'))):=by
     intro wq qb hb hq;refine(Zb HN HW (h.to hb.block) q.ok q.th q.rU hq).mono ?_;rintro e w1 ⟨tb,he,hm,HC⟩;refine⟨tb,he,hm,?_⟩;intro w1' h0;refine(HC.out w1' h0).mono ?_;rintro e w2 ⟨wb,hk,ha,hA⟩;refine⟨wb,hk,ha,?_⟩;intro w2' h1;refine(hA.out.has w2' h1 (qK s) q.sz).mono ?_;rintro e w' ⟨bo,hj,hf,hl⟩;exact⟨bo,hj,bo,0,rfl,hb.trans (hl.mono hb.size),by rw[hok,hc,hr];rfl,hf.trans ⟨λe=>⟨rfl,e⟩,λe=>e.2⟩⟩
    generalize x9 xs now s w=P at *;clear q hQ hO;generalize qj s=x at *;generalize qK s=y at *;clear h hs hok h4 HN HW hc hr;go_enter func21,ntmps21
    go_wp2_with(first|(go_at_call 45;refine h6.mono ?_;rintro e w1 ⟨rfl,h0⟩)|(go_at_call 46;refine(h7.out _).mono ?_;rintro e w2 ⟨rfl,h1⟩;have h2:Below w.heap.size w w2:=(h0.alloc h0.size _).trans (h1.mono (by have:=h0.size;simp;omega));have k0:=h1.cell (p:=⟨w1.heap.size,0,none⟩) (by simp);have k1:=h1.cell (p:=⟨w1.heap.size,1,none⟩) (by simp);have k2:=h1.cell (p:=⟨w1.heap.size,2,none⟩) (by simp);have ha:w2.heap[w1.heap.size]?=some (.cells (ya x y).toArray 77 (0,0)):=(h1.block _ (by simp)).trans (qn w1 (ya x y) _))|(go_at_call 47;refine(h8.out _ h2).mono ?_;rintro e w3 ⟨rfl,h9⟩))
    have hg:Below w.heap.size w w3:=h2.trans (h9.mono h2.size);have h3:w3.heap[w1.heap.size]?=some (.cells (ya x y).toArray 77 (0,0)):=(h9.block _ (qc ha)).trans ha;have ht:Hid _:=hi.out w3.drew w1.heap.size hg.drew h3;have l0:w3.drew.cell? ⟨w1.heap.size,0,none⟩=some (.string x.k):=qa h3 (j:=0) rfl;have l1:w3.drew.cell? ⟨w1.heap.size,1,none⟩=some (.string x.n):=qa h3 (j:=1) rfl;have l2:w3.drew.cell? ⟨w1.heap.size,2,none⟩=some (.string x.r):=qa h3 (j:=2) rfl;have l3:w3.drew.cell? ⟨w1.heap.size,3,none⟩=some (.string y.k):=qa h3 (j:=3) rfl;have l4:w3.drew.cell? ⟨w1.heap.size,4,none⟩=some (.string y.n):=qa h3 (j:=4) rfl;have l5:w3.drew.cell? ⟨w1.heap.size,5,none⟩=some (.string y.r):=qa h3 (j:=5) rfl;clear hi h3 ha hg h2 h9 h1 h0 h7 h8 k0 k1 k2
    go_region_with(first|(go_at_call 42;refine(Calls.mono ht.out) ?_;rintro e w4 ⟨tb,rfl,h5,hn⟩;have m0:=qa h5 (j:=0) rfl;have m1:=qa h5 (j:=1) rfl;have m2:=qa h5 (j:=2) rfl;have m3:=qa h5 (j:=3) rfl;have m4:=qa h5 (j:=4) rfl;have m5:=qa h5 (j:=5) rfl;clear h5)|(go_at_call 43;refine(hn.out _ bl).mono ?_;rintro e w5 ⟨wb,rfl,hd,ho⟩;have p3:=qa hd (j:=3) rfl;have p4:=qa hd (j:=4) rfl;have p5:=qa hd (j:=5) rfl;clear hd)|(go_at_call 48;refine(ho.out _ bl).mono ?_;rintro e w6 ⟨bo,rfl,hp⟩))
    all_goals go_wp2
    all_goals exact bodyPost_ret (v:=.tuple #[.bool bo,.int .i64 0]) (by simp[results,results21,go_sem]) rfl hp
theorem oW(HW:Hid uL)(ok:DocOk xs now)(h:DocAt xs now b g g.nowV w)(s:BA)(hs:s.size<=maxLen):
  Calls prog 120 #[.pointer (some ⟨b,0,none⟩),.string s] w (x9 xs now s w):=by
 obtain⟨nd,th,c,er,ha,h6⟩:=kY ok h s hs;have h7:Hid (∀er:Int,er≠0->er=(if zP s=false\/vd s=false then 4 else if x8 xs (qj s)=false then 5 else 0)-> ∀w',Below w.heap.size w w'->x9 xs now s w (.returned (.tuple #[.bool false,.int .i64 er])) w'):=by
  intro er hi he w' hb;exact⟨false,er,rfl,hb,he,⟨(λe=>by cases e),λe=>absurd e.1 hi⟩⟩
 cases ha with
 |none h1=>
  have H4:Hid (∀w',Below w.heap.size w w'->x9 xs now s w (.returned (.tuple #[.bool false,.int .i64 4])) w'):=h7.out 4 (by decide) (by rw[h1];rfl)
  generalize x9 xs now s w=P at *;clear h hs h7 HW ok h1;go_enter func120,ntmps120
  go_wp2_with(go_at_call 168;refine h6.mono ?_;rintro e w1 ⟨rfl,h0⟩)
  exact H4.out _ h0
 |free c h1 h2 h3=>
  cases c with
  |true=>
   have H4:Hid (∀w',Below w.heap.size w w'->x9 xs now s w (.returned (.tuple #[.bool false,.int .i64 5])) w'):=h7.out 5 (by decide) (by rw[h1,h2,h3];rfl)
   generalize x9 xs now s w=P at *;clear h hs h7 HW ok h1 h2 h3;go_enter func120,ntmps120
   go_wp2_with(go_at_call 168;refine h6.mono ?_;rintro e w1 ⟨rfl,h0⟩)
   exact H4.out _ h0
  |false=>
   have H4:Hid (∀w',Below w.heap.size w w'->x9 xs now s w (.returned (.tuple #[.bool false,.int .i64 4])) w'):=h7.out 4 (by decide) (by rw[h2];simp)
   generalize x9 xs now s w=P at *;clear h hs h7 HW ok h1 h2 h3;go_enter func120,ntmps120
   go_wp2_with(go_at_call 168;refine h6.mono ?_;rintro e w1 ⟨rfl,h0⟩)
   exact H4.out _ h0
 |some t c k n r h1 h2 h3 nm h4 h5=>
  cases c with
  |false=>
   have H4:Hid (∀w',Below w.heap.size w w'->x9 xs now s w (.returned (.tuple #[.bool false,.int .i64 4])) w'):=h7.out 4 (by decide) (by rw[h2];simp)
   generalize x9 xs now s w=P at *;generalize txT (qj s)=nd at *;clear h hs h7 HW ok h1 h2 h3 nm h4;go_enter func120,ntmps120
   go_wp2_with(go_at_call 168;refine h6.mono ?_;rintro e w1 ⟨rfl,h0⟩)
   exact H4.out _ h0
  |true=>
   have hc:=h4 rfl;clear h4;have hd:Hid (∀w1,Below w.heap.size w w1->Calls prog 169 #[.pointer (some ⟨b,0,none⟩),g.nowV,.string (txT (qj s))] w1 λe w2=> ∃o n c,e=.returned (.slice o n c)/\Hid (Calls prog 170 #[.slice o n c,.string th] w2 λe w3=> ∃i:Int,e=.returned (.int .i64 i)/\x9 xs now s w (.returned (.tuple #[.bool (decide (0<=i)),.int .i64 0])) w3)):=by
    intro w1 h0;refine(HW.out ok (h.below h0) nm).mono ?_;rintro e w2 ⟨o,c,zs,rfl,q1,q2,q3,q4,q5⟩;refine⟨o,_,c,rfl,?_⟩;have h8:Below w.heap.size w w2:=h0.trans (q5.mono h0.size);refine(ii _ zs th w2 q1 (by have:=ji;omega)).mono ?_
    rintro e w3 ⟨rfl,hk⟩;subst w3;refine⟨_,rfl,_,0,rfl,h8,by rw[h1,h2,h3];rfl,?_⟩
    rw[decide_eq_true_iff,pq,q4,hc];exact⟨λe=>⟨rfl,e⟩,λe=>e.2⟩
   have hf:=qa h.rg (j:=1) rfl;have hg:=qc h.rg;obtain⟨nx,nn,nc,h9⟩: ∃x n c,g.nowV=.slice x n c:=by
    rcases h.tv with⟨e,-⟩|⟨b,off,cap,e,-⟩
    ·exact⟨_,_,_,e⟩
    ·exact⟨_,_,_,e⟩
   rw[h9]at hf hd;generalize x9 xs now s w=P at *;generalize txT (qj s)=nd at *;clear h hs h7 HW ok h1 h2 h3 nm hc h9;go_enter func120,ntmps120
   go_wp2_with(first|(go_at_call 168;refine h6.mono ?_;rintro e w1 ⟨rfl,h0⟩;have hj:=(h0.cell hg).trans hf)|(go_at_call 169;refine(hd.out _ (by first|exact h0|exact h0.drew)).mono ?_;rintro e w2 ⟨o,n,c,rfl,HX⟩)|(go_at_call 170;refine HX.out.mono ?_;rintro e w3 ⟨i,rfl,hp⟩))
   exact hp
theorem wP(HN:Hid jC)(ok:DocOk xs now)(h:DocAt xs now b g g.nowV w)(s:BA)(hs:s.size<=maxLen):
  Calls prog 121 #[.pointer (some ⟨b,0,none⟩),.string s] w (uH xs now s w):=by
 obtain⟨nd,th,c,er,ha,h6⟩:=kY ok h s hs;have key:er≠0->er=zS xs s->Calls prog 121 #[.pointer (some ⟨b,0,none⟩),.string s] w (uH xs now s w):=by
  intro he h7;have HP:Hid (∀w',Below w.heap.size w w'->uH xs now s w (.returned (.tuple #[.int .i64 0,.int .i64 er])) w'):=λw' hb=>⟨0,by rw[h7];rfl,hb,by rw[if_neg (by rw[←h7];exact he)]⟩
  have hf:(er !=0)=true:=by simpa using he
  generalize uH xs now s w=P at *;clear h hs HN ok ha he h7;go_enter func121,ntmps121
  go_wp2_with(go_at_call 168;refine h6.mono ?_;rintro e w1 ⟨rfl,h0⟩)
  exact HP.out _ h0
 cases ha with
 |none h1=>exact key (by decide) (if_pos h1).symm
 |free c h1 h2 h3=>exact key (by decide) (by unfold zS;rw[h1,h3];rfl)
 |some t c k n r h1 h2 h3 nm h4 h5=>
  have he:zS xs s=0:=by unfold zS;rw[h1,h3];rfl
  have h8:Hid (∀w1,Below w.heap.size w w1->Calls prog 171 #[.pointer (some ⟨b,0,none⟩),g.nowV,.string (txT (qj s))] w1 λe w2=> ∃o,∃n:Nat,∃c,e=.returned (.slice o n c)/\uH xs now s w (.returned (.tuple #[.int .i64 n,.int .i64 0])) w2):=by
   intro w1 h0;refine(HN.out ok (h.below h0) nm).mono ?_;rintro e w2 ⟨o,c,met,rfl,q1,q2,q3,q4⟩;exact⟨o,met.length,c,rfl,met.length,by rw[he],h0.trans (q4.mono h0.size),by rw[if_pos he];exact⟨met,rfl,q1.nd,q1.gone.all,by omega⟩⟩
  have hc:=qa h.rg (j:=1) rfl;have hd:=qc h.rg;obtain⟨nx,nn,nc,h9⟩: ∃x n c,g.nowV=.slice x n c:=by
   rcases h.tv with⟨e,-⟩|⟨b,off,cap,e,-⟩
   ·exact⟨_,_,_,e⟩
   ·exact⟨_,_,_,e⟩
  rw[h9]at hc h8;generalize uH xs now s w=P at *;generalize txT (qj s)=nd at *;clear h hs HN ok h1 h2 h3 nm h4 h9 key he;go_enter func121,ntmps121
  go_wp2_with(first|(go_at_call 168;refine h6.mono ?_;rintro e w1 ⟨rfl,h0⟩;have hg:=(h0.cell hd).trans hc)|(go_at_call 171;refine(h8.out _ (by first|exact h0|exact h0.drew)).mono ?_;rintro e w2 ⟨o,n,c,rfl,hp⟩))
  exact hp
theorem ki(s:BA)(hs:s.size<=maxLen):uq (qj s):=by
 have h0:(rd0 s).rest.size=s.size:=rfl;have h1:=pS (rd0 s);rw[h0]at h1;refine⟨Ue h1.1 hs,?_,Ue h1.2 hs⟩;have h2:=xV (rd0 s);have h3:=xE (rd0 s).name {data:= #[58]};have h4:=jy ((rd0 s).name.must {data:= #[58]}).rest;have:(qj s).n.size<=((rd0 s).name.must {data:= #[58]}).rest.size:=h4;omega
variable{B:Nat}{V:Int}{p:PS}
variable{W:World}{l1 l3 pv:Value}{wb:Nat}{ws:List Value}
theorem Yi(er:Int){n n':Nat}{P:Nod->Prop}(h:if er=0 then∃met:List Nod,n=met.length/\met.Nodup/\(∀y,y∈met↔P y)/\met.length<=32000000 else n=0)(h':if er=0 then∃met:List Nod,n'=met.length/\met.Nodup/\(∀y,y∈met↔P y)/\met.length<=32000000 else n'=0):n=n':=by
 by_cases h0:er=0
 ·rw[if_pos h0]at h h'
  obtain⟨met,rfl,h1,h2,-⟩:=h;obtain⟨met',rfl,h4,h3,-⟩:=h';exact Nat.le_antisymm (xP _ _ h1 λa ha=>(h3 a).2 ((h2 a).1 ha)) (xP _ _ h4 λa ha=>(h2 a).2 ((h3 a).1 ha))
 ·rw[if_neg h0]at h h'
  rw[h,h']
theorem ti(h:uH xs now s w e w'): ∃(k:Nat) (er:Int),er=zS xs s/\e=.returned (.tuple #[.int .i64 k,.int .i64 er])/\Below w.heap.size w w'/\(if er=0 then∃met:List Nod,k=met.length/\met.Nodup/\(∀y,y∈met↔Rch (qt now) (qi xs) (qj s) y)/\met.length<=32000000 else k=0):=by
 unfold uH at h;generalize zS xs s=er at h ⊢;obtain⟨k,h⟩:=h;exact⟨k,er,rfl,h⟩
variable{rb:Nat}
theorem ZT{gb:Nat}{Q:World->Prop}(HG:Hid (Calls prog 20 #[.pointer (some ⟨gb,0,none⟩),.string s] w (uH xs now s w)))(HF:Hid (∀w',Below w.heap.size w w'->Calls prog 121 #[.pointer (some ⟨rb,0,none⟩),.string s] w' (uH xs now s w')))(HP:Hid (∀w',Below w.heap.size w w'->Q w')):
  Calls prog 20 #[.pointer (some ⟨gb,0,none⟩),.string s] w λe w2=> ∃(n er:Int),e=.returned (.tuple #[.int .i64 n,.int .i64 er])/\Below w.heap.size w w2/\
   ∀w2',Below w2.heap.size w2 w2'->Calls prog 121 #[.pointer (some ⟨rb,0,none⟩),.string s] w2' λe w3=>e=.returned (.tuple #[.int .i64 n,.int .i64 er])/\Q w3:=by
 refine HG.out.mono ?_;intro e w2 hq;obtain⟨n,er,he,rfl,h1,HQ⟩:=ti hq;clear hq;refine⟨n,er,rfl,h1,λw2' hb=>?_⟩;have h0:Below w.heap.size w w2':=h1.trans (hb.mono h1.size);refine(HF.out w2' h0).mono ?_;intro e w3 hr;obtain⟨n',er',h2,rfl,h3,h4⟩:=ti hr;clear hr;have e1:er'=er:=h2.trans he.symm;clear he h2;subst e1;have e2:n'=n:=Yi er' h4 HQ;subst e2;exact⟨rfl,HP.out w3 (h0.trans (h3.mono h0.size))⟩
structure OpOk2(W:World)(o:OpR):Prop where
 ok:OpOk W o
 hs:o.s.size<=maxLen
theorem JR(ht:pX W tv xs): ∃tx tn tc,tv=.slice tx tn tc:=by
 rcases ht with⟨rfl,-⟩|⟨a,rfl,-⟩|⟨b,off,cap,rfl,-⟩
 ·exact⟨_,_,_,rfl⟩
 ·exact⟨_,_,_,rfl⟩
 ·exact⟨_,_,_,rfl⟩
structure WIn(O:Nat->Prop)(tb:Nat)(f:Nod->Option Value)(wb nb mb:Nat)(L:TL)(sv:Value):Prop where
 tb:O tb
 nt: ∀k,ur L.nt L.mt L.st k->O k
 nr: ∀k,mS L k->O k
 nu: ∀k,ur L.nu L.mu L.su k->O k
 ms:O L.ms
 mw:O L.mw
 rows: ∀x v k,f x=some v->v.ownBlock=some k->O k
 nm: ∀k,ur nb mb sv k->O k
 wb:O wb
variable{O:Nat->Prop}{lo mb nb:Nat}{sv:Value}
theorem NumAt.keepO{enc:α->Value}{cl:α->List Value}{Gd:Value->Prop}{tN tE:TypeId}{size:Nat}{vs:List α}(h:NumAt enc cl Gd tN tE size w lo nb mb sv vs)(ho: ∀k,ur nb mb sv k->O k)(hk: ∀k,O k->k<w.heap.size->w'.heap[k]?=w.heap[k]?):NumAt enc cl Gd tN tE size w' lo nb mb sv vs:=
 ⟨(hk nb (ho _ (Or.inl rfl)) (qc h.blk)).trans h.blk,h.map.move (hk mb (ho _ (Or.inr (Or.inl rfl))) h.map.lt),qF h.row λg hg=>hk g (ho _ (Or.inr (Or.inr hg))) (qf h.row g hg).1,h.nd,h.lob,h.lom⟩
variable{L:TL}{S:TS}{f:Nod->Option Value}{gone sb tb:Nat}{who:Nod->Nat}
theorem WA.keepO(h:WA U ts xs lo tb sb f who wb nb mb L S sv met gone w)(i:WIn O tb f wb nb mb L sv)
  (hs:w.heap.size<=w'.heap.size) (hk: ∀k,O k->k<w.heap.size->w'.heap[k]?=w.heap[k]?) (hr:zp w' L.mb xs):WA U ts xs lo tb sb f who wb nb mb L S sv met gone w':=by
 obtain⟨ms,h1,h3⟩:=h.ta.t.sub;obtain⟨mw,h0,h2⟩:=h.ta.t.wh;refine⟨⟨⟨(hk tb i.tb (qc h.ta.t.blk)).trans h.ta.t.blk,h.ta.t.th.keepO i.nt hk,h.ta.t.rl.keepO i.nr hk,h.ta.t.us.keepO i.nu hk,⟨ms,h1.move (hk _ i.ms h1.map.lt),h3⟩,⟨mw,h0.move (hk _ i.mw h0.lt),h2⟩,h.ta.t.ok,h.ta.t.maps,h.ta.t.ntu,h.ta.t.stu,h.ta.t.lob,h.ta.t.los,h.ta.t.low⟩,⟨λx v hv=>⟨qF (h.ta.s.row x v hv).1 λg hg=>hk g (i.rows x v g hv hg) (qf (h.ta.s.row x v hv).1 g hg).1,(h.ta.s.row x v hv).2⟩,h.ta.s.no,h.ta.s.kn,h.ta.s.apart⟩,hr,Ue h.ta.sb hs,h.ta.tn⟩,⟨h.m.num.keepO i.nm hk,h.m.kn,h.m.ms,h.m.svb⟩,(hk wb i.wb (qc h.blk)).trans h.blk,h.nodes,h.gl⟩
theorem WA.inLo(h:WA U ts xs lo tb sb f who wb nb mb L S sv met gone w)(hw:lo<=wb):WIn (λk=>lo<=k/\k<w.heap.size) tb f wb nb mb L sv:=by
 obtain⟨ms,h1,h3⟩:=h.ta.t.sub;obtain⟨mw,h0,h2⟩:=h.ta.t.wh;exact⟨⟨h.ta.t.lob,qc h.ta.t.blk⟩,λk hk=>⟨(h.ta.t.th.lt hk).2,(h.ta.t.th.lt hk).1⟩,λk hk=>⟨(h.ta.t.rl.lt hk).2,(h.ta.t.rl.lt hk).1⟩,λk hk=>⟨(h.ta.t.us.lt hk).2,(h.ta.t.us.lt hk).1⟩,⟨h.ta.t.los,h1.map.lt⟩,⟨h.ta.t.low,h0.lt⟩,λx v k hv hk=>⟨(qf (h.ta.s.row x v hv).1 k hk).2.1,(qf (h.ta.s.row x v hv).1 k hk).1⟩,λk hk=>⟨(h.m.num.lt hk).2,(h.m.num.lt hk).1⟩,hw,qc h.blk⟩
def more(O:Nat->Prop)(w w':World)(k:Nat):Prop:=O k\/(w.heap.size<=k/\k<w'.heap.size)
theorem WStep.inO{L':TL}{S':TS}{sv':Value}{met':List Nod}{gone':Nat}(h:WStep U ts xs lo tb sb f who wb nb mb L S sv w L' S' sv' met' gone' w')(i:WIn O tb f wb nb mb L sv):WIn (more O w w') tb f wb nb mb L' sv':=by
 have hl:=h.loc;refine⟨Or.inl i.tb,λk hk=>?_,λk hk=>?_,λk hk=>?_,?_,?_,λx v k hv hk=>Or.inl (i.rows x v k hv hk),λk hk=>?_,Or.inl i.wb⟩
 ·rw[hl]at hk;exact Or.inl (i.nt k hk)
 ·have h0:=(h.at'.ta.t.rl.lt hk).1
  rcases hk with e|e|e
  ·rw[hl]at e;exact Or.inl (i.nr k (Or.inl e))
  ·rw[hl]at e;exact Or.inl (i.nr k (Or.inr (Or.inl e)))
  ·rcases h.ownR k e with e|e
   ·exact Or.inl (i.nr k (Or.inr (Or.inr e)))
   ·exact Or.inr ⟨e,h0⟩
 ·rw[hl]at hk;exact Or.inl (i.nu k hk)
 ·rw[hl];exact Or.inl i.ms
 ·rw[hl];exact Or.inl i.mw
 ·have h0:=(h.at'.m.num.lt hk).1
  rcases hk with e|e|e
  ·exact Or.inl (i.nm k (Or.inl e))
  ·exact Or.inl (i.nm k (Or.inr (Or.inl e)))
  ·rcases h.ownM k e with e|e
   ·exact Or.inl (i.nm k (Or.inr (Or.inr e)))
   ·exact Or.inr ⟨e,h0⟩
theorem WIn.walk(i:WIn O tb f wb nb mb L sv){k:Nat}(hk:nP wb nb mb L sv k):O k:=by
 rcases hk with e|e|e
 ·exact i.nr k e
 ·exact i.nm k e
 ·rw[e];exact i.wb
end Go.Proofs.YtalmoiogbdahcaaGreat
namespace Go.Proofs.YtalmoiogbdahcaaGreat
set_option maxRecDepth 100000
set_option maxHeartbeats 8000000
open Go.RowKit Go.Shelf
variable{a s:BA}{is V:Int}{ts:List (Nod×Nod)}{x y u:Nod}{now xs out us U:List BA}{met:List Nod}{k n r ku nu:List UInt8}{b i B wb rb lo mb nb gone sb tb:Nat}{g:Rg}{tv nv wv ov l1 l3 pv sv:Value}{w w' w5 wr W:World}{op:UInt8}{l:List WayT}{P Q:BA->Prop}{whoL:List (List BA)}{α:Type}{e:Ending}{p:PS}{ws:List Value}{O:Nat->Prop}{L:TL}{S:TS}{f:Nod->Option Value}
theorem WIn.who(i:WIn O tb f wb nb mb L sv){k:Nat}(hk:am wb nb mb L sv k):O k:=by
 rcases hk with e|e
 ·exact i.walk e
 ·rw[e];exact i.mw
variable{who:Nod->Nat}
structure WCr(xs now U:List BA)(who:Nod->Nat)(S:TS):Prop where
 cov:Cov U xs
 sm: ∀y,who y<2 ^ 64
 th: ∀y:Nod,y.isTh=true-> ∀i,i<64->((who y).testBit i=true↔S.uss[i]?=some y)
 no: ∀y:Nod,y.isTh=false->who y=0
 ul:S.uss.length<=50
 sz: ∀u∈S.uss,u.k.size+1+u.n.size<=maxLen
 inj: ∀(i j:Nat) (u v:Nod),S.uss[i]?=some u->S.uss[j]?=some v->thT u=thT v->i=j
 us: ∀u,u∈S.uss↔u.isTh=true/\ ∃t∈qt now,t.2=u
structure WkAt(xs now:List BA)(x:Nod)(mr:Nat)(O:Nat->Prop)(wb:Nat)(met:List Nod)(gone:Nat)(w:World):Prop where
 ex: ∃U lo tb sb f who nb mb L S sv,WA U (qt now) xs lo tb sb f who wb nb mb L S sv met gone w/\WIn O tb f wb nb mb L sv/\L.mb=mr/\WCr xs now U who S
 gn:Gone (qt now) xs x met gone
 lt: ∀k,O k->k<w.heap.size
variable{mr:Nat}
theorem WkAt.keep(h:WkAt xs now x mr O wb met gone w)(hs:w.heap.size<=w'.heap.size)(hk: ∀k,O k->w'.heap[k]?=w.heap[k]?)(hr:zp w' mr xs):WkAt xs now x mr O wb met gone w':=by
 obtain⟨U,lo,tb,sb,f,who,nb,mb,L,S,sv,h1,h2,h3,h4⟩:=h.ex;exact⟨⟨U,lo,tb,sb,f,who,nb,mb,L,S,sv,h1.keepO h2 hs (λk h0 _=>hk k h0) (by rw[h3];exact hr),h2,h3,h4⟩,h.gn,λk h0=>Ug (h.lt k h0) hs⟩
theorem WkAt.below(h:WkAt xs now x mr O wb met gone w)(hb:Below w.heap.size w w'):WkAt xs now x mr O wb met gone w':=by
 obtain⟨U,lo,tb,sb,f,who,nb,mb,L,S,sv,h1,h2,h3,h4⟩:=h.ex;exact h.keep hb.size (λk hk=>hb.block k (h.lt k hk)) (by rw[←h3];exact h1.ta.r.below hb)
theorem WkAt.rules(h:WkAt xs now x mr O wb met gone w):zp w mr xs:=by
 obtain⟨U,lo,tb,sb,f,who,nb,mb,L,S,sv,h1,h2,h3,h4⟩:=h.ex;rw[←h3];exact h1.ta.r
theorem WkAt.gl(h:WkAt xs now x mr O wb met gone w):gone<=met.length/\met.length<=32000000:=by
 obtain⟨U,lo,tb,sb,f,who,nb,mb,L,S,sv,h1,h2,h3,h4⟩:=h.ex;exact⟨h1.gl,vM h1.ta.t.ok h1.m.num.nd h1.m.kn⟩
theorem WkAt.ended(h:WkAt xs now x mr O wb met gone w):
  Calls prog 139 #[.pointer (some ⟨wb,0,none⟩)] w λe w'=>e=.returned (.bool (decide (gone=met.length)))/\Below w.heap.size w w':=by
 obtain⟨U,lo,tb,sb,f,who,nb,mb,L,S,sv,h1,h2,h3,h4⟩:=h.ex;exact kE h1
theorem WkAt.step(HW:Hid xh)(h:WkAt xs now x mr O wb met gone w)(hg:gone<met.length):
  Calls prog 140 #[.pointer (some ⟨wb,0,none⟩)] w λe w'=>e=.returned (.tuple #[])/\Frm O w w'/\ ∃met',WkAt xs now x mr (more O w w') wb met' (gone+1) w':=by
 obtain⟨U,lo,tb,sb,f,who,nb,mb,L,S,sv,h1,h2,h3,h4⟩:=h.ex;refine(dT HW h4.cov h1 (OC hg)).mono ?_;rintro e w' ⟨he,L',S',sv',hs⟩;refine⟨he,hs.fr.mono λk _ hk=>h2.walk hk,_,⟨U,lo,tb,sb,f,who,nb,mb,L',S',sv',hs.at',hs.inO h2,by rw[hs.loc];exact h3,?_⟩,h.gn.next (OC hg),λk hk=>?_⟩
 ·exact⟨h4.cov,h4.sm,by rw[hs.uss];exact h4.th,h4.no,by rw[hs.uss];exact h4.ul,by rw[hs.uss];exact h4.sz,by rw[hs.uss];exact h4.inj,by rw[hs.uss];exact h4.us⟩
 ·rcases hk with e|e
  ·exact Ug (h.lt k e) hs.fr.size
  ·exact e.2
theorem WCr.st(h:WCr xs now U who S)(x:Nod)(s:BA):(∃u∈S.uss,Std (qt now) (qi xs) u x/\thT u=s)↔ ∃u,InN (qt now) xs u x/\thT u=s:=by
 constructor
 ·rintro⟨u,h1,h2,h3⟩
  exact⟨u,⟨((h.us u).1 h1).1,((h.us u).1 h1).2,h2⟩,h3⟩
 ·rintro⟨u,⟨h1,h2,h4⟩,h3⟩
  exact⟨u,(h.us u).2 ⟨h1,h2⟩,h4,h3⟩
theorem WkAt.has(HW:Hid xh)(h:WkAt xs now x mr O wb met gone w)(y:Nod)(hy:y.k.size+1+y.n.size<=maxLen):
  Calls prog 48 #[.pointer (some ⟨wb,0,none⟩),.agg #[.string y.k,.string y.n,.string y.r]] w λe w'=> ∃b,e=.returned (.bool b)/\(b=true↔ ∃u,InN (qt now) xs u x/\thT u=thT y)/\Frm O w w':=by
 obtain⟨U,lo,tb,sb,f,who,nb,mb,L,S,sv,h1,h2,h3,h4⟩:=h.ex;refine(ed HW h4.cov h1 h.gn h4.sm h4.th h4.no h4.ul h4.sz h4.inj y hy).mono ?_;rintro e w' ⟨b,he,h0,hf⟩;exact⟨b,he,h0.trans (h4.st x _),hf.mono λk _ hk=>h2.who hk⟩
end Go.Proofs.YtalmoiogbdahcaaGreat
namespace Go.Proofs.YtalmoiogbdahcaaGreat
set_option maxRecDepth 100000
set_option maxHeartbeats 8000000
open Go.RowKit Go.Shelf
variable{a s:BA}{is V:Int}{ts:List (Nod×Nod)}{x y u:Nod}{now xs out us U:List BA}{met:List Nod}{k n r ku nu:List UInt8}{b i B wb rb lo mb nb gone sb tb mr:Nat}{g:Rg}{tv nv wv ov l1 l3 pv sv:Value}{w w' w5 wr W:World}{op:UInt8}{l:List WayT}{P Q:BA->Prop}{whoL:List (List BA)}{α:Type}{e:Ending}{p:PS}{ws:List Value}{O:Nat->Prop}{L:TL}{S:TS}{f:Nod->Option Value}
theorem WkAt.who(HW:Hid xh)(h:WkAt xs now x mr O wb met gone w):
  Calls prog 83 #[.pointer (some ⟨wb,0,none⟩)] w λe w'=> ∃zs o c,e=.returned (.slice o zs.length c)/\zy zs/\(∀s,s∈zs↔ ∃u,InN (qt now) xs u x/\thT u=s)/\zs.length<=50/\w'.ownsRow w.heap.size 9 1 (.slice o zs.length c) zs.length (qg zs)/\Frm O w w':=by
 obtain⟨U,lo,tb,sb,f,who,nb,mb,L,S,sv,h1,h2,h3,h4⟩:=h.ex;refine(rX HW h4.cov h1 h.gn h4.sm h4.th h4.no h4.ul h4.sz h4.inj).mono ?_;rintro e w' ⟨zs,v,he,h6,hm,h5,h0,hf⟩;obtain⟨o,c,rfl⟩:=qz h0;exact⟨zs,o,c,he,h6,λs=>(hm s).trans (h4.st x s),h5,h0,hf.mono λk _ hk=>h2.who hk⟩
variable{who:Nod->Nat}
def lI(xs now:List BA)(x:Nod)(n:Nat):Prop:= ∃met:List Nod,met.Nodup/\(∀y,y∈met↔Rch (qt now) (qi xs) x y)/\met.length=n
theorem WkAt.allN(h:WkAt xs now x mr O wb met gone w)(e:gone=met.length):lI xs now x gone:=by
 obtain⟨U,lo,tb,sb,f,who,nb,mb,L,S,sv,h1,h2,h3,h4⟩:=h.ex;subst e;exact⟨met,h1.m.num.nd,h.gn.all,rfl⟩
theorem WkAt.cost(h:WkAt xs now x mr O wb met gone w){n:Nat}(hn:lI xs now x n):met.length<=n/\(gone=met.length->gone=n):=by
 obtain⟨U,lo,tb,sb,f,who,nb,mb,L,S,sv,h1,h2,h3,h4⟩:=h.ex;obtain⟨all,a1,a2,a3⟩:=hn;have h0:met.length<=n:=by
  rw[←a3];exact xP _ _ h1.m.num.nd λy hy=>(a2 y).2 (h.gn.rch y hy)
 refine⟨h0,λe=>?_⟩;subst e;refine Nat.le_antisymm h0 ?_;rw[←a3];exact xP _ _ a1 λy hy=>(h.gn.all y).2 ((a2 y).1 hy)
structure Tk where
 x:Nod
 y:Nod
 now:List BA
 bud:Int
 til:Int
structure Rq where
 is:Int
 st:Nat
 al:Bool
 us:List BA
 tk:Option Tk
def rqL(r:Rq)(uv tp:Value):List Value:=[.int .i64 r.is,.int .i64 r.st,.bool r.al,uv,tp]
def tkL(t:Tk)(wb:Nat):List Value:=[.string t.x.k,.string t.x.n,.string t.x.r,.string t.y.k,.string t.y.n,.string t.y.r,.pointer (some ⟨wb,0,none⟩),.int .i64 t.bud,.int .i64 t.til]
structure TkAt(xs:List BA)(mr kb:Nat)(O:Nat->Prop)(wb:Nat)(met:List Nod)(t:Tk)(st:Nat)(w:World):Prop where
 blk:w.heap[kb]?=some (.cells (tkL t wb).toArray 115 (0,0))
 wk:WkAt xs t.now t.x mr O wb met st w
 nO: ¬O kb
 lt:st<met.length
 sy:t.y.k.size+1+t.y.n.size<=maxLen
 bd:(st:Int)<t.bud
 b9:t.bud<=1000000000
 t0:0<=t.til
 t9:t.til<=1000000000
structure RqAt(xs:List BA)(mr rb:Nat)(P:Nat->Prop)(r:Rq)(uv tp:Value)(w:World):Prop where
 blk:w.heap[rb]?=some (.cells (rqL r uv tp).toArray 161 (0,0))
 us:zH w uv r.us
 uP: ∀k,uv.ownBlock=some k->P k/\k≠rb
 no:r.tk=none->tp=.pointer none
 tk: ∀t,r.tk=some t-> ∃kb wb O met,tp=.pointer (some ⟨kb,0,none⟩)/\P kb/\(∀k,O k->P k)/\ ¬O rb/\TkAt xs mr kb O wb met t r.st w
 live:r.tk=none↔ ¬(r.is=1\/r.is=2)
 fresh:r.tk≠none->r.al=false/\r.us=[]/\uv=.slice none 0 0
 rP:P rb
 lt: ∀k,P k->k<w.heap.size
 sl:r.st<=32000000
 ul:r.us.length<=50
 is0:1<=r.is
 is9:r.is<=6
structure Kpt(R:Nat->Prop)(F:World->Prop)(w:World):Prop where
 all: ∀w':World,(∀k,R k->w'.heap[k]?=w.heap[k]?)->F w'
 lt: ∀k,R k->k<w.heap.size
variable{F:World->Prop}{R:Nat->Prop}
end Go.Proofs.YtalmoiogbdahcaaGreat
namespace Go.Proofs.YtalmoiogbdahcaaGreat
set_option maxRecDepth 100000
set_option maxHeartbeats 8000000
open Go.RowKit Go.Shelf
variable{a s:BA}{is V:Int}{ts:List (Nod×Nod)}{x y u:Nod}{xs out us U:List BA}{met:List Nod}{k n r ku nu:List UInt8}{b i B wb rb lo mb nb gone sb tb mr:Nat}{g:Rg}{tv nv wv ov l1 l3 pv sv:Value}{w w' w5 wr W:World}{op:UInt8}{l:List WayT}{P Q:BA->Prop}{whoL:List (List BA)}{α:Type}{e:Ending}{p:PS}{ws:List Value}{O R:Nat->Prop}{L:TL}{S:TS}{f:Nod->Option Value}{who:Nod->Nat}{F:World->Prop}
theorem Kpt.now(h:Kpt R F w):F w:=h.all w λ_ _=>rfl
variable{now:List BA}
theorem Kpt.to(h:Kpt R F w)(hs:w.heap.size<=w'.heap.size)(hk: ∀k,R k->w'.heap[k]?=w.heap[k]?):Kpt R F w':=
 ⟨λw'' h'=>h.all w'' λk e=>(h' k e).trans (hk k e),λk e=>Ug (h.lt k e) hs⟩
theorem Kpt.frm{X:Nat->Prop}(h:Kpt R F w)(hf:Frm X w w')(hx: ∀k,R k-> ¬X k):Kpt R F w':=
 h.to hf.size λk e=>hf.block k (h.lt k e) (hx k e)
theorem Kpt.below(h:Kpt R F w)(hb:Below w.heap.size w w'):Kpt R F w':=
 h.to hb.size λk e=>hb.block k (h.lt k e)
variable{v:Value}
theorem zG(h:zH w v xs): ∀k,v.ownBlock=some k->k<w.heap.size/\ ∃cur:List Value,w.heap[k]?=some (.cells cur.toArray 9 (0,0)):=by
 intro k hk;rcases h with⟨rfl,-⟩|⟨b,cap,cur,rfl,h2,-⟩
 ·cases hk
 ·injection hk with hk
  subst hk;exact⟨qc h2,_,h2⟩
theorem xJ(h:zH w v xs)(hk: ∀k,v.ownBlock=some k->w'.heap[k]?=w.heap[k]?):zH w' v xs:=by
 rcases h with e|⟨b,cap,cur,rfl,h2,h3⟩
 ·exact Or.inl e
 ·exact Or.inr ⟨b,cap,cur,rfl,(hk b rfl).trans h2,h3⟩
variable{t:Tk}
theorem TkAt.keep{kb:Nat}{st:Nat}(h:TkAt xs mr kb O wb met t st w)(hs:w.heap.size<=w'.heap.size)(hk: ∀k,O k->w'.heap[k]?=w.heap[k]?)(hb:w'.heap[kb]?=w.heap[kb]?)(hr:zp w' mr xs):TkAt xs mr kb O wb met t st w':=
 {h with blk:=hb.trans h.blk,wk:=h.wk.keep hs hk hr}
theorem RqAt.keep{P:Nat->Prop}{r:Rq}{uv tp:Value}(h:RqAt xs mr rb P r uv tp w)(hs:w.heap.size<=w'.heap.size)(hk: ∀k,P k->w'.heap[k]?=w.heap[k]?)(hr:zp w' mr xs):RqAt xs mr rb P r uv tp w':=by
 refine{h with blk:=(hk rb h.rP).trans h.blk,us:=xJ h.us λk e=>hk k (h.uP k e).1,lt:=λk e=>Ug (h.lt k e) hs,tk:=λt ht=>?_};obtain⟨kb,wb,O,met,h1,h2,h3,h4,h5⟩:=h.tk t ht;exact⟨kb,wb,O,met,h1,h2,h3,h4,h5.keep hs (λk e=>hk k (h3 k e)) (hk kb h2) hr⟩
def Rq.ended(r:Rq)(is:Int):Rq:={r with is:=is,tk:=none}
def xF(clock:Int)(r:Rq):Rq:=match r.tk with
 |none=>r
 |some t=>if t.til<=clock then r.ended 5 else r
variable{clock:Int}
theorem iu{r:Rq}(h:r.tk=none):xF clock r=r:=by unfold xF;rw[h]
theorem kj{r:Rq}(h:r.tk=some t)(hl:t.til<=clock):xF clock r=r.ended 5:=by unfold xF;rw[h];exact if_pos hl
theorem km{r:Rq}(h:r.tk=some t)(hl: ¬t.til<=clock):xF clock r=r:=by unfold xF;rw[h];exact if_neg hl
def Tk.chk(t:Tk):Bool:=Zc t.y.k t.y.n t.y.r
structure AnsR(xs:List BA)(t:Tk)(al:Bool)(us:List BA):Prop where
 yes:t.chk=true->us=[]/\(al=true↔ ∃u,InN (qt t.now) xs u t.x/\thT u=thT t.y)
 who:t.chk=false->al=false/\zy us/\ ∀s,s∈us↔ ∃u,InN (qt t.now) xs u t.x/\thT u=s
structure StepR(xs:List BA)(t:Tk)(r r':Rq)(fin:Bool):Prop where
 cost: ∀n,lI xs t.now t.x n->(fin=true->r.st+1=n)/\(fin=false->r.st+1<n)
 all:fin=true->lI xs t.now t.x (r.st+1)
 done:fin=true->r'.is=3/\r'.st=r.st+1/\r'.tk=none/\AnsR xs t r'.al r'.us
 bud:fin=false->(r.st:Int)+1=t.bud->r'={r with st:=r.st+1,is:=4,tk:=none}
 on:fin=false->(r.st:Int)+1≠t.bud->r'={r with st:=r.st+1}
