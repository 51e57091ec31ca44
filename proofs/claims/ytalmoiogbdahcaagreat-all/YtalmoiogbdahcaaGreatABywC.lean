import Derived.Test.YtalmoiogbdahcaaGreatANedA
open Go.Proofs.Tryz
namespace Go.Proofs.YtalmoiogbdahcaaGreat
set_option maxRecDepth 100000
set_option maxHeartbeats 8000000
open Go.RowKit Go.Shelf
variable{k:Nat}{lb:List BA}
theorem aD{x:BA}(hx:lb[k]?=some x)(s:BA):(∃j,j<k+1/\lb[j]?=some s)↔(∃j,j<k/\lb[j]?=some s)\/s=x:=by
 constructor
 ·rintro⟨j,hj,e⟩
  by_cases h:j=k
  ·subst h;rw[hx]at e;injection e with e;exact Or.inr e.symm
  ·exact Or.inl ⟨j,by omega,e⟩
 ·rintro(⟨j,hj,e⟩|e)
  ·exact⟨j,by omega,e⟩
  ·exact⟨k,by omega,by rw[e];exact hx⟩
variable{s:BA}
theorem m9:(∃j,j<lb.length/\lb[j]?=some s)↔s∈lb:=by
 constructor
 ·rintro⟨j,-,e⟩;exact OZ e
 ·intro h
  obtain⟨j,hj⟩:=OX.1 h;exact⟨j,(OE.1 hj).1,hj⟩
variable{met:List Nod}{now:List BA}{nv tv wv:Value}{whoL:List (List BA)}
theorem KR(gb:Nat)(node way:BA)(us:List BA)(hl:us.length<=50)(PA PB:BA->Prop)(w:World)(hs:way.size<=1000)(hc:ByC now met whoL tv nv wv w)(hb:(qe way).is=124)
  (h5: ∀w',ByC now met whoL tv nv wv w'->Calls prog 200 #[.pointer (some ⟨gb,0,none⟩),tv,nv,wv,.string node,.string (qe way).A] w' (yt us PA w')) (h6: ∀w',ByC now met whoL tv nv wv w'->Calls prog 200 #[.pointer (some ⟨gb,0,none⟩),tv,nv,wv,.string node,.string (qe way).B] w' (yt us PB w')):
  Calls prog 200 #[.pointer (some ⟨gb,0,none⟩),tv,nv,wv,.string node,.string way] w (yt us (λs=>PA s\/PB s) w):=by
 have hd:way.size<=maxLen:=by unfold maxLen;omega
 have ha:=λw=>vg way.size way w hd (Uc _)
 change (∀w,Calls prog 199 #[.string way] w λe w'=>e=.returned (qe way).val/\Below w.heap.size w w')at ha
 have h4:Hid (∀(w3:World),Below w.heap.size w w3->Calls prog 200 #[.pointer (some ⟨gb,0,none⟩),tv,nv,wv,.string node,.string (qe way).A] w3 _):=ft gb node _ _ us PA PB w hc h5 h6;have hu: ∃x n c,tv=.slice x n c:=by
  rcases hc.tv with⟨rfl,-⟩|⟨b,off,cap,rfl,-⟩
  ·exact⟨_,_,_,rfl⟩
  ·exact⟨_,_,_,rfl⟩
 obtain⟨tx,tn,tc,rfl⟩:=hu;have hr: ∃x n c,nv=.slice x n c:=by
  rcases hc.nv with⟨rfl,-⟩|⟨b,off,cap,rfl,-⟩
  ·exact⟨_,_,_,rfl⟩
  ·exact⟨_,_,_,rfl⟩
 obtain⟨nx,nn,nc,rfl⟩:=hr;obtain⟨wg,wc,rfl,-⟩:=hc.wv;clear h5 h6 hc;unfold Pt.val at ha;generalize (qe way).A=A at *;generalize (qe way).B=B at *;rw[hb]at ha;have h2:Hid (us.length<=50):=hl;have HA:Hid (∀w,Calls prog 199 #[.string way] w λe w'=>e=.returned (.agg #[.int .u8 124,.string A,.string B])/\Below w.heap.size w w'):=ha;clear ha hd hb hl;generalize whoL.length=wn at *;go_enter func200,ntmps200
 go_wp2_with(first|(go_at_call 199;refine(HA.out _).mono ?_;rintro e w2 ⟨rfl,hf⟩;have hn:Hid (Below w.heap.size w w2):=hf;clear hf;have h8:=qa (qn w2 [.int .u8 124,.string A,.string B] 234) (j:=0) rfl;have h7:=qa (qn w2 [.int .u8 124,.string A,.string B] 234) (j:=2) rfl)|(go_at_call 200;refine(h4.out _ (hn.out.alloc hn.out.size _)).mono ?_;rintro e w4 ⟨oa,ca,la,rfl,h9,he⟩;have hy:w4.cell? ⟨w2.heap.size,2,none⟩=some (.string B):=(h9.cell (qp h7)).trans h7;clear h4 h9)|(go_at_call 200;refine he.out.mono ?_;rintro e w5 ⟨ob,cb,lb,rfl,hg,HR⟩;have h0:w5.cell? ⟨w2.heap.size,0,none⟩=some (.int .u8 124):=(hg.cell (qp h8)).trans h8;clear he hg))
 have hi:Hid (la.length<=50/\lb.length<=50):=⟨Ue HR.out.2.2.1.len h2.out,Ue HR.out.2.2.2.1.len h2.out⟩;have hB:=hi.out.2
 go_loopw [14,17] (λov i wr=> ∃(k:Nat) (o:Option Addr) (c:Nat) (out:List BA),ov=.slice o out.length c/\k<=lb.length/\i=.int .i64 k/\ByI us (λs=>PA s\/ ∃j,j<k/\lb[j]?=some s) w w5 ov out wr) (λ_ i _=>lb.length-(intOf i).toNat)
 case atStart=>
  exact⟨0,oa,ca,la,rfl,Um _,rfl,HR.out.1,HR.out.2.2.1.congr λs=>⟨Or.inl,λh=>h.elim id fun⟨j,hj,_⟩=>absurd hj (Uj j)⟩,Ou _ _⟩
 case round=>
  obtain⟨k,o,c,out,rfl,hk,rfl,hI⟩:=hrel;have hA:wr.cell? ⟨w2.heap.size,0,none⟩=some (.int .u8 124):=(hI.below.cell (qp h0)).trans h0;by_cases hp:k<lb.length
  ·obtain⟨x,hx⟩: ∃x,lb[k]?=some x:=⟨_,OC hp⟩
   obtain⟨g2,c2,h1,hm⟩:=xj HR.out.2.1 (by omega)
   injection h1 with h1 _ ho;subst h1;subst ho;have hz:wr.cell? ⟨g2,k,none⟩=some (.string x):=by
    have:=hm k (.string x) (x4 hx);exact(hI.below.cell (qp this)).trans this
   have ht:Hid (Calls prog 170 #[.slice oa la.length ca,.string x] wr λe w'=>e=.returned (.int .i64 (yE la x))/\w'=wr):=ii _ la x wr (xg (yi HR.out.1) hI.below) (by have:=hi.out.1;have:=ji;omega)
   have hv:Hid (Calls prog 74 #[.slice o out.length c,.string x,.bool true] wr _):=hI.with h2.out HR.out.2.2.2.2.size (x:=x) (HR.out.2.2.2.1.us x (OZ hx));have HX:Hid (∀s,(PA s\/ ∃j,j<k/\lb[j]?=some s)\/s=x↔PA s\/ ∃j,j<k+1/\lb[j]?=some s):=λs=>by rw[aD hx,or_assoc]
   clear hI hx hm;generalize yE la x=ix at *
   go_wp2_with(first|(go_at_call 170;refine ht.out.mono ?_;rintro e w6 ⟨rfl,rfl⟩)|(go_at_call 74;refine hv.out.mono ?_;rintro e w7 ⟨o7,c7,out7,rfl,h3⟩;have hq:Hid (ByI us (λs=>(PA s\/ ∃j,j<k/\lb[j]?=some s)\/s=x) w w5 (.slice o7 out7.length c7) out7 w7):=h3;clear h3))
   go_roundw
   case rel=>exact⟨k+1,o7,c7,out7,rfl,by omega,by go_num,hq.out.congr HX.out⟩
   case measure=>simp[intOf];omega
  ·obtain rfl:k=lb.length:=by omega
   have HP:Hid (yt us (λs=>PA s\/PB s) w (.returned (.slice o out.length c)) wr):=(hI.post HR.out.2.2.2.2).congr λs=>by rw[m9,HR.out.2.2.2.1.iff]
   clear hI;go_wp2;go_ret;exact HP.out
theorem KS(gb:Nat)(node way:BA)(us:List BA)(ht:us.length<=50)(PA PB:BA->Prop)(w:World)(hs:way.size<=1000)(hc:ByC now met whoL tv nv wv w)(hi:(qe way).is=38)
  (hb: ∀w',ByC now met whoL tv nv wv w'->Calls prog 200 #[.pointer (some ⟨gb,0,none⟩),tv,nv,wv,.string node,.string (qe way).A] w' (yt us PA w')) (hd: ∀w',ByC now met whoL tv nv wv w'->Calls prog 200 #[.pointer (some ⟨gb,0,none⟩),tv,nv,wv,.string node,.string (qe way).B] w' (yt us PB w')):
  Calls prog 200 #[.pointer (some ⟨gb,0,none⟩),tv,nv,wv,.string node,.string way] w (yt us (λs=>PA s/\PB s) w):=by
 have hm:way.size<=maxLen:=by unfold maxLen;omega
 have ha:=λw=>vg way.size way w hm (Uc _)
 change (∀w,Calls prog 199 #[.string way] w λe w'=>e=.returned (qe way).val/\Below w.heap.size w w')at ha
 have h9:Hid (∀(w3:World),Below w.heap.size w w3->Calls prog 200 #[.pointer (some ⟨gb,0,none⟩),tv,nv,wv,.string node,.string (qe way).A] w3 _):=ft gb node _ _ us PA PB w hc hb hd;have hA: ∃x n c,tv=.slice x n c:=by
  rcases hc.tv with⟨rfl,-⟩|⟨b,off,cap,rfl,-⟩
  ·exact⟨_,_,_,rfl⟩
  ·exact⟨_,_,_,rfl⟩
 obtain⟨tx,tn,tc,rfl⟩:=hA;have hz: ∃x n c,nv=.slice x n c:=by
  rcases hc.nv with⟨rfl,-⟩|⟨b,off,cap,rfl,-⟩
  ·exact⟨_,_,_,rfl⟩
  ·exact⟨_,_,_,rfl⟩
 obtain⟨nx,nn,nc,rfl⟩:=hz;obtain⟨wg,wc,rfl,-⟩:=hc.wv;clear hb hd hc;unfold Pt.val at ha;generalize (qe way).A=A at *;generalize (qe way).B=B at *;rw[hi]at ha;have h6:Hid (us.length<=50):=ht;have HA:Hid (∀w,Calls prog 199 #[.string way] w λe w'=>e=.returned (.agg #[.int .u8 38,.string A,.string B])/\Below w.heap.size w w'):=ha;clear ha hm hi ht;generalize whoL.length=wn at *;go_enter func200,ntmps200
 go_wp2_with(first|(go_at_call 199;refine(HA.out _).mono ?_;rintro e w2 ⟨rfl,ho⟩;have hu:Hid (Below w.heap.size w w2):=ho;clear ho;have hf:=qa (qn w2 [.int .u8 38,.string A,.string B] 234) (j:=0) rfl;have he:=qa (qn w2 [.int .u8 38,.string A,.string B] 234) (j:=2) rfl)|(go_at_call 200;refine(h9.out _ (hu.out.alloc hu.out.size _)).mono ?_;rintro e w4 ⟨oa,ca,la,rfl,hg,hn⟩;have hC:w4.cell? ⟨w2.heap.size,2,none⟩=some (.string B):=(hg.cell (qp he)).trans he;clear h9 hg)|(go_at_call 200;refine hn.out.mono ?_;rintro e w5 ⟨ob,cb,lb,rfl,hq,HR⟩;have h0:w5.cell? ⟨w2.heap.size,0,none⟩=some (.int .u8 38):=(hq.cell (qp hf)).trans hf;clear hn hq))
 have hr:Hid (la.length<=50/\lb.length<=50):=⟨Ue HR.out.2.2.1.len h6.out,Ue HR.out.2.2.2.1.len h6.out⟩;have hF:=hr.out.2
 go_loopw [14,17] (λov i wr=> ∃(k:Nat) (o:Option Addr) (c:Nat) (out:List BA),ov=.slice o out.length c/\k<=lb.length/\i=.int .i64 k/\ByI us (λs=>PA s/\ ∃j,j<k/\lb[j]?=some s) w w5 ov out wr) (λ_ i _=>lb.length-(intOf i).toNat)
 case atStart=>
  exact⟨0,none,0,[],rfl,Um _,rfl,World.ownsRow_nil _ _ _ _,(Gat.nil us).congr λs=>⟨False.elim,fun⟨_,j,hj,_⟩=>absurd hj (Uj j)⟩,Ou _ _⟩
 case round=>
  obtain⟨k,o,c,out,rfl,hk,rfl,hI⟩:=hrel;have hE:wr.cell? ⟨w2.heap.size,0,none⟩=some (.int .u8 38):=(hI.below.cell (qp h0)).trans h0;by_cases hy:k<lb.length
  ·obtain⟨x,hx⟩: ∃x,lb[k]?=some x:=⟨_,OC hy⟩
   obtain⟨g2,c2,h4,h7⟩:=xj HR.out.2.1 (by omega)
   injection h4 with h4 _ hv;subst h4;subst hv;have hD:wr.cell? ⟨g2,k,none⟩=some (.string x):=by
    have:=h7 k (.string x) (x4 hx);exact(hI.below.cell (qp this)).trans this
   have hl:Hid (Calls prog 170 #[.slice oa la.length ca,.string x] wr λe w'=>e=.returned (.int .i64 (yE la x))/\w'=wr):=ii _ la x wr (xg (yi HR.out.1) hI.below) (by have:=hr.out.1;have:=ji;omega)
   by_cases hp:0<=yE la x
   ·have h3:PA x:=(HR.out.2.2.1.iff x).1 (pq.1 hp)
    have hB:Hid (Calls prog 74 #[.slice o out.length c,.string x,.bool true] wr _):=hI.with h6.out HR.out.2.2.2.2.size (x:=x) (HR.out.2.2.2.1.us x (OZ hx));have HX:Hid (∀s,(PA s/\ ∃j,j<k/\lb[j]?=some s)\/s=x↔PA s/\ ∃j,j<k+1/\lb[j]?=some s):=λs=>by
     rw[aD hx]
     constructor
     ·rintro(⟨h1,h2⟩|e)
      ·exact⟨h1,Or.inl h2⟩
      ·exact⟨by rw[e];exact h3,Or.inr e⟩
     ·rintro⟨h1,h2|e⟩
      ·exact Or.inl ⟨h1,h2⟩
      ·exact Or.inr e
    clear hI hx h7 h3;generalize yE la x=ix at *
    go_wp2_with(first|(go_at_call 170;refine hl.out.mono ?_;rintro e w6 ⟨rfl,rfl⟩)|(go_at_call 74;refine hB.out.mono ?_;rintro e w7 ⟨o7,c7,out7,rfl,h8⟩;have h5:Hid (ByI us (λs=>(PA s/\ ∃j,j<k/\lb[j]?=some s)\/s=x) w w5 (.slice o7 out7.length c7) out7 w7):=h8;clear h8))
    go_roundw
    case rel=>exact⟨k+1,o7,c7,out7,rfl,by omega,by go_num,h5.out.congr HX.out⟩
    case measure=>simp[intOf];omega
   ·have h3: ¬PA x:=λh=>hp (pq.2 ((HR.out.2.2.1.iff x).2 h))
    have h5:Hid (ByI us (λs=>PA s/\ ∃j,j<k+1/\lb[j]?=some s) w w5 (.slice o out.length c) out wr):=hI.congr λs=>by
     rw[aD hx]
     constructor
     ·rintro⟨h1,h2⟩;exact⟨h1,Or.inl h2⟩
     ·rintro⟨h1,h2|e⟩
      ·exact⟨h1,h2⟩
      ·rw[e]at h1;exact absurd h1 h3
    clear hI hx h7 h3;generalize yE la x=ix at *
    go_wp2_with(go_at_call 170;refine hl.out.mono ?_;rintro e w6 ⟨rfl,rfl⟩)
    go_roundw
    case rel=>exact⟨k+1,o,c,out,rfl,by omega,by go_num,h5.out⟩
    case measure=>simp[intOf];omega
  ·obtain rfl:k=lb.length:=by omega
   have HP:Hid (yt us (λs=>PA s/\PB s) w (.returned (.slice o out.length c)) wr):=(hI.post HR.out.2.2.2.2).congr λs=>by rw[m9,HR.out.2.2.2.1.iff]
   clear hI;go_wp2;go_ret;exact HP.out
def UpW(met:List Nod)(whoL:List (List BA))(l:List BA)(k:Nat)(s:BA):Prop:= ∃j y,j<k/\l[j]?=some y/\Wof met whoL y s
variable{l:List BA}{y:BA}
theorem Ji{i:Nat}{lw:List BA}(hy:l[k]?=some y)(hi:yE (met.map txT) y=i)(hw:whoL[i]?=some lw)(s:BA):(UpW met whoL l k s\/ ∃j,j<lw.length/\lw[j]?=some s)↔UpW met whoL l (k+1) s:=by
 have e:Wof met whoL y s↔s∈lw:=by
  unfold Wof;rw[hi,Int.toNat_natCast,List.getD_eq_getElem?_getD,hw];rfl
 rw[m9,←e]
 constructor
 ·rintro(⟨j,z,h1,h2,h3⟩|h)
  ·exact⟨j,z,by omega,h2,h3⟩
  ·exact⟨k,y,by omega,hy,h⟩
 ·rintro⟨j,z,h1,h2,h3⟩
  by_cases h:j=k
  ·subst h;rw[hy]at h2;injection h2 with h2;rw[h2];exact Or.inr h3
  ·exact Or.inl ⟨j,z,by omega,h2,h3⟩
theorem Qm:UpW met whoL l l.length s↔ ∃y∈l,Wof met whoL y s:=by
 constructor
 ·rintro⟨j,y,-,h,hw⟩;exact⟨y,OZ h,hw⟩
 ·rintro⟨y,h,hw⟩
  obtain⟨j,hj⟩:=OX.1 h;exact⟨j,y,(OE.1 hj).1,hj,hw⟩
theorem Jj: ¬UpW met whoL l 0 s:=fun⟨j,_,h,_⟩=>Uj j h
theorem XI(h:y∈l): ∃i:Nat,i<l.length/\yE l y=i:=by
 have h0:=pq.2 h;unfold yE at h0 ⊢;cases hf:l.findIdx? (λx=>x.toList==y.toList)with
 |none=>rw[hf]at h0;exact absurd h0 (by decide)
 |some i=>exact⟨i,(List.findIdx?_eq_some_iff_getElem.1 hf).1,rfl⟩
def aE(met:List Nod)(whoL:List (List BA))(l sub:List BA)(op:Int)(s:BA):Prop:=(∃y∈l,Wof met whoL y s)\/(op=116/\s∈sub/\zj s=true)
theorem KT(gb:Nat)(hK:ByK now met whoL)(node way:BA)(w:World)(hs:way.size<=1000)(hc:ByC now met whoL tv nv wv w)(op:Int)(hJ:(qe way).is=op)(hp:op≠124)(H0:op≠38)(l:List BA)(Hk:l.length<=1000000)(hO: ∀y∈l,y∈met.map txT)(hd: ∀s∈zq now node,zj s=true->s∈usT now)(Hp:(zq now node).length<=50)(hv: ∀x∈now,x.size<=maxLen)
  (hN: ∀w',qE w' tv now->Calls prog 201 #[.pointer (some ⟨gb,0,none⟩),tv,.string node,.string way] w' (vR w' l)):
  Calls prog 200 #[.pointer (some ⟨gb,0,none⟩),tv,nv,wv,.string node,.string way] w (yt (usT now) (aE met whoL l (zq now node) op) w):=by
 have hT:way.size<=maxLen:=by unfold maxLen;omega
 have ha:=λw=>vg way.size way w hT (Uc _)
 change (∀w,Calls prog 199 #[.string way] w λe w'=>e=.returned (qe way).val/\Below w.heap.size w w')at ha
 have hP:=kX hK.nl;have hn:Hid (∀w2,Below w.heap.size w w2->Calls prog 220 #[tv,.string node] w2 λe w3=> ∃lx lc,e=.returned (.slice lx (zq now node).length lc)/\qE w3 (.slice lx (zq now node).length lc) (zq now node)/\Below w2.heap.size w2 w3):=by
  intro w2 h4;refine(ci tv now node w2 (xg hc.tv h4) (by have:=hK.nl;omega) hv).mono ?_
  rintro e w3 ⟨v,rfl,ho,h5⟩;obtain⟨lx,lc,rfl⟩:=qz ho;exact⟨lx,lc,rfl,yi ho,h5⟩
 have He:Hid (∀y∈zq now node,y.size<=maxLen):=by
  intro y hy;rcases pT node now [] y hy with h|⟨x,hx,rfl⟩
  ·cases h
  ·exact di x 64 (hv x hx)
 have hV:Hid (∀w2,Below w.heap.size w w2->Calls prog 201 #[.pointer (some ⟨gb,0,none⟩),tv,.string node,.string way] w2 λe w3=> ∃lo lc,e=.returned (.slice lo l.length lc)/\Below w2.heap.size w2 w3/\Hid (w3.ownsRow w2.heap.size 9 1 (.slice lo l.length lc) l.length (qg l))):=by
  intro w2 h4;refine(hN w2 (xg hc.tv h4)).mono ?_;rintro e w3 ⟨v,rfl,ho,h5⟩;obtain⟨lx,lc,rfl⟩:=qz ho;exact⟨lx,lc,rfl,h5,ho⟩
 have he:Hid (∀y∈l,∀w2,Below w.heap.size w w2-> ∃i:Nat,i<whoL.length/\yE (met.map txT) y=i/\Calls prog 170 #[nv,.string y] w2 λe w'=>e=.returned (.int .i64 (i:Nat))/\w'=w2):=by
  intro y hy w2 h4;obtain⟨i,h1,h2⟩:=XI (hO y hy);rw[OM,←hK.len]at h1;refine⟨i,h1,h2,?_⟩;rw[←h2];exact ii nv (met.map txT) y w2 (xg hc.nv h4) (by rw[OM];have:=hK.ml;unfold maxLen;omega)
 have Hf: ∃x n c,tv=.slice x n c:=by
  rcases hc.tv with⟨rfl,-⟩|⟨b,off,cap,rfl,-⟩
  ·exact⟨_,_,_,rfl⟩
  ·exact⟨_,_,_,rfl⟩
 obtain⟨tx,tn,tc,rfl⟩:=Hf;have Hd: ∃x n c,nv=.slice x n c:=by
  rcases hc.nv with⟨rfl,-⟩|⟨b,off,cap,rfl,-⟩
  ·exact⟨_,_,_,rfl⟩
  ·exact⟨_,_,_,rfl⟩
 obtain⟨nx,nn,nc,rfl⟩:=Hd;obtain⟨wg,wc,rfl,hE⟩:=hc.wv;have hZ:Hid (∀i l,whoL[i]?=some l-> ∃x c',w.cell? ⟨wg,i,none⟩=some (.slice x l.length c')/\qE w (.slice x l.length c') l):=hE;have HK:Hid (ByK now met whoL):=hK;have Hl:whoL.length<=300000:=by rw[hK.len];exact hK.ml
 clear hc hN hE hK hO;unfold Pt.val at ha;generalize (qe way).A=A at *;generalize (qe way).B=B at *;rw[hJ]at ha;have HA:Hid (∀w,Calls prog 199 #[.string way] w λe w'=>e=.returned (.agg #[.int .u8 op,.string A,.string B])/\Below w.heap.size w w'):=ha;have hX:Hid ((usT now).length<=50):=hP;have hr:Hid (∀s∈zq now node,zj s=true->s∈usT now):=hd;have H3:(op==124)=false:=by simpa using hp
 have Hj:(op==38)=false:=by simpa using H0
 clear ha hT hP hd hv hJ;generalize zq now node=sub at *;go_enter func200,ntmps200
 go_wp2_with(first|(go_at_call 199;refine(HA.out _).mono ?_;rintro e w2 ⟨rfl,h4⟩;have h8:Hid (Below w.heap.size w w2):=h4;clear h4;have hG:=qa (qn w2 [.int .u8 op,.string A,.string B] 234) (j:=0) rfl)|(go_at_call 201;refine(hV.out _ (h8.out.alloc h8.out.size _)).mono ?_;rintro e w3 ⟨lo,lc,rfl,h5,HL⟩;have h9:w3.cell? ⟨w2.heap.size,0,none⟩=some (.int .u8 op):=(h5.cell (qp hG)).trans hG;have h7:Hid (Below w.heap.size w w3):=(h8.out.alloc h8.out.size _).trans (h5.mono (h8.out.alloc h8.out.size _).size);clear h5 hV))
 go_loopw [14,20] (λov i wr=> ∃(k:Nat) (o:Option Addr) (c:Nat) (out:List BA),ov=.slice o out.length c/\k<=l.length/\i=.int .i64 k/\ByI (usT now) (UpW met whoL l k) w w3 ov out wr) (λ_ i _=>l.length-(intOf i).toNat)
 case atStart=>exact⟨0,none,0,[],rfl,Um _,rfl,World.ownsRow_nil _ _ _ _,(Gat.nil _).congr λs=>⟨False.elim,λh=>Jj h⟩,Ou _ _⟩
 case round=>
  obtain⟨k,o,c,out,rfl,hk,rfl,hI⟩:=hrel;have Ho:wr.cell? ⟨w2.heap.size,0,none⟩=some (.int .u8 op):=(hI.below.cell (qp h9)).trans h9;have h6:Hid (Below w.heap.size w wr):=h7.out.trans (hI.below.mono h7.out.size);have HI:Hid (ByI (usT now) (UpW met whoL l k) w w3 (.slice o out.length c) out wr):=hI;clear hI;by_cases H2:k<l.length
  ·obtain⟨y,hy⟩: ∃y,l[k]?=some y:=⟨_,OC H2⟩
   obtain⟨g2,c2,hl,hY⟩:=xj HL.out (by omega)
   injection hl with hl _ Hb;subst hl;subst Hb;have Hm:wr.cell? ⟨g2,k,none⟩=some (.string y):=by
    have:=hY k (.string y) (x4 hy);exact(HI.out.below.cell (qp this)).trans this
   obtain⟨i,Hi,hM,hF⟩:=he.out y (OZ hy) wr h6.out;have Hg:Hid (Calls prog 170 #[.slice nx nn nc,.string y] wr λe w'=>e=.returned (.int .i64 (i:Nat))/\w'=wr):=hF;obtain⟨lw,hf⟩: ∃lw,whoL[i]?=some lw:=⟨_,OC Hi⟩;obtain⟨x,c',hD,hU⟩:=hZ.out i lw hf;have H1:=(h6.out.cell (qp hD)).trans hD;have H4:Hid (qE w (.slice x lw.length c') lw):=hU;have Hc:Hid (∀s,(UpW met whoL l k s\/ ∃j,j<lw.length/\lw[j]?=some s)↔UpW met whoL l (k+1) s):=Ji hy hM hf;have hC:=OZ hf;have H6:=HK.out.short lw hC;have H8:Hid (∀s∈lw,s∈usT now):=HK.out.us lw hC;clear hU hD hY hF hM hf hC hy he
   go_wp2_with(go_at_call 170;refine Hg.out.mono ?_;rintro e w6 ⟨rfl,rfl⟩)
   go_loopw [14,22] (λov i w4=> ∃(kk:Nat) (o:Option Addr) (c:Nat) (out:List BA),ov=.slice o out.length c/\kk<=lw.length/\i=.int .i64 kk/\ByI (usT now) (λs=>UpW met whoL l k s\/ ∃j,j<kk/\lw[j]?=some s) w w3 ov out w4) (λ_ i _=>lw.length-(intOf i).toNat)
   case atStart=>exact⟨0,o,c,out,rfl,Um _,rfl,HI.out.congr λs=>⟨Or.inl,λh=>h.elim id fun⟨j,hj,_⟩=>absurd hj (Uj j)⟩⟩
   case round=>
    obtain⟨kk,o4,c4,out4,rfl,Ha,rfl,h3⟩:=hrel;clear HI;by_cases h0:kk<lw.length
    ·obtain⟨z,hz⟩: ∃z,lw[kk]?=some z:=⟨_,OC h0⟩
     obtain⟨gx,fx,hB,hL⟩: ∃gx fx,x=some ⟨gx,fx,none⟩/\wr.cell? ⟨gx,fx+kk,none⟩=some (.string z):=by
      rcases H4.out with⟨-,e⟩|⟨b,off,cap,e,hq⟩
      ·rw[e]at h0;simp at h0
      ·injection e with e _ _
       refine⟨b,off,e,?_⟩;have h1:=hq kk z hz;exact((h7.out.trans (h3.below.mono h7.out.size)).cell (qp h1)).trans h1
     subst hB;have hA:Hid (Calls prog 74 #[.slice o4 out4.length c4,.string z,.bool true] wr _):=h3.with hX.out h7.out.size (x:=z) (H8.out z (OZ hz));have HX:Hid (∀s,(UpW met whoL l k s\/ ∃j,j<kk/\lw[j]?=some s)\/s=z↔UpW met whoL l k s\/ ∃j,j<kk+1/\lw[j]?=some s):=λs=>by rw[aD hz,or_assoc]
     clear h3 hz
     go_wp2_with(go_at_call 74;refine hA.out.mono ?_;rintro e w7 ⟨o7,c7,out7,rfl,hb⟩;have hu:Hid (ByI (usT now) (λs=>(UpW met whoL l k s\/ ∃j,j<kk/\lw[j]?=some s)\/s=z) w w3 (.slice o7 out7.length c7) out7 w7):=hb;clear hb)
     go_roundw
     case rel=>exact⟨kk+1,o7,c7,out7,rfl,by omega,by go_num,hu.out.congr HX.out⟩
     case measure=>simp[intOf];omega
    ·obtain rfl:kk=lw.length:=by omega
     have hi:Hid (ByI (usT now) (UpW met whoL l (k+1)) w w3 (.slice o4 out4.length c4) out4 wr):=h3.congr Hc.out;clear h3;go_wp2
     go_roundw
     case rel=>exact⟨k+1,o4,c4,out4,rfl,by omega,by go_num,hi.out⟩
     case measure=>simp[intOf];omega
  ·obtain rfl:k=l.length:=by omega
   by_cases h116:op=116
   ·subst h116
    have H7:Hid (Calls prog 220 #[.slice tx tn tc,.string node] wr λe w3=> ∃lx lc,e=.returned (.slice lx sub.length lc)/\qE w3 (.slice lx sub.length lc) sub/\Below wr.heap.size wr w3):=hn.out wr h6.out;clear hn he
    go_wp2_with(go_at_call 220;refine H7.out.mono ?_;rintro e w8 ⟨lx,lc8,rfl,hS,hR⟩;have H9:Hid (qE w8 (.slice lx sub.length lc8) sub):=hS;have hm:Hid (Below wr.heap.size wr w8):=hR;clear hS hR)
    go_loopw [14,24] (λov i w4=> ∃(kk:Nat) (o:Option Addr) (c:Nat) (out:List BA),ov=.slice o out.length c/\kk<=sub.length/\i=.int .i64 kk/\ByI (usT now) (λs=>UpW met whoL l l.length s\/((∃j,j<kk/\sub[j]?=some s)/\zj s=true)) w w8 ov out w4) (λ_ i _=>sub.length-(intOf i).toNat)
    case atStart=>exact⟨0,o,c,out,rfl,Um _,rfl,q9 HI.out.own hm.out,HI.out.g.congr λs=>⟨Or.inl,λh=>h.elim id fun⟨⟨j,hj,_⟩,_⟩=>absurd hj (Uj j)⟩,Ou _ _⟩
    case round=>
     obtain⟨kk,o4,c4,out4,rfl,Ha,rfl,h3⟩:=hrel;by_cases h0:kk<sub.length
     ·obtain⟨z,hz⟩: ∃z,sub[kk]?=some z:=⟨_,OC h0⟩
      obtain⟨gx,fx,hB,hL⟩: ∃gx fx,lx=some ⟨gx,fx,none⟩/\wr.cell? ⟨gx,fx+kk,none⟩=some (.string z):=by
       rcases H9.out with⟨-,e⟩|⟨b,off,cap,e,hq⟩
       ·rw[e]at h0;simp at h0
       ·injection e with e _ _
        refine⟨b,off,e,?_⟩;have h1:=hq kk z hz;exact(h3.below.cell (qp h1)).trans h1
      subst hB;have Hn: ∀nq,(wr.drewN nq).cell? ⟨gx,fx+kk,none⟩=some (.string z):=λnq=>hL;have hQ:=OZ hz;have hg:Hid (Calls prog 118 #[.string z] wr λe w'=>e=.returned (.bool (zj z))/\ ∃n,w'=wr.drewN n):=ko z wr (He.out z hQ);cases ht:zj z
      ·rw[ht]at hg
       have hi:Hid (∀nq,ByI (usT now) (λs=>UpW met whoL l l.length s\/((∃j,j<kk+1/\sub[j]?=some s)/\zj s=true)) w w8 (.slice o4 out4.length c4) out4 (wr.drewN nq)):=λnq=>(h3.later (qN ⟨nq,rfl⟩)).congr λs=>by
        rw[aD hz]
        constructor
        ·rintro(h|⟨h1,h2⟩)
         ·exact Or.inl h
         ·exact Or.inr ⟨Or.inl h1,h2⟩
        ·rintro(h|⟨h1|e,h2⟩)
         ·exact Or.inl h
         ·exact Or.inr ⟨h1,h2⟩
         ·rw[e,ht]at h2;cases h2
       clear h3 hz
       go_wp2_with(go_at_call 118;refine hg.out.mono ?_;rintro e w9 ⟨rfl,nq,rfl⟩)
       go_roundw
       case rel=>exact⟨kk+1,o4,c4,out4,rfl,by omega,by go_num,hi.out _⟩
       case measure=>simp[intOf];omega
      ·rw[ht]at hg
       have hA:Hid (∀nq,Calls prog 74 #[.slice o4 out4.length c4,.string z,.bool true] (wr.drewN nq) _):=λnq=>(h3.later (qN ⟨nq,rfl⟩)).with hX.out (Ue h6.out.size hm.out.size) (x:=z) (hr.out z hQ ht);have HX:Hid (∀s,(UpW met whoL l l.length s\/((∃j,j<kk/\sub[j]?=some s)/\zj s=true))\/s=z↔UpW met whoL l l.length s\/((∃j,j<kk+1/\sub[j]?=some s)/\zj s=true)):=λs=>by
        rw[aD hz]
        constructor
        ·rintro((h|⟨h1,h2⟩)|e)
         ·exact Or.inl h
         ·exact Or.inr ⟨Or.inl h1,h2⟩
         ·exact Or.inr ⟨Or.inr e,by rw[e];exact ht⟩
        ·rintro(h|⟨h1|e,h2⟩)
         ·exact Or.inl (Or.inl h)
         ·exact Or.inl (Or.inr ⟨h1,h2⟩)
         ·exact Or.inr e
       clear h3 hz
       go_wp2_with(first|(go_at_call 118;refine hg.out.mono ?_;rintro e w9 ⟨rfl,nq,rfl⟩)|(go_at_call 74;refine(hA.out _).mono ?_;rintro e w7 ⟨o7,c7,out7,rfl,hb⟩;have hu:Hid (ByI (usT now) (λs=>(UpW met whoL l l.length s\/((∃j,j<kk/\sub[j]?=some s)/\zj s=true))\/s=z) w w8 (.slice o7 out7.length c7) out7 w7):=hb;clear hb))
       go_roundw
       case rel=>exact⟨kk+1,o7,c7,out7,rfl,by omega,by go_num,hu.out.congr HX.out⟩
       case measure=>simp[intOf];omega
     ·obtain rfl:kk=sub.length:=by omega
      have HP:Hid (yt (usT now) (aE met whoL l sub 116) w (.returned (.slice o4 out4.length c4)) wr):=(h3.post (h6.out.trans (hm.out.mono h6.out.size))).congr λs=>by
       unfold aE;rw[Qm,m9]
       constructor
       ·rintro(h|h)
        ·exact Or.inl h
        ·exact Or.inr ⟨rfl,h⟩
       ·rintro(h|⟨-,h⟩)
        ·exact Or.inl h
        ·exact Or.inr h
      clear h3;go_wp2;go_ret;exact HP.out
   ·have H5:(op==116)=false:=by simpa using h116
    have HP:Hid (yt (usT now) (aE met whoL l sub op) w (.returned (.slice o out.length c)) wr):=(HI.out.post h7.out).congr λs=>by
     unfold aE;rw[Qm]
     constructor
     ·exact Or.inl
     ·rintro(h|⟨h,-⟩)
      ·exact h
      ·exact absurd h h116
    clear HI he hn;go_wp2;go_ret;exact HP.out
variable{x:Nod}{xs:List BA}
theorem GL(gb:Nat)(ok:DocOk xs now)(hK:ByK now met whoL){k n r:List UInt8}(hx:NmN x k n (some r)): ∀(f:Nat) (way:BA) (w:World),way.size<=1000->yb f way=true->(∀y∈qW now (txT x) f way,y∈met.map txT)->ByC now met whoL tv nv wv w->
  Calls prog 200 #[.pointer (some ⟨gb,0,none⟩),tv,nv,wv,.string (txT x),.string way] w (yt (usT now) (xQ now (txT x) (Wof met whoL) f way) w):=by
 have hf:=mL hx;have h8:=ji;have h4: ∀s∈now,s.size<=250:=λs h=>by
  obtain⟨k,n,r,k2,n2,o,-,-,-,-,-,-,-,h9⟩:=im (ok.ht s h);exact h9
 have h5: ∀(f:Nat) (way:BA) (w:World),way.size<=1000->yb f way=true->(qe way).is≠124->(qe way).is≠38->(∀y∈qW now (txT x) f way,y∈met.map txT)->ByC now met whoL tv nv wv w->
   Calls prog 200 #[.pointer (some ⟨gb,0,none⟩),tv,nv,wv,.string (txT x),.string way] w (yt (usT now) (xQ now (txT x) (Wof met whoL) f way) w):=by
  intro f way w hs hw h1 h2 h3 hc;have hg:=oC now (txT x) ok.nl f way hw;have hd:=vV (txT x) now [];have key:=KT gb hK (txT x) way w hs hc _ rfl h1 h2 (qW now (txT x) f way) (by omega) h3 (λs hs ht=>K6 ok.ht hx hs ht) (by have:=ok.nl;unfold zq;simp at hd;omega) (λs hs=>by have:=h4 s hs;omega) (λw' ht=>sM gb tv now (txT x) (by omega) ok.nl (λs h=>by have:=h4 s h;omega) (λs h=>by have:=h4 s h;omega) f way w' hs hw ht)
  refine key.mono λe w' h=>h.congr λs=>?_;unfold aE;cases f<;>rw[xQ,if_neg h1,if_neg h2]
 intro f
 induction f with
 |zero=>
  intro way w hs hw h3 hc;rcases co hw with h|⟨-,g,e,-⟩
  ·exact h5 0 way w hs hw (by omega) (by omega) h3 hc
  ·omega
 |succ f ih=>
  intro way w hs hw h3 hc;rcases co hw with h|⟨h0,g,e,ha,hb⟩
  ·exact h5 _ way w hs hw (by omega) (by omega) h3 hc
  ·injection e with e
   subst e;have h7:=oB way.size way (Uc _) h0;have he:qW now (txT x) (f+1) way=qW now (txT x) f (qe way).A++qW now (txT x) f (qe way).B:=by
    rw[qW,if_neg (by omega),if_neg (by omega),if_neg (by omega)]
   rw[he]at h3;have hA:=λw' h6=>ih (qe way).A w' (by omega) ha (λy hy=>h3 y (List.mem_append_left _ hy)) h6
   have hB:=λw' h6=>ih (qe way).B w' (by omega) hb (λy hy=>h3 y (List.mem_append_right _ hy)) h6
   rcases h0 with h0|h0
   ·refine(KR gb (txT x) way (usT now) (kX ok.nl) _ _ w hs hc h0 hA hB).mono λe w' h=>h.congr λs=>?_
    rw[xQ,if_pos h0]
   ·refine(KS gb (txT x) way (usT now) (kX ok.nl) _ _ w hs hc h0 hA hB).mono λe w' h=>h.congr λs=>?_
    rw[xQ,if_neg (by omega),if_pos h0]
theorem Jk(w:World)(base:Nat)(v:Value)(n:Nat)(xs:List BA)(x:BA)(h0:w.ownsRow base 9 1 v n (qg xs))(hb:base<=w.heap.size)(hl:n<=1099511627776):
  ∃v' w',(Builtin.append_ #[28,28] 28 #[v,.slice (some ⟨w.heap.size,0,none⟩) 1 1]).run prog (w.alloc (.cells #[.string x] 9))=.ok v' w'/\
   w'.ownsRow base 9 1 v' (n+1) (qg (xs++[x]))/\w.grownBy w' v.ownBlock/\(v'.ownBlock=v.ownBlock\/v'.ownBlock=some (w.heap.size+1)):=by
 obtain⟨i,hi,hz,hs,h6⟩:=jZ;obtain⟨v',w',hr,h2,h3,h4,h5⟩:=run_append_own_at (P:=prog) (w.alloc (.cells #[.string x] 9)) base 28 28 9 i (.string {data:= #[]}) 1 16 underlying28 hi hz hs h6 rfl (by decide) v n (qg xs) (h0.alloc _) ⟨w.heap.size,0,none⟩ 1 1 [.string x] rfl
  (by
   intro j u hj
   match j,hj with
   |0,hj=>simp at hj;subst hj;simp[Addr.add])
  (by intro u hu;simp at hu;subst hu;rfl) (by unfold maxLen;omega) (by omega) (by simp;omega)
 have h1:w'.ownsRow base 9 1 v' (n+1) (qg (xs++[x])):=by
  rw[i5];exact h2
 exact⟨v',w',hr,h1,uW h3,by simpa using h5⟩
structure NdJ(w:World)(lo:Nat)(lv mv:Value)(met names:List Nod)(w4:World):Prop where
 own:w4.ownsRow w.heap.size 9 1 lv met.length (qg (met.map txT))
 more:w4.ownsRow lo 9 1 mv names.length (qg (names.map txT))
 sep: ∀j,lv.ownBlock=some j->mv.ownBlock≠some j
 below:Below w.heap.size w w4
variable{lv:Value}{w w4:World}
theorem NdJ.add{lo:Nat}{mv:Value}{names:List Nod}(h:NdJ w lo lv mv met names w4)(y:Nod)(hl:met.length<=300000):
  ∃v' w',(Builtin.append_ #[28,28] 28 #[lv,.slice (some ⟨w4.heap.size,0,none⟩) 1 1]).run prog (w4.alloc (.cells #[.string (txT y)] 9))=.ok v' w'/\NdJ w lo v' mv (met++[y]) names w':=by
 obtain⟨v',w',hr,ho,hg,hv⟩:=Jk w4 w.heap.size lv met.length (met.map txT) (txT y) h.own h.below.size (by omega)
 have h1:=qf h.more;refine⟨v',w',hr,?_,?_,?_,?_⟩
 ·have:(met++[y]).map txT=met.map txT++[txT y]:=by simp
  rw[this,OK];exact ho
 ·refine qF h.more λg h0=>hg.block g (h1 g h0).1 ?_
  intro e;exact h.sep g e.symm h0
 ·intro j hj
  rcases hv with e|e
  ·rw[e]at hj;exact h.sep j hj
  ·rw[e]at hj
   intro hm;have:=(h1 j hm).1;injection hj with hj;omega
 ·exact h.below.grown hg h.below.size (λj hj=>(h.own.lt j hj).1)
structure NdI(xs now:List BA)(x:Nod)(w:World)(lv:Value)(met:List Nod)(gone:Nat)(wr:World):Prop where
 own:wr.ownsRow w.heap.size 9 1 lv met.length (qg (met.map txT))
 nd:met.Nodup
 gn:Gone (qt now) xs x met gone
 le:gone<=met.length
 nm: ∀z∈met,∃k n r,NmN z k n (some r)
 below:Below w.heap.size w wr
variable{gone:Nat}{wr:World}
theorem NdI.pos(h:NdI xs now x w lv met gone wr):0<met.length:=(OE.1 h.gn.first).1
theorem NdI.len(ok:DocOk xs now)(h:NdI xs now x w lv met gone wr):met.length<=300000:=td ok h.nd h.gn.rch
theorem NdI.next(ok:DocOk xs now)(h:NdI xs now x w lv met gone wr){y:Nod}(hy:met[gone]?=some y){lv':Value}(ho:w4.ownsRow w.heap.size 9 1 lv' (xf met (qI (qt now) (qi xs) y)).length (qg ((xf met (qI (qt now) (qi xs) y)).map txT)))(hb:Below w.heap.size w w4):
  NdI xs now x w lv' (xf met (qI (qt now) (qi xs) y)) (gone+1) w4:=by
 have h1:=(OE.1 hy).1;refine⟨ho,lY _ h.nd,h.gn.next hy,?_,λz hz=>?_,hb⟩
 ·have:=(i7 (qI (qt now) (qi xs) y) met).length_le;omega
 ·rcases(j0 _ _ z).1 hz with e|e
  ·exact h.nm z e
  ·obtain⟨k,n,r,h0⟩:=h.nm y (OZ hy)
   exact bn ok.hv ok.ht h0 e
theorem Jl{y:Nod}(hr: ∀z∈met,Rch (qt now) (qi xs) x z)(hy:y∈met){l:List Nod}(hl: ∀z∈l,z∈qI (qt now) (qi xs) y): ∀z∈xf met l,Rch (qt now) (qi xs) x z:=by
 intro z hz;rcases(j0 _ _ z).1 hz with e|e
 ·exact hr z e
 ·exact Rch.on (hr y hy) (hl z e)
theorem ox:jC:=by
 intro xs now ok b g tv w h x k n r hx;have ha:Hid (∀(y:Nod) (w1:World),Below w.heap.size w w1->(∃k n r,NmN y k n (some r))->Calls prog 72 #[.pointer (some ⟨b,0,none⟩),.string (txT y)] w1 λe w'=>e=.returned (.string (qD (qh xs) (txT y)))/\ ∃n,w'=w1.drewN n):=by
  rintro y w1 hb ⟨k,n,r,hy⟩;exact fo ok (h.below hb) hy
 have he:Hid (∀(y:Nod) (w1:World),Below w.heap.size w w1->(∃k n r,NmN y k n (some r))->(qD (qh xs) (txT y)).size≠0->Calls prog 201 #[.pointer (some ⟨b,0,none⟩),tv,.string (txT y),.string (qD (qh xs) (txT y))] w1 λe w'=> ∃mo mc,e=.returned (.slice mo (qI (qt now) (qi xs) y).length mc)/\w'.ownsRow w1.heap.size 9 1 (.slice mo (qI (qt now) (qi xs) y).length mc) (qI (qt now) (qi xs) y).length (qg ((qI (qt now) (qi xs) y).map txT))/\Below w1.heap.size w1 w'):=by
  rintro y w1 hb ⟨k,n,r,hy⟩ h0;refine(Yc ok (h.below hb) hy h0).mono ?_;rintro e w' ⟨v,rfl,ho,hd⟩;rw[OM]at ho;obtain⟨mo,mc,rfl⟩:=qz ho;exact⟨mo,mc,rfl,ho,hd⟩
 have hg:Hid (∀(y:Nod),(∃k n r,NmN y k n (some r))->(qI (qt now) (qi xs) y).length<=1000000):=by
  intro y _;have hp: ∀y∈xs,y.size<=200:=λy hy=>(xL y (ok.hv y hy)).1;have h1:(qI (qt now) (qi xs) y).length<=(qY (qt now) y (qi xs y)).length:=List.length_filter_le _ _;have h2:=vD (qt now) y (qi xs y);have h3:=(pL hp y).2;have h4:(qt now).length<=50:=by unfold qt;rw[OM];exact ok.nl
  have h5:lvW (qi xs y) * ((qt now).length+1)<=201 * 51:=Nat.mul_le_mul h3 (by omega)
  show _<=_
  omega
 have HZ:Hid (∀y:Nod,(∃k n r,NmN y k n (some r))->(qD (qh xs) (txT y)).size=0->qI (qt now) (qi xs) y=[]):=by
  rintro y ⟨k,n,r,hy⟩ h0;rcases ow ok.hv ok.ht hy with⟨-,e⟩|⟨e,-⟩
  ·exact e
  ·exact absurd h0 e
 have h6:Hid (∀(o:Option Addr) (c:Nat) (met:List Nod) (wr:World),NdI xs now x w (.slice o met.length c) met met.length wr->lH xs now x w (.returned (.slice o met.length c)) wr):=
  λo c met wr hI=>⟨o,c,met,rfl,⟨hI.nd,hI.gn,hI.nm⟩,hI.own,hI.len ok,hI.below⟩
 have hC:Hid (NdI xs now x w (.slice (some ⟨w.heap.size,0,none⟩) 1 1) [x] 0 (w.alloc (.cells #[.string (txT x)] 9))):=
  ⟨⟨by simp[qg],Or.inr ⟨w.heap.size,1,#[.string (txT x)],rfl,Uc _,qn w [.string (txT x)] _,Uc _,by unfold maxLen;omega,rfl,rfl⟩⟩,by simp,⟨rfl,λy hy=>by simp at hy;rw[hy];exact Rch.here,λi y hi=>absurd hi (Uj _)⟩,Um _,λz hz=>by simp at hz;rw[hz];exact⟨k,n,r,hx⟩,(Ou _ _).alloc (Uc _) _⟩
 have h7:Hid (DocOk xs now):=ok;have hR: ∃x n c,tv=.slice x n c:=by
  rcases h.tv with⟨rfl,-⟩|⟨b,off,cap,rfl,-⟩
  ·exact⟨_,_,_,rfl⟩
  ·exact⟨_,_,_,rfl⟩
 obtain⟨tx,tn,tc,rfl⟩:=hR;generalize lH xs now x w=P at *;clear h hx ok;go_enter func171,ntmps171;go_wp2
 go_loopw [7,8] (λlv i wr=> ∃(met:List Nod) (gone:Nat),i=.int .i64 gone/\NdI xs now x w lv met gone wr) (λ_ i _=>300001-(intOf i).toNat)
 case atStart=>exact⟨[x],0,rfl,hC.out⟩
 case round=>
  obtain⟨met,gone,rfl,hI⟩:=hrel;clear hC;have hO:=hI.len h7.out;have H1:=hI.le;obtain⟨gl,cl,rfl,hf⟩:=xj hI.own hI.pos;have HI:Hid (NdI xs now x w (.slice (some ⟨gl,0,none⟩) met.length cl) met gone wr):=hI;clear hI;by_cases hQ:gone<met.length
  ·obtain⟨y,hy⟩: ∃y,met[gone]?=some y:=⟨_,OC hQ⟩
   have H0:=hf gone (.string (txT y)) (x4 (by rw[OF,hy];rfl))
   have hU: ∀nq,(wr.drewN nq).cell? ⟨gl,gone,none⟩=some (.string (txT y)):=λnq=>H0;have hE:=OZ hy;have h9:Hid (∃k n r,NmN y k n (some r)):=HI.out.nm y hE;have hA:Hid (Calls prog 72 #[.pointer (some ⟨b,0,none⟩),.string (txT y)] wr λe w'=>e=.returned (.string (qD (qh xs) (txT y)))/\ ∃n,w'=wr.drewN n):=ha.out y wr HI.out.below h9.out;have HY:Hid (met[gone]?=some y):=hy;clear hf hy;by_cases hz:(qD (qh xs) (txT y)).size=0
   ·have hY:(qD (qh xs) (txT y)).toList.isEmpty=true:=(io _).2 hz
    have hK:Hid (∀nq,NdI xs now x w (.slice (some ⟨gl,0,none⟩) met.length cl) met (gone+1) (wr.drewN nq)):=by
     intro nq;have e:=HZ.out y h9.out hz;have hb:=HI.out.below.trans ((qN ⟨nq,rfl⟩).mono HI.out.below.size);have:=HI.out.next h7.out HY.out (w4:=wr.drewN nq) (lv':=.slice (some ⟨gl,0,none⟩) met.length cl);rw[e]at this;exact this (q9 HI.out.own (qN ⟨nq,rfl⟩)) hb
    generalize qD (qh xs) (txT y)=way at *;generalize txT y=ty at *;clear hz ha he HZ h6
    go_wp2_with(go_at_call 72;refine hA.out.mono ?_;rintro e w1 ⟨rfl,nq,rfl⟩)
    go_roundw
    case rel=>exact⟨met,gone+1,by go_num,hK.out _⟩
    case measure=>simp[intOf];omega
   ·have hY:(qD (qh xs) (txT y)).toList.isEmpty=false:=cR hz
    have hL:Hid (∀nq,Calls prog 201 #[.pointer (some ⟨b,0,none⟩),.slice tx tn tc,.string (txT y),.string (qD (qh xs) (txT y))] (wr.drewN nq) λe w'=> ∃mo mc,e=.returned (.slice mo (qI (qt now) (qi xs) y).length mc)/\NdJ w wr.heap.size (.slice (some ⟨gl,0,none⟩) met.length cl) (.slice mo (qI (qt now) (qi xs) y).length mc) met (qI (qt now) (qi xs) y) w'):=by
     intro nq;have hb:=HI.out.below.trans ((qN ⟨nq,rfl⟩).mono HI.out.below.size);refine(he.out y (wr.drewN nq) hb h9.out hz).mono ?_;rintro e w' ⟨mo,mc,rfl,ho,hd⟩;refine⟨mo,mc,rfl,?_,ho,?_,hb.trans (hd.mono hb.size)⟩
     ·exact q9 (q9 HI.out.own (qN ⟨nq,rfl⟩)) hd
     ·intro j hj hm
      have h1:=(qf HI.out.own j hj).1;have h2:=(qf ho j hm).2.1;have:(wr.drewN nq).heap.size=wr.heap.size:=rfl;omega
    have hP:Hid (∀lv w4,w4.ownsRow w.heap.size 9 1 lv (xf met (qI (qt now) (qi xs) y)).length (qg ((xf met (qI (qt now) (qi xs) y)).map txT))->Below w.heap.size w w4->NdI xs now x w lv (xf met (qI (qt now) (qi xs) y)) (gone+1) w4):=λlv w4 ho hb=>HI.out.next h7.out HY.out ho hb;have H2:=hg.out y h9.out;have hB:Hid (∀z∈qI (qt now) (qi xs) y,∃k n r,NmN z k n (some r)):=λz hz=>by
     obtain⟨k,n,r,hX⟩:=h9.out;exact bn h7.out.hv h7.out.ht hX hz
    have hr:Hid (∀k,(xf met ((qI (qt now) (qi xs) y).take k)).length<=300000):=λk=>td h7.out (lY _ HI.out.nd) (Jl HI.out.gn.rch hE λz hz=>List.mem_of_mem_take hz);have hZ:Hid (∀k,∀z∈xf met ((qI (qt now) (qi xs) y).take k),∃k n r,NmN z k n (some r)):=λk z hz=>by
     rcases(j0 _ _ z).1 hz with e|e
     ·exact HI.out.nm z e
     ·exact hB.out z (List.mem_of_mem_take e)
    have hF:Hid (∀l,0<(xf met l).length):=λl=>Ug HI.out.pos (i7 l met).length_le;generalize qD (qh xs) (txT y)=way at *;generalize txT y=ty at *;generalize qI (qt now) (qi xs) y=names at *;clear hz ha he HZ h6 h9 hg HI
    go_wp2_with(first|(go_at_call 72;refine hA.out.mono ?_;rintro e w1 ⟨rfl,nq,rfl⟩)|(go_at_call 201;refine(hL.out _).mono ?_;rintro e w3 ⟨mo,mc,rfl,hJ⟩;have HJ:Hid (NdJ w wr.heap.size (.slice (some ⟨gl,0,none⟩) met.length cl) (.slice mo names.length mc) met names w3):=hJ;clear hJ))
    go_loopw [7,11] (λlv i w4=> ∃(kk:Nat),i=.int .i64 kk/\kk<=names.length/\NdJ w wr.heap.size lv (.slice mo names.length mc) (xf met (names.take kk)) names w4) (λ_ i _=>names.length-(intOf i).toNat)
    case atStart=>exact⟨0,rfl,Um _,HJ.out⟩
    case round=>
     obtain⟨kk,rfl,H4,hJ⟩:=hrel;clear HJ;by_cases hq:kk<names.length
     ·obtain⟨z,hz⟩: ∃z,names[kk]?=some z:=⟨_,OC hq⟩
      obtain⟨gm,cm,hV,hl⟩:=xj hJ.more (by omega)
      injection hV with hG _ hT;subst hG;subst hT;have H3:=hl kk (.string (txT z)) (x4 (by rw[OF,hz];rfl))
      have HE:Hid (xf met (names.take (kk+1))=zz (xf met (names.take kk)) z):=ak hz;have hs:Hid (Calls prog 170 #[_,.string (txT z)] _ λe w'=>e=.returned (.int .i64 (yE ((xf met (names.take kk)).map txT) (txT z)))/\w'=_):=ii _ _ (txT z) _ (yi (by rw[OM];exact hJ.own)) (by rw[OM];exact Ue (hr.out kk) (by unfold maxLen;omega))
      have hM:=hr.out kk;obtain⟨kz,nz,rz,hn⟩:=hB.out z (OZ hz);have hc:=Qk (hZ.out kk) hn;obtain⟨gk,ck,rfl,-⟩:=xj hJ.own (hF.out _);by_cases h8:z∈xf met (names.take kk)
      ·have hk: ¬yE ((xf met (names.take kk)).map txT) (txT z)<0:=λe=>(hc.1 e) h8
       have HQ:Hid (xf met (names.take (kk+1))=xf met (names.take kk)):=by
        show _=_
        rw[HE.out];unfold zz;rw[if_pos h8]
       have HJ:Hid _:=hJ;clear hJ hl hc HE hn hz h8;generalize yE ((xf met (names.take kk)).map txT) (txT z)=ix at *;generalize txT z=tz at *
       go_wp2_with(go_at_call 170;refine hs.out.mono ?_;rintro e w5 ⟨rfl,rfl⟩)
       go_roundw
       case rel=>exact⟨kk+1,by go_num,by omega,by rw[HQ.out];exact HJ.out⟩
       case measure=>simp[intOf];omega
      ·have hk:yE ((xf met (names.take kk)).map txT) (txT z)<0:=hc.2 h8
       have HQ:Hid (xf met (names.take (kk+1))=xf met (names.take kk)++[z]):=by
        show _=_
        rw[HE.out];unfold zz;rw[if_neg h8]
       obtain⟨v2,w2,hN,hu⟩:=hJ.add z hM;have HJ:Hid _:=hu;clear hJ hu hl hc HE hn hz h8;generalize yE ((xf met (names.take kk)).map txT) (txT z)=ix at *;generalize txT z=tz at *
       go_wp2_with(first|(go_at_call 170;refine hs.out.mono ?_;rintro e w5 ⟨rfl,rfl⟩)|(at_builtin;refine qo rfl (.tmp 51) (.tmp 56) 28 rfl _ _ _ rfl rfl hN ?_))
       go_roundw
       case rel=>exact⟨kk+1,by go_num,by omega,by rw[HQ.out];exact HJ.out⟩
       case measure=>simp[intOf];omega
     ·obtain rfl:kk=names.length:=by omega
      rw[List.take_length]at hJ;have hD:=hP.out _ _ hJ.own hJ.below;have hS:Hid (NdI xs now x w _ (xf met names) (gone+1) _):=hD;obtain⟨gk,ck,rfl,-⟩:=xj hJ.own (hF.out _);clear hJ hD;go_wp2
      go_roundw
      case rel=>exact⟨xf met names,gone+1,by go_num,hS.out⟩
      case measure=>simp[intOf];omega
  ·obtain rfl:gone=met.length:=by omega
   have HP:=h6.out _ _ _ _ HI.out;clear h6 HI hf ha he HZ hg;go_wp2;exact HP
