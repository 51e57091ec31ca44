import Derived.Test.YtalmoiogbdahcaaGreatADskN
open Go.Proofs.Tryz
namespace Go.Proofs.YtalmoiogbdahcaaGreat
set_option maxRecDepth 100000
set_option maxHeartbeats 8000000
open Go.RowKit Go.Shelf
variable{D:Dk}{g:Gq}{xs:List BA}
theorem KH{c:Int}{x:Rq}(sr:SimR xs c x g):yP D x=((x.is==1) && !yL D g.t.x):=by
 unfold yP vF;rw[vJ];by_cases e:x.is=1
 ·rw[(sr.live (Or.inl e)).1]
 ·rw[Uo e];rfl
def nQ(b wb i:Nat)(rv:Value)(PP:World->Prop)(D:Dk)(w:World)(k:Nat)(wr:World):Prop:=
 (wr=w/\ ∀(m:Nat) (y:Rq),m<k->D.rs[m]?=some y->yP D y=false)\/ ∃j:Nat,j<30/\wr.cell? ⟨b,6,none⟩=some rv/\wr.cell? ⟨b,7,none⟩=some (.slice (some ⟨wb,0,none⟩) D.wk.length D.wk.length)/\wr.cell? ⟨wb,i,none⟩=some (.int .i64 ((j:Int)+1))/\GN b wb rv PP j wr
variable{B b i wb:Nat}{D':Dk}{gs:List Gq}{q:Ql}{qs:List Ql}{r:Rg}{w:World}
theorem Y2(h:QsAt B b r D gs qs wb w)(hS:Sim xs D gs)(hi:D.wk[i]?=some none)(hd:DStep xs D i D'){k:Nat}{x:Rq}(hq:qs[k]?=some q)(hx:D.rs[k]?=some x)(hg:gs[k]?=some g)(hm:yP D x=true)(h7: ∀(m:Nat) (y:Rq),m<k->D.rs[m]?=some y->yP D y=false):
  nQ b wb i r.reqV (yQ B b r D' gs qs wb w) D w (k+1) ((w.setCell ⟨q.b,7,none⟩ (.int .i64 2)).setCell ⟨wb,i,none⟩ (.int .i64 ((k:Int)+1))):=by
 have hG:xY D i={D with rs:=D.rs.set k {x with is:=2},wk:=D.wk.set i (some k)}:=li hx hm (λm y h1 h2=>h7 m y h1 h2);have h8:=(OE.1 hi).1;have h9:=(OE.1 hx).1;have ha:=h.n30;have h0:(xY D i).wk[i]?=some (some k):=by rw[hG];exact OI h8
 have hQ:=h.give (i:=i) hq hx hg;rw[←hG]at hQ;have h6:=hS.give i;have h4:(xY D i).wk.length=D.wk.length:=by rw[hG];exact OO
 have g7:=qa hQ.rg (j:=7) rfl;have h5:=hQ.wv;rw[h4]at h5;refine Or.inr ⟨k,by omega,qa hQ.rg (j:=6) rfl,by rw[←h5];exact g7,qa hQ.wrow (u:=oz (some k)) (by rw[OF,h0];rfl),?_⟩
 have h3:=OZ hq;rcases lq hd hi with⟨e,-⟩|⟨j,hj,y,y',t,fin,hy,ht,hs,hD⟩
 ·rw[h0]at e;cases e
 ·rw[h0]at hj
  injection hj with hj;injection hj with hj;subst hj;refine Qs (i:=i) hQ h6 ?_ (by rw[yG,yG]) h0 hy ht hs hD
  exact((zu w q.b 7 (.int .i64 2)).mono λk _ e=>Or.inr ⟨q,h3,e⟩).trans (zu _ wb i _) λk _ e=>Or.inl e
variable{j:Nat}
theorem nR(h:QsAt B b r D gs qs wb w)(hS:Sim xs D gs)(h0:r.closed=false)(hj:D.wk[i]?=some (some j))(hd:DStep xs D i D'):
  Calls prog 124 #[.pointer (some ⟨b,0,none⟩),.int .i64 i] w λe w'=>e=.returned (.int .i64 0)/\yQ B b r D' gs qs wb w w':=by
 obtain⟨x,x',t,fin,hx,ht,hs,hD⟩:=Zu hd hj;have hW:=Qs (i:=i) h hS (Frm.refl _ _) rfl hj hx ht hs hD;have g4:=qa h.rg (j:=4) rfl;have g6:=qa h.rg (j:=6) rfl;have g7:=qa h.rg (j:=7) rfl;have h4:=h.w4;have hi:=(OE.1 hj).1;rw[h0]at g4;rw[h.wv]at g7;have gw:w.cell? ⟨wb,i,none⟩=some (.int .i64 ((j:Int)+1)):=qa h.wrow (u:=oz (some j)) (by rw[OF,hj];rfl)
 have h6:wb≠b:=qV h.wrow h.rg (by decide)
 generalize yQ B b r D' gs qs wb w=PP at *;generalize r.reqV=rv at *;generalize D.wk.length=M at *;clear h hS hj hd hx ht hs hD h0;obtain⟨rb,qb,c,N,n,st,bud,hv,h8,hN,h2,h5,h7,h3,c1,n1,n2,c4,c5,c7,c8,z7,z8,h1⟩:=hW;subst hv;rcases h1 with⟨e1,HF⟩|⟨e1,e2,HF⟩|⟨e1,e2,HF⟩
 all_goals
  go_enter func124,ntmps124;go_wp2;refine wp_loop_rounds 1 ?_;rw[rounds_succ];go_wp2
  go_region
  all_goals go_wp2_with(go_at_call 173;refine(Calls.mono (HF.out _ bl (by rfl))) ?_;rintro e w2 ⟨rfl,hp⟩)
  all_goals try go_region
  all_goals try go_wp2_with(go_at_call 173;refine(Calls.mono (HF.out _ bl (by rfl))) ?_;rintro e w2 ⟨rfl,hp⟩)
  all_goals
   go_ret;exact⟨rfl,hp⟩
theorem nS(h:QsAt B b r D gs qs wb w)(hS:Sim xs D gs)(hf:r.closed=false)(h3:D.wk[i]?=some none)(hd:DStep xs D i D'):
  Calls prog 124 #[.pointer (some ⟨b,0,none⟩),.int .i64 i] w λe w'=>e=.returned (.int .i64 0)/\yQ B b r D' gs qs wb w w':=by
 have g4:=qa h.rg (j:=4) rfl;have g6:=qa h.rg (j:=6) rfl;have g7:=qa h.rg (j:=7) rfl;have h4:=h.w4;have hA:=h.n30;have hi:=(OE.1 h3).1;rw[hf]at g4;rw[h.wv]at g7;obtain⟨rx,rc,h6⟩:=qz h.row;rw[h.len]at h6;have gw:w.cell? ⟨wb,i,none⟩=some (.int .i64 0):=qa h.wrow (u:=oz none) (by rw[OF,h3];rfl)
 have h1:Hid ((∀(m:Nat) (y:Rq),m<D.rs.length->D.rs[m]?=some y->yP D y=false)->yQ B b r D' gs qs wb w w):=by
  intro h2;have hG:xY D i=D:=lh λk y hy=>h2 k y (OE.1 hy).1 hy;rcases lq hd h3 with⟨-,e⟩|⟨j,hj,-⟩
  ·rw[hG]at e
   subst e;exact⟨Frm.refl _ _,rfl,h⟩
  ·rw[hG,h3]at hj;cases hj
 have h5:Hid (∀k,k<D.rs.length->(∀(m:Nat) (y:Rq),m<k->D.rs[m]?=some y->yP D y=false)-> ∃(rb qb:Nat) (nd:BA) (is:Int) (bz:Bool),rx=some ⟨rb,0,none⟩/\qb≠wb/\qb≠b/\w.cell? ⟨rb,k,none⟩=some (.pointer (some ⟨qb,0,none⟩))/\w.cell? ⟨qb,0,none⟩=some (.string nd)/\w.cell? ⟨qb,7,none⟩=some (.int .i64 is)/\w.frozen? ⟨qb,7,none⟩=false/\w.frozen? ⟨wb,i,none⟩=false/\Hid (Calls prog 172 #[.pointer (some ⟨b,0,none⟩),.string nd] w λe w'=>e=.returned (.bool bz)/\w'=w)/\((is=1/\bz=false/\Hid (nQ b wb i r.reqV (yQ B b r D' gs qs wb w) D w (k+1) ((w.setCell ⟨qb,7,none⟩ (.int .i64 2)).setCell ⟨wb,i,none⟩ (.int .i64 ((k:Int)+1)))))\/(((is==1)=false\/(is=1/\bz=true))/\Hid (nQ b wb i r.reqV (yQ B b r D' gs qs wb w) D w (k+1) w)))):=by
  intro k hk h2;have hx:D.rs[k]?=some D.rs[k]:=OC hk;generalize D.rs[k]=x at hx;obtain⟨q,g,rb,c,hq,hg,sr,hb,hv,hc⟩:=h.get hS hx;rw[h.len,h6]at hv;injection hv with h9 _ _;obtain⟨k1,n1,z1,hz⟩:=sr.nm;have hl:=wd h hS hz;rw[←sr.nd]at hl;have h0:=KH (D:=D) sr;refine⟨rb,q.b,g.nd,x.is,yL D g.t.x,h9,qV hb h.wrow (by decide),qV hb h.rg (by decide),hc,qa hb (j:=0) rfl,qa hb (j:=7) rfl,qd hb 7,qd h.wrow i,hl,?_⟩
  cases e1:x.is==1 with
  |false=>
   rw[e1]at h0;refine Or.inr ⟨Or.inl rfl,Or.inl ⟨rfl,λm y hm hy=>?_⟩⟩;by_cases e:m=k
   ·subst e
    rw[hx]at hy;injection hy with hy;rw[←hy,h0];rfl
   ·exact h2 m y (by omega) hy
  |true=>
   rw[e1]at h0;cases e2:yL D g.t.x with
   |true=>
    rw[e2]at h0;refine Or.inr ⟨Or.inr ⟨by rw[vJ]at e1;exact of_decide_eq_true e1,rfl⟩,Or.inl ⟨rfl,λm y hm hy=>?_⟩⟩
    by_cases e:m=k
    ·subst e
     rw[hx]at hy;injection hy with hy;rw[←hy,h0];rfl
    ·exact h2 m y (by omega) hy
   |false=>
    rw[e2]at h0;exact Or.inl ⟨by rw[vJ]at e1;exact of_decide_eq_true e1,rfl,Y2 h hS h3 hd hq hx hg h0 h2⟩
 rw[h6]at h5 g6;have ha:Hid (nQ b wb i (.slice rx D.rs.length rc) (yQ B b r D' gs qs wb w) D w 0 w):=Or.inl ⟨rfl,λm y hm=>by omega⟩
 generalize yQ B b r D' gs qs wb w=PP at *;obtain⟨N,hN⟩: ∃N,D.rs.length=N:=⟨_,rfl⟩;obtain⟨M,hM⟩: ∃M,D.wk.length=M:=⟨_,rfl⟩;rw[hN]at h1 h5 g6 hA ha;rw[hM]at g7 hi h4;have HM:Hid (D.wk.length=M):=hM;clear h hS hd hf h6 h3 hN hM;have hL:((i:Int)<0)=False:=by simp
 have hO:(M<=i)=False:=eq_false (by omega)
 go_enter func124,ntmps124;go_wp2
 go_loopw [5] (λz wr=> ∃k:Nat,k<=N/\z=.int .i64 k/\nQ b wb i (.slice rx N rc) PP D w k wr) (λz _=>N-(intOf z).toNat)
 case atStart=>exact⟨0,Um _,rfl,ha.out⟩
 case round=>
  obtain⟨k,hk,rfl,hI⟩:=hrel;clear ha;rcases hI with⟨hB,h2⟩|⟨j,hC,d6,d7,dw,hW⟩
  ·subst hB
   have h7:Hid (∀(m:Nat) (y:Rq),m<k->D.rs[m]?=some y->yP D y=false):=h2;clear h2;by_cases hn:k<N
   ·obtain⟨rb,qb,nd,is,bz,hr,hP,hE,c1,c0,c7,z7,zw,he,h8⟩:=h5.out k hn h7.out
    subst hr;clear h5 h1 h7;rcases h8 with⟨e1,e2,HF⟩|⟨e1|⟨e1,e2⟩,HF⟩
    ·subst e1 e2
     go_wp2_with(go_at_call 172;refine he.out.mono ?_;rintro e w2 ⟨rfl,ho⟩;subst w2)
     go_roundw
     case rel=>exact⟨k+1,by omega,by go_num,HF.out⟩
     case measure=>simp[intOf];omega
    ·go_wp2_with(go_at_call 172;refine he.out.mono ?_;rintro e w2 ⟨rfl,ho⟩;subst w2)
     go_roundw
     case rel=>exact⟨k+1,by omega,by go_num,HF.out⟩
     case measure=>simp[intOf];omega
    ·subst e1 e2
     go_wp2_with(go_at_call 172;refine he.out.mono ?_;rintro e w2 ⟨rfl,ho⟩;subst w2)
     go_roundw
     case rel=>exact⟨k+1,by omega,by go_num,HF.out⟩
     case measure=>simp[intOf];omega
   ·have hs:k=N:=by omega
    subst hs;have HP:Hid _:=h1.out h7.out;clear h5 h1 h7;go_wp2;go_ret;exact⟨rfl,HP.out⟩
  ·clear h5 h1 g4 g6 g7 gw
   rw[HM.out]at d7;obtain⟨rb,qb,c,N',n,st,bud,hv,hK,hN,hD,hJ,hQ,hF,c1,n1,n2,c4,c5,c7,c8,z7,z8,h8⟩:=hW;injection hv with h9 ht hu;subst h9 ht hu;by_cases hn:k<N
   all_goals
    rcases h8 with⟨e1,HF⟩|⟨e1,e2,HF⟩|⟨e1,e2,HF⟩
    all_goals
     go_wp2
     go_region
     all_goals go_wp2_with(go_at_call 173;refine(Calls.mono (HF.out _ bl (by rfl))) ?_;rintro e w2 ⟨rfl,hp⟩)
     all_goals try go_region
     all_goals try go_wp2_with(go_at_call 173;refine(Calls.mono (HF.out _ bl (by rfl))) ?_;rintro e w2 ⟨rfl,hp⟩)
     all_goals
      go_ret;exact⟨rfl,hp⟩
variable{O Q R:Nat->Prop}{db mr wkb:Nat}{ls:List Rl}{met:List Nod}{t:Tk}{tv:Value}
variable{w2:World}
variable{U now:List BA}
variable{lo mb:Nat}{x:Nod}
variable{w':World}
theorem rf(h:xX w b r)(h0:r.closed=true)(i:Int):
  Calls prog 124 #[.pointer (some ⟨b,0,none⟩),.int .i64 i] w λe w'=>e=.returned (.int .i64 7)/\w'=w:=by
 have g4:=qa h (j:=4) rfl;rw[h0]at g4;clear h h0;go_enter func124,ntmps124;go_wp2;go_ret;exact⟨rfl,rfl⟩
theorem eM(h:QsAt B b r D gs qs wb w)(h0:r.closed=false){i:Int}(hi:i<0\/(¬i<0/\(D.wk.length:Int)<=i)):
  Calls prog 124 #[.pointer (some ⟨b,0,none⟩),.int .i64 i] w λe w'=>e=.returned (.int .i64 1)/\w'=w:=by
 have g4:=qa h.rg (j:=4) rfl;have g7:=qa h.rg (j:=7) rfl;rw[h0]at g4;rw[h.wv]at g7;generalize D.wk.length=M at *;clear h h0;rcases hi with h1|⟨h1,h2⟩
 all_goals
  go_enter func124,ntmps124;go_wp2;go_ret;exact⟨rfl,rfl⟩
theorem rh(h:xX w b r)(h0:r.closed=true):
  Calls prog 125 #[.pointer (some ⟨b,0,none⟩)] w λe w'=>e=.returned (.tuple #[])/\w'=w:=by
 have g4:=qa h (j:=4) rfl;rw[h0]at g4;clear h h0;go_enter func125,ntmps125;go_wp2;exact bodyPost_ret (v:=.tuple #[]) (by simp[results,results125,go_sem]) rfl ⟨rfl,rfl⟩
theorem QsAt.cls(h:QsAt B b r D gs qs wb w):QsAt B b {r with closed:=true} D gs qs wb (w.setCell ⟨b,4,none⟩ (.bool true)):=by
 have hf:=zu w b 4 (.bool true);have h0: ∀v xs,zH w v xs->zH (w.setCell ⟨b,4,none⟩ (.bool true)) v xs:=λv xs hv=>xJ hv λk hk=>by
  obtain⟨h1,cur,h2⟩:=zG hv k hk;exact hf.block k h1 (qV h2 h.rg (by decide))
 refine{h with rg:=qL h.rg 4 _,row:=qF h.row λg hg=>?_,wrow:=(hf.block _ (qc h.wrow) (qV h.wrow h.rg (by decide))).trans h.wrow,at':=λj q x g hq hx hg=>?_}
 ·obtain⟨h1,-,cur,h2⟩:=qf h.row g hg
  rw[←Oo (xs:=cur)]at h2;exact hf.block _ h1 (qV h2 h.rg (by decide))
 ·obtain⟨h1,h2⟩:=h.at' j q x g hq hx hg
  exact⟨(hf.block _ (qc h1) (qV h1 h.rg (by decide))).trans h1,h0 _ _ h2⟩
def Y5(B b:Nat)(r:Rg)(D':Dk)(gs:List Gq)(qs:List Ql)(wb:Nat)(w w':World):Prop:=Frm (λk=>k=b\/QF qs wb k) w w'/\w'.heap.size=w.heap.size/\QsAt B b {r with closed:=true} D' gs qs wb w'
theorem nU(h:QsAt B b r D gs qs wb w)(hS:Sim xs D gs):
  Calls prog 128 #[.pointer (some ⟨b,0,none⟩)] w λe w'=>e=.returned (.tuple #[])/\Y5 B b r (xI D D.rs.length) gs qs wb w w':=by
 have hd:=h.n30;obtain⟨rx,rc,h2⟩:=qz h.row;rw[h.len]at h2;have h7:Hid (yQ B b r (xI D 0) gs qs wb w w):=⟨Frm.refl _ _,rfl,h⟩;have HG:Hid (∀k wr,yQ B b r (xI D k) gs qs wb w wr->wr.cell? ⟨b,6,none⟩=some (.slice rx D.rs.length rc)/\wr.cell? ⟨b,4,none⟩=some (.bool r.closed)/\wr.frozen? ⟨b,4,none⟩=false):=by
  rintro k wr ⟨-,-,hQ⟩;refine⟨?_,qa hQ.rg (j:=4) rfl,qd hQ.rg 4⟩;rw[←h2];exact qa hQ.rg (j:=6) rfl
 have HR:Hid (∀k wr,yQ B b r (xI D k) gs qs wb w wr->Calls prog 126 #[.pointer (some ⟨b,0,none⟩),.int .i64 ((k:Int)+1)] wr λe w'=> ∃o,e=.returned (.bool o)/\yQ B b r (xI D (k+1)) gs qs wb w w'):=by
  rintro k wr ⟨hf,hz,hQ⟩;refine(gZ hQ (hS.cancels k) ((k:Int)+1)).mono ?_;rintro e w' ⟨rfl,ha,hc,h8⟩;exact⟨_,rfl,hf.trans ha λ_ _ e=>e,by rw[hc,hz],h8⟩
 have HE:Hid (∀wr,yQ B b r (xI D D.rs.length) gs qs wb w wr->Y5 B b r (xI D D.rs.length) gs qs wb w (wr.setCell ⟨b,4,none⟩ (.bool true))):=by
  rintro wr ⟨hf,hz,hQ⟩;exact⟨(hf.mono λ_ _ e=>Or.inr e).trans (zu _ _ _ _) λ_ _ e=>Or.inl e,by rw[yG];exact hz,hQ.cls⟩
 generalize hPP:Y5 B b r (xI D D.rs.length) gs qs wb w=PP at *;clear hPP;generalize h0:(λk=>yQ B b r (xI D k) gs qs wb w)=CC at *;have h5:Hid (CC 0 w):=by rw[←h0];exact h7.out
 have h3:Hid (∀k wr,CC k wr->wr.cell? ⟨b,6,none⟩=some (.slice rx D.rs.length rc)/\wr.cell? ⟨b,4,none⟩=some (.bool r.closed)/\wr.frozen? ⟨b,4,none⟩=false):=by rw[←h0];exact HG.out
 have h4:Hid (∀k wr,CC k wr->Calls prog 126 #[.pointer (some ⟨b,0,none⟩),.int .i64 ((k:Int)+1)] wr λe w'=> ∃o,e=.returned (.bool o)/\CC (k+1) w'):=by rw[←h0];exact HR.out
 have h1:Hid (∀wr,CC D.rs.length wr->PP (wr.setCell ⟨b,4,none⟩ (.bool true))):=by rw[←h0];exact HE.out
 clear h7 HG HR HE h0 h hS h2;generalize D.rs.length=N at *;generalize r.closed=cl0 at *;go_enter func128,ntmps128;go_wp2
 go_loopw [2] (λi wr=> ∃k:Nat,k<=N/\i=.int .i64 k/\CC k wr) (λi _=>N-(intOf i).toNat)
 case atStart=>exact⟨0,Um _,rfl,h5.out⟩
 case round=>
  obtain⟨k,hk,rfl,hI⟩:=hrel;have HI:Hid (CC k wr):=hI;obtain⟨g6,g4,z4⟩:=h3.out k wr hI;clear hI h5;by_cases hlt:k<N
  ·have HC:Hid _:=h4.out k wr HI.out
   clear h4 h3 h1 HI
   go_wp2_with(go_at_call 126;refine(Calls.mono HC.out) ?_;rintro e w2 ⟨o,rfl,h6⟩;have hb:Hid (CC (k+1) w2):=h6;clear h6 HC)
   go_roundw
   case rel=>exact⟨k+1,by omega,by go_num,hb.out⟩
   case measure=>simp[intOf];omega
  ·have h9:k=N:=by omega
   subst h9;have HP:Hid _:=h1.out wr HI.out;clear h4 h3 h1 HI;go_wp2
   go_end0
   exact⟨rfl,HP.out⟩
def il(x:Rq)(w:World)(e:Ending)(w':World):Prop:=
 ∃o c,e=.returned (.agg #[.int .i64 x.is,.int .i64 x.st,.bool x.al,.slice o x.us.length c])/\qE w' (.slice o x.us.length c) x.us/\Below w.heap.size w w'
theorem nV(h:QsAt B b r D gs qs wb w){id:Int}(hh:vU D id=false):
  Calls prog 174 #[.pointer (some ⟨b,0,none⟩),.int .i64 id] w (il (uA D id) w):=by
 have g6:=qa h.rg (j:=6) rfl;have h5:=h.n30;obtain⟨rx,rc,h0⟩:=qz h.row;rw[h0,h.len]at g6;have h4:=qc h.rg;have h3:=Qq hh;have e1:uA D id=noR:=by unfold uA;rw[hh];rfl
 have HP:Hid (∀w',Below w.heap.size w w'->il (uA D id) w (.returned (.agg #[.int .i64 0,.int .i64 0,.bool false,.slice none 0 0])) w'):=by
  intro w' hb;rw[e1];exact⟨none,0,rfl,Or.inl ⟨rfl,rfl⟩,hb⟩
 generalize il (uA D id) w=PP at *;generalize D.rs.length=N at *;clear h h0 hh e1;rcases h3 with h1|⟨h1,h2⟩
 all_goals
  go_enter func174,ntmps174;go_wp2;exact bodyPost_ret (v:=.agg #[.int .i64 0,.int .i64 0,.bool false,.slice none 0 0]) (by simp[results,results174,go_sem]) rfl (HP.out _ bl)
theorem eN(h:QsAt B b r D gs qs wb w)(hS:Sim xs D gs){x:Rq}(hx:D.rs[j]?=some x)(h3:x.is≠3):
  Calls prog 174 #[.pointer (some ⟨b,0,none⟩),.int .i64 ((j:Int)+1)] w (il x w):=by
 have g6:=qa h.rg (j:=6) rfl;have h5:=h.n30;have hj:=(OE.1 hx).1;obtain⟨q,g,rb,c,hq,hg,sr,hb,hv,hc⟩:=h.get hS hx;rw[hv,h.len]at g6;obtain⟨a1,a2⟩:=sr.rest h3;have HP:Hid (∀w',Below w.heap.size w w'->il x w (.returned (.agg #[.int .i64 x.is,.int .i64 x.st,.bool false,.slice none 0 0])) w'):=by
  intro w' hb;refine⟨none,0,by rw[a1,a2];rfl,Or.inl ⟨by rw[a2];rfl,a2⟩,hb⟩
 have q7:=qa hb (j:=7) rfl;have q8:=qa hb (j:=8) rfl;have h4:=qc hb;have h0:=qc h.rg;have h2:=qp hc;generalize il x w=PP at *;generalize D.rs.length=N at *;generalize q.b=qb at *;have h1:(x.is==3)=false:=by rw[vJ];exact Uo h3
 generalize x.is=is at *;generalize x.st=st at *;clear h hS hx hq hg sr hb hv a1 a2 h3;go_enter func174,ntmps174;go_wp2
 go_region
 all_goals go_wp2
 all_goals exact bodyPost_ret (v:=.agg #[.int .i64 is,.int .i64 st,.bool false,.slice none 0 0]) (by simp[results,results174,go_sem]) rfl (HP.out _ bl)
theorem aB(w:World)(a b:List Value)(s t:TypeId):((w.alloc (.cells a.toArray s)).alloc (.cells b.toArray t)).heap[w.heap.size]?=some (.cells a.toArray s (0,0))/\((w.alloc (.cells a.toArray s)).alloc (.cells b.toArray t)).heap[w.heap.size+1]?=some (.cells b.toArray t (0,0)):=by
 have hz:(w.alloc (.cells a.toArray s)).heap.size=w.heap.size+1:=by show(w.heap.push _).size=_;simp
 constructor
 ·exact qG (qn w a s) _
 ·rw[←hz];exact qn _ b t
theorem Y6{v:Value}{zs:List BA}{a:Nat}{p q:List Value}(h:qE w2 v zs)(ha:w2.heap[a]?=some (.cells p.toArray 51 (0,0)))(hb:w2.heap[b]?=some (.cells q.toArray 51 (0,0)))(hp: ∀u∈p,∀s,u≠ .string s)(hq: ∀u∈q,∀s,u≠ .string s)(hk: ∀k,k≠a->k≠b->w'.heap[k]?=w2.heap[k]?):qE w' v zs:=by
 have key: ∀(c:Nat) (cs:List Value),w2.heap[c]?=some (.cells cs.toArray 51 (0,0))->(∀u∈cs,∀s,u≠ .string s)-> ∀(i:Nat) (x:BA),w2.cell? ⟨c,i,none⟩≠some (.string x):=by
  intro c cs hc hn i x e;cases hcs:cs[i]? with
  |none=>
   have h0:=qp e;simp[World.cell?,hc,hcs]at e
  |some u=>
   rw[qa hc hcs]at e;injection e with e;exact hn u (OZ hcs) x e
 rcases h with h|⟨c,off,cap,rfl,hc⟩
 ·exact Or.inl h
 ·refine Or.inr ⟨c,off,cap,rfl,λi x hx=>?_⟩
  have h1:=hc i x hx;have n1:c≠a:=λe=>key a p ha hp (off+i) x (by rw[←e];exact h1)
  have n2:c≠b:=λe=>key b q hb hq (off+i) x (by rw[←e];exact h1)
  have h2:=hk c n1 n2;rw[←h1];simp only[World.cell?,h2]
def sK(is st:Int):List Value:=[.int .i64 is,.int .i64 st,.bool false,.slice none 0 0]
theorem nW(HW:Hid uL)(h:QsAt B b r D gs qs wb w)(hs:vL w r.rulesV (qh xs))(hS:Sim xs D gs){x:Rq}(hx:D.rs[j]?=some x)(h3:x.is=3):
  Calls prog 174 #[.pointer (some ⟨b,0,none⟩),.int .i64 ((j:Int)+1)] w (il x w):=by
 have g6:=qa h.rg (j:=6) rfl;have hF:=h.n30;have hj:=(OE.1 hx).1;obtain⟨q,g,rb,c,hq,hg,sr,hb,hv,hc⟩:=h.get hS hx;have h6:=(h.at' j q x g hq hx hg).2;rw[hv,h.len]at g6;have h5:=sr.done h3;have q0:=qa hb (j:=0) rfl;have q1:=qa hb (j:=1) rfl;have q2:=qa hb (j:=2) rfl;have q3:=qa hb (j:=3) rfl;have q7:=qa hb (j:=7) rfl;have q8:=qa hb (j:=8) rfl;have hr:=qc hb;have hG:=qc h.rg;have hI:=qp hc;obtain⟨k1,n1,z1,hC⟩:=sr.nm;have hn:Hid (∀w1,Below w.heap.size w w1->w1.heap[w.heap.size]?=some (.cells (sK 0 0).toArray 51 (0,0))->w1.heap[w.heap.size+1]?=some (.cells (sK 3 x.st).toArray 51 (0,0))->Calls prog 169 #[.pointer (some ⟨b,0,none⟩),q.nv,.string g.nd] w1 λe w2=> ∃o zs c2,e=.returned (.slice o (List.length zs) c2)/\List.length zs<=50/\w2.cell? ⟨q.b,1,none⟩=some (.string g.th)/\w2.cell? ⟨q.b,2,none⟩=some (.bool g.ck)/\Hid (w2.heap[w.heap.size]?=some (.cells (sK 0 0).toArray 51 (0,0)))/\Hid (w2.heap[w.heap.size+1]?=some (.cells (sK 3 x.st).toArray 51 (0,0)))/\Hid (Below w.heap.size w w2)/\Hid (qE w2 (.slice o (List.length zs) c2) zs)/\Hid (zy zs/\ ∀s,s∈zs↔ ∃u,InN (qt g.t.now) xs u g.t.x/\thT u=s)):=by
  intro w1 h4 hA hB;have hd:DocAt xs g.t.now b r q.nv w1:=⟨ut h.rg h4,i6 hs h4,(xJ h6 λk hk=>h4.block k (zG h6 k hk).1).strs⟩;rw[sr.nd];refine(HW.out sr.ok hd hC).mono ?_;rintro e w2 ⟨o,c2,zs,he,p1,p2,p3,p4,p5⟩;have ha:Below w.heap.size w w2:=h4.trans (p5.mono h4.size);exact⟨o,zs,c2,he,p3,(ha.cell (p:=⟨q.b,1,none⟩) hr).trans q1,(ha.cell (p:=⟨q.b,2,none⟩) hr).trans q2,(p5.block _ (qc hA)).trans hA,(p5.block _ (qc hB)).trans hB,ha,p1,⟨p2,p4⟩⟩
 have h7:Hid (∀(w1:World) o zs c2,List.length zs<=50->qE w1 (.slice o (List.length zs) c2) zs->(zy zs/\ ∀s,s∈zs↔ ∃u,InN (qt g.t.now) xs u g.t.x/\thT u=s)->g.ck=true->Calls prog 170 #[.slice o (List.length zs) c2,.string g.th] w1 λe w2=> ∃i:Int,e=.returned (.int .i64 i)/\w2=w1/\decide (0<=i)=x.al):=by
  intro w1 o zs c2 hl h8 hz h0;refine(ii _ zs g.th w1 h8 (by unfold maxLen;omega)).mono ?_
  rintro e w2 ⟨rfl,hE⟩;refine⟨_,rfl,hE,?_⟩;have hy:=(h5.yes (by rw[←sr.ck];exact h0)).2
  have e1:(0<=yE zs g.th)↔x.al=true:=by
   rw[pq,hz.2,sr.th h0];exact hy.symm
  cases hm:x.al with
  |true=>rw[decide_eq_true_iff];exact e1.2 hm
  |false=>exact Uo λe=>by rw[e1.1 e]at hm;cases hm
 have h9:Hid (g.ck=true-> ∀w',Below w.heap.size w w'->il x w (.returned (.agg #[.int .i64 3,.int .i64 x.st,.bool x.al,.slice none 0 0])) w'):=by
  intro h0 w' hb;have hu:=(h5.yes (by rw[←sr.ck];exact h0)).1
  exact⟨none,0,by rw[h3,hu];rfl,Or.inl ⟨by rw[hu];rfl,hu⟩,hb⟩
 have ho:Hid (g.ck=false-> ∀o zs c2 w',(zy zs/\ ∀s,s∈zs↔ ∃u,InN (qt g.t.now) xs u g.t.x/\thT u=s)->qE w' (.slice o (List.length zs) c2) zs->Below w.heap.size w w'->il x w (.returned (.agg #[.int .i64 3,.int .i64 x.st,.bool false,.slice o (List.length zs) c2])) w'):=by
  intro h0 o zs c2 w' hz h8 hb;obtain⟨u1,u2,u3⟩:=h5.who (by rw[←sr.ck];exact h0)
  have e:zs=x.us:=lQ _ _ hz.1 u2 λs=>by rw[hz.2,u3]
  subst e;exact⟨o,c2,by rw[h3,u1],h8,hb⟩
 obtain⟨nx,nn,nc,ht⟩: ∃x n c,q.nv=.slice x n c:=by
  rcases h6 with⟨e,-⟩|⟨b,cap,cur,e,-⟩
  ·exact⟨_,_,_,e⟩
  ·exact⟨_,_,_,e⟩
 rw[ht]at q3 hn;rw[h3]at q7;generalize il x w=PP at *;generalize D.rs.length=N at *;generalize q.b=qb at *;generalize x.st=st at *;generalize x.al=al at *;generalize g.ck=ck at *;generalize g.nd=nd at *;generalize g.th=th at *;clear h hS hx hq hg sr hb hv h3 ht h6 h5 hC HW hs;cases ck with
 |true=>
  have HP:Hid _:=h9.out rfl;have hD:Hid _:=λw1 o zs c2 a b c=>h7.out w1 o zs c2 a b c rfl;clear h9 ho h7;go_enter func174,ntmps174;go_wp2
  go_region
  all_goals go_wp2
  all_goals go_region_with(go_at_call 169;refine(Calls.mono (hn.out _ bl (by exact(aB w (sK 0 0) (sK 3 st) _ _).1) (by exact(aB w (sK 0 0) (sK 3 st) _ _).2))) ?_;rintro e w2 ⟨o,zs,c2,rfl,hl,p1,p2,R0,R1,hp,hf,HZ⟩;have k0:=qa R0.out (j:=0) rfl;have k1:=qa R0.out (j:=1) rfl;have k2:=qa R0.out (j:=2) rfl;have k3:=qa R0.out (j:=3) rfl;have y0:=qd R0.out 0;have y1:=qd R0.out 1;have y2:=qd R0.out 2;have y3:=qd R0.out 3;have m0:=qa R1.out (j:=0) rfl;have m1:=qa R1.out (j:=1) rfl;have m2:=qa R1.out (j:=2) rfl;have m3:=qa R1.out (j:=3) rfl;have x2:=qd R1.out 2;have x3:=qd R1.out 3)
  all_goals go_wp2_with(go_at_call 170;refine(Calls.mono (hD.out w2 o zs c2 hl hf.out HZ.out)) ?_;rintro e w3 ⟨i,rfl,hJ,hi⟩;subst w3)
  all_goals
   subst hi;exact bodyPost_ret (v:=.agg #[.int .i64 3,.int .i64 st,.bool (decide (0<=i)),.slice none 0 0]) (by simp[results,results174,go_sem,k0,k1,k2,k3]) rfl (HP.out _ (by repeat(first|exact hp.out|refine Below.setCell ?_ (by first|exact Uc _|(simp;done)|(simp;omega)) _|refine below_drewN ?_ _|refine Below.drew ?_)))
 |false=>
  have HP:Hid _:=ho.out rfl;clear h9 ho h7;go_enter func174,ntmps174;go_wp2
  go_region
  all_goals go_wp2
  all_goals go_region_with(go_at_call 169;refine(Calls.mono (hn.out _ bl (by exact(aB w (sK 0 0) (sK 3 st) _ _).1) (by exact(aB w (sK 0 0) (sK 3 st) _ _).2))) ?_;rintro e w2 ⟨o,zs,c2,rfl,hl,p1,p2,R0,R1,hp,hf,HZ⟩;have k0:=qa R0.out (j:=0) rfl;have k1:=qa R0.out (j:=1) rfl;have k2:=qa R0.out (j:=2) rfl;have k3:=qa R0.out (j:=3) rfl;have y0:=qd R0.out 0;have y1:=qd R0.out 1;have y2:=qd R0.out 2;have y3:=qd R0.out 3;have m0:=qa R1.out (j:=0) rfl;have m1:=qa R1.out (j:=1) rfl;have m2:=qa R1.out (j:=2) rfl;have m3:=qa R1.out (j:=3) rfl;have x2:=qd R1.out 2;have x3:=qd R1.out 3)
  all_goals go_wp2
  all_goals
   have sn: ∀is st:Int,∀u∈sK is st,∀s,u≠ .string s:=by
    intro is st u hu s e;subst e;unfold sK at hu;simp at hu
   exact bodyPost_ret (v:=.agg #[.int .i64 3,.int .i64 st,.bool false,.slice o zs.length c2]) (by simp[results,results174,go_sem,k0,k1,k2,k3]) rfl (HP.out o zs c2 _ HZ.out (Y6 hf.out R0.out R1.out (sn _ _) (sn _ _) λk h1 h2=>by(repeat refine(Ot _ _ _ _ (by first|exact h1|exact h2)).trans ?_);exact rfl) (by repeat(first|exact hp.out|refine Below.setCell ?_ (by first|exact Uc _|(simp;done)|(simp;omega)) _|refine below_drewN ?_ _|refine Below.drew ?_)))
