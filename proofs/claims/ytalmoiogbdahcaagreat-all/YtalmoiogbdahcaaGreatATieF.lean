import Derived.Test.YtalmoiogbdahcaaGreatATieC0
import Derived.Deep.CutRange
open Go.Proofs.Tryz
namespace Go.Proofs.YtalmoiogbdahcaaGreat
set_option maxRecDepth 100000
set_option maxHeartbeats 8000000
open Go.RowKit
def af(ts:List (Nod×Nod))(x:Nod)(a b:BA):List Nod:=((qy ts (x.to a)).filter (·.isTh)).map (·.to b)
def uu(l:List Nod)(b:BA)(k:Nat):List Nod:=((l.take k).filter (·.isTh)).map (·.to b)
variable{b:BA}{k:Nat}{y:Nod}
theorem fS{l:List Nod}(hy:l[k]?=some y)(ht:y.isTh=true):uu l b (k+1)=uu l b k++[y.to b]:=by
 obtain⟨hk,e⟩:=OE.1 hy;unfold uu;rw[O8 hk,e,List.filter_append,OR];simp[ht]
theorem QP{l:List Nod}(hy:l[k]?=some y)(ht:y.isTh=false):uu l b (k+1)=uu l b k:=by
 obtain⟨hk,e⟩:=OE.1 hy;unfold uu;rw[O8 hk,e,List.filter_append,OR];simp[ht]
theorem J8(l:List Nod)(b:BA)(k:Nat):(uu l b k).length<=l.length:=by
 unfold uu;rw[OM];have h1:=List.length_filter_le (λy:Nod=>y.isTh) (l.take k);rw[OQ]at h1;omega
structure ThInv(U:List BA)(ts:List (Nod×Nod))(xs:List BA)(lo tb sb:Nat)(f:Nod->Option Value)(who:Nod->Nat)(L:TL)(S:TS)(w:World)(bx:List Value)(rv:Value)(l:List Nod)(S2:TS)(b:BA)(k:Nat)(nm:Value)(L3:TL)(S3:TS)(wr:World):Prop where
 ta:TA U ts xs lo tb sb f who L3 S3 wr
 st:RStep U lo tb f who L S w L3 S3 wr
 bxo:wr.heap[w.heap.size]?=some (.cells bx.toArray 106 (0,0))
 rvo:yz wr rv (l.map (cxN S2))
 rb: ∀g n c,rv=.slice (some ⟨g,0,none⟩) n c->g<w.heap.size/\ ∃cur,wr.heap[g]?=some (.cells cur 136 (0,0))
 le:S2.le S3
 nmo:wr.ownsRow (w.heap.size+1) 136 1 nm (uu l b k).length ((uu l b k).map (cxN S3))
 kn: ∀y∈uu l b k,Kn S3 y
variable{L L3:TL}{S S2 S3:TS}{U xs:List BA}{bx:List Value}{f:Nod->Option Value}{lo p q sb tb:Nat}{nm rv:Value}{ts:List (Nod×Nod)}{w w2 wr:World}{who:Nod->Nat}
theorem ThInv.next{l:List Nod}
  (h:ThInv U ts xs lo tb sb f who L S w bx rv l S2 b k nm L3 S3 wr) (hl:l.length<=50) (h8:sb<=w.heap.size)  (hy:l[k]?=some y) (ht:y.isTh=true) {L4:TL} {S4:TS}  (r:RStep U lo tb f who L3 S3 wr L4 S4 w2) (ky:Kn S4 (y.to b))  (h7:cxN S4 (y.to b)=.complex .f64 p q):
  ∃v' w3,(Builtin.append_ #[170,170] 170 #[nm,.slice (some ⟨w2.heap.size,0,none⟩) 1 1]).run prog (w2.alloc (.cells #[.complex .f64 p q] 136))=.ok v' w3/\(∃x c,v'=.slice x ((uu l b k).length+1) c)/\ThInv U ts xs lo tb sb f who L S w bx rv l S2 b (k+1) v' L4 S4 w3:=by
 have hb:w.heap.size+1<=wr.heap.size:=qc h.bxo;have ha:wr.heap.size<=w2.heap.size:=r.fr.size;have h0:w2.ownsRow (w.heap.size+1) 136 1 nm (uu l b k).length ((uu l b k).map (cxN S4)):=by
  rw[tD r.le h.kn];refine qF h.nmo λg hg=>?_;obtain⟨-,-,cur,q⟩:=qf h.nmo g hg;exact r.kind h.ta.t q (by decide) (by decide)
 have h9:=J8 l b k;obtain⟨v',w3,hr,o3,g3,n3⟩:=pr underlying170 Tryz.infoCx rfl (by decide) (by decide) w2 (w.heap.size+1) nm (uu l b k).length ((uu l b k).map (cxN S4)) [.complex .f64 p q] rfl (by intro u hu;simp at hu;rw[hu];rfl) h0 (by omega) (by omega)
 have h6:=h.ta.rstep r;have h1:Frm (λj=>nm.ownBlock=some j) w2 w3:=Frm.of_grown g3 (λj e=>e);have h4: ∀j,j<w2.heap.size->nm.ownBlock=some j->w.heap.size+1<=j/\ ∃cur,w2.heap[j]?=some (.cells cur 136 (0,0)):=λj _ e=>⟨(qf h0 j e).2.1,(qf h0 j e).2.2⟩;have h3:TA U ts xs lo tb sb f who L4 S4 w3:=h6.cxkeep h1 λj hj e=>⟨by have:=(h4 j hj e).1;omega,(h4 j hj e).2⟩
 have nb: ∀g,g<w.heap.size+1->nm.ownBlock≠some g:=λg hg e=>by have:=(qf h0 g e).2.1;omega
 refine⟨v',w3,hr,qz o3,h3,(h.st.trans r).after h3.t h1 (λj hj e=>nb j (by omega) e),?_,?_,?_,h.le.trans r.le,?_,?_⟩
 ·rw[h1.block _ (by omega) (nb _ (by omega)),r.kind h.ta.t h.bxo (by decide) (by decide)]
  exact h.bxo
 ·refine h.rvo.keep λg n c e _ hg=>?_
  obtain⟨h5,cur,h2⟩:=h.rb g n c e;rw[h1.block g (by omega) (nb g (by omega))]
  exact r.kind h.ta.t h2 (by decide) (by decide)
 ·intro g n c e
  obtain⟨h5,cur,h2⟩:=h.rb g n c e;refine⟨h5,cur,?_⟩;rw[h1.block g (by have:=qc h2;omega) (nb g (by omega)),r.kind h.ta.t h2 (by decide) (by decide)]
  exact h2
 ·rw[fS hy ht,OK,OR,List.map_cons,List.map_nil,h7]
  exact o3
 ·intro z hz
  rw[fS hy ht]at hz;rcases OS.1 hz with hz|hz
  ·exact(h.kn z hz).le r.le
  ·simp at hz;rw[hz];exact ky
theorem ThInv.skip{l:List Nod}
  (h:ThInv U ts xs lo tb sb f who L S w bx rv l S2 b k nm L3 S3 wr)  (hy:l[k]?=some y) (ht:y.isTh=false):ThInv U ts xs lo tb sb f who L S w bx rv l S2 b (k+1) nm L3 S3 wr:=
 ⟨h.ta,h.st,h.bxo,h.rvo,h.rb,h.le,by rw[QP hy ht];exact h.nmo,by rw[QP hy ht];exact h.kn⟩
variable{a:BA}{x:Nod}
theorem wV(h:TA U ts xs lo tb sb f who L S w)(kx:Kn S x)(ha:a∈U)(hb:b∈U)(is:Int)(y:Option Addr)(n c:Nat):
  Calls prog 229 #[.pointer (some ⟨tb,0,none⟩),cxN S x,.agg #[.int .i64 is,.string a,.string b,.slice y n c]] w λe w'=> ∃L' S' rv,e=.returned rv/\w'.ownsRow w.heap.size 136 1 rv (af ts x a b).length ((af ts x a b).map (cxN S'))/\(∀z∈af ts x a b,Kn S' z)/\RStep U lo tb f who L S w L' S' w':=by
 obtain⟨l,hl⟩: ∃l,qy ts (x.to a)=l:=⟨_,rfl⟩;have hA:l.length<=50:=by
  rw[←hl];have:=h.tn;unfold qy;rw[OM];exact Ue (List.length_filter_le _ _) this
 have HT:Hid (af ts x a b=uu l b l.length):=by
  show _=_
  unfold af uu;rw[hl,O7 (Uc _)]
 have c4:=qa h.t.blk (j:=4) rfl;have hs:=λo=>qa (qG h.t.blk o) (j:=4) rfl;have hG:tb<w.heap.size:=qc h.t.blk;have HB:Hid (∀w1,Below w.heap.size w w1->Calls prog 228 #[.pointer (some ⟨tb,0,none⟩),cxN S x,.string a] w1 λe w2=> ∃L2 S2 o cc,e=.returned (cxN S2 (x.to a))/\w2.cell? ⟨tb,4,none⟩=some (.map (some L.ms))/\(Instr.lookup 179 (.map (some L.ms)) (cxN S2 (x.to a)) false).run prog w2=.ok (.slice o l.length cc) w2/\((w1.heap[w.heap.size]?=some (.cells [Value.int .i64 is,.string a,.string b,.slice y n c].toArray 106 (0,0)))->ThInv U ts xs lo tb sb f who L S w [.int .i64 is,.string a,.string b,.slice y n c] (.slice o l.length cc) l S2 b 0 (.slice none 0 0) L2 S2 w2)/\ ∀z∈l,Kn S2 z):=by
  intro w1 h1;have t1:=h.below h1;refine(gN t1.t (x:=x) kx.1 ha (fb (xe S.rels x.r))).mono ?_;rintro e w2 ⟨L2,S2,he,k2,r2⟩;have t2:=t1.rstep r2;obtain⟨v,h3,h0,-,h8⟩:=t2.subs k2;rw[hl]at h0;obtain⟨o,cc,rfl,hc⟩:=h0;rw[OM]at h3;have hy:L2.ms=L.ms:=by rw[r2.loc]
  rw[hy]at h3;refine⟨L2,S2,o,cc,he,t2.t.cellN (by rw[r2.tie]) (j:=4) rfl,h3,λhm=>⟨t2,(RStep.below h.t h1).trans r2,?_,⟨o,cc,by rw[OM],hc⟩,?_,TS.le.refl _,?_,λz hz=>by simp[uu]at hz⟩,λz hz=>t2.s.known (by rw[hl];exact hz)⟩
  ·rw[r2.kind t1.t hm (by decide) (by decide)];exact hm
  ·intro g n' c' e
   obtain⟨q1,q2⟩:=h8 g n' c' (by rw[←e,OM])
   exact⟨Ug q1 h.sb,q2⟩
  ·have:uu l b 0=[]:=by simp[uu]
   rw[this];exact World.ownsRow_nil _ _ _ _
 have h6:=qn w [.int .i64 is,.string a,.string b,.slice y n c] 106;have HX:Hid (x.th∈S.ths):=kx.1;have hu:Hid (sb<=w.heap.size):=h.sb;rw[HT.out];generalize hcx:cxN S x=cx at *;clear h hcx kx HT hl;obtain⟨nn,h7⟩: ∃nn,l.length=nn:=⟨_,rfl⟩;have hi:Hid (l.length=nn):=h7;rw[h7]at hA HB ⊢;clear h7;go_enter func229,ntmps229;go_wp2
 go_cut [19,20,21]from 10 to 21 (λrv ln i wx=> ∃(o:Option Addr) (cc:Nat) (L2:TL) (S2:TS),rv=.slice o nn cc/\ln=.int .i64 nn/\i=.int .i64 0/\ThInv U ts xs lo tb sb f who L S w [.int .i64 is,.string a,.string b,.slice y n c] (.slice o nn cc) l S2 b 0 (.slice none 0 0) L2 S2 wx/\ ∀z∈l,Kn S2 z)
 case first=>
  go_region_with(go_at_call 228;refine(HB.out _ bl).mono ?_;rintro e w2 ⟨L2,S2,o,cc,rfl,d4,h3,hg,h2⟩;have hB:Hid (ThInv U ts xs lo tb sb f who L S w [.int .i64 is,.string a,.string b,.slice y n c] (.slice o nn cc) l S2 b 0 (.slice none 0 0) L2 S2 w2):=hg (by first|exact h6|(show(World.drewN _ _).heap[w.heap.size]?=_;exact h6)|(show(World.drew _).heap[w.heap.size]?=_;exact h6));have h9:Hid (∀z∈l,Kn S2 z):=h2;clear hg h2;generalize cxN S2 (x.to a)=cz at *)
  all_goals (go_wp2_with fail;go_meet)
  all_goals exact⟨o,cc,L2,S2,rfl,rfl,rfl,hB.out,h9.out⟩
 case rest=>
  obtain⟨o,cc,L2,S2,rfl,rfl,rfl,hI,h2⟩:=hcut;have ho:Hid (ThInv U ts xs lo tb sb f who L S w [.int .i64 is,.string a,.string b,.slice y n c] (.slice o nn cc) l S2 b 0 (.slice none 0 0) L2 S2 wc):=hI;have h9:Hid (∀z∈l,Kn S2 z):=h2;have hx:Hid (TS.Ok U S2):=hI.ta.t.ok;clear hI h2 HB c4 hs h6;go_wp2
  go_loopw [7,21] (λnm i wr=> ∃(k:Nat) (nm':Value) (L3:TL) (S3:TS),nm'=nm/\k<=nn/\i=.int .i64 k/\ThInv U ts xs lo tb sb f who L S w [.int .i64 is,.string a,.string b,.slice y n c] (.slice o nn cc) l S2 b k nm' L3 S3 wr) (λ_ i _=>nn-(intOf i).toNat)
  case atStart=>exact⟨0,_,L2,S2,rfl,Um _,rfl,ho.out⟩
  case round=>
   obtain⟨k,nm,L3,S3,rfl,hk,rfl,hI⟩:=hrel;have HI:Hid (ThInv U ts xs lo tb sb f who L S w [.int .i64 is,.string a,.string b,.slice y n c] (.slice o nn cc) l S2 b k nm L3 S3 wr):=hI;have b2:=qa hI.bxo (j:=2) rfl;clear hI ho;by_cases hlt:k<nn
   ·have hf:k<l.length:=by have:=hi.out;omega
    obtain⟨z,hz⟩: ∃z,l[k]?=some z:=⟨_,OC hf⟩;obtain⟨o',c',he,hc⟩:=HI.out.rvo;obtain⟨g,hn,hd⟩:=hc k (cxN S2 z) (by rw[OF,hz];rfl)
    have hD:o=some ⟨g,0,none⟩:=by injection he with he;rw[he];exact hn
    subst hD;have kz:Kn S2 z:=h9.out z (OZ hz);have HZ:Hid (l[k]?=some z):=hz;have h5:=λw1=>dS (S:=S2) (U:=U) hx.out kz w1;have hj:Hid (∀w1,Below wr.heap.size wr w1->Calls prog 228 #[.pointer (some ⟨tb,0,none⟩),cxN S2 z,.string b] w1 λe w2=> ∃L4 S4 p q,e=.returned (.complex .f64 p q)/\cxN S4 (z.to b)=.complex .f64 p q/\Kn S4 (z.to b)/\RStep U lo tb f who L3 S3 wr L4 S4 w2):=by
     intro w1 h1;have ht:=kz.le HI.out.le;have:=gN (HI.out.ta.below h1).t (x:=z) ht.1 hb (fb (xe S3.rels z.r));rw[←yI HI.out.le kz];refine this.mono ?_;rintro e w2 ⟨L4,S4,he,k4,r4⟩;exact⟨L4,S4,_,_,he,rfl,k4,(RStep.below HI.out.ta.t h1).trans r4⟩
    clear he hc hn hz hf kz;cases hzt:z.isTh
    ·rw[hzt]at h5
     have hE:=HI.out.skip HZ.out hzt;clear hj hzt;generalize cxN S2 z=cz at *
     go_wp2_with(go_at_call 181;refine(h5 _).mono ?_;rintro e w1 ⟨rfl,hq⟩;subst w1)
     go_roundw
     case rel=>exact⟨k+1,nm,L3,S3,rfl,by omega,by go_num,hE⟩
     case measure=>simp[intOf];omega
    ·rw[hzt]at h5
     have hr:Hid (∀(L4:TL) (S4:TS) (w2:World) (p q:Nat),RStep U lo tb f who L3 S3 wr L4 S4 w2->Kn S4 (z.to b)->cxN S4 (z.to b)=.complex .f64 p q-> ∃v' w3,(Builtin.append_ #[170,170] 170 #[nm,.slice (some ⟨w2.heap.size,0,none⟩) 1 1]).run prog (w2.alloc (.cells #[.complex .f64 p q] 136))=.ok v' w3/\(∃x c,v'=.slice x ((uu l b k).length+1) c)/\ThInv U ts xs lo tb sb f who L S w [.int .i64 is,.string a,.string b,.slice y n c] (.slice (some ⟨g,0,none⟩) nn cc) l S2 b (k+1) v' L4 S4 w3):=by
      intro L4 S4 w2 p q r kk h4;exact HI.out.next (by have:=hi.out;omega) hu.out HZ.out hzt r kk h4
     obtain⟨nx,nc,hv⟩:=qz HI.out.nmo;generalize (uu l b k).length=m at *;subst hv;clear hzt;generalize cxN S2 z=cz at *
     go_wp2_with(first|(go_at_call 181;refine(h5 _).mono ?_;rintro e w1 ⟨rfl,hq⟩;subst w1)|(go_at_call 228;refine(hj.out _ (Ou _ _)).mono ?_;rintro e w2 ⟨L4,S4,p,q,rfl,h4,kk4,r4⟩;obtain⟨v',w3,hC,⟨vx,vc,rfl⟩,hp⟩:=hr.out L4 S4 w2 p q r4 kk4 h4;have hF:Hid (ThInv U ts xs lo tb sb f who L S w [.int .i64 is,.string a,.string b,.slice y n c] (.slice (some ⟨g,0,none⟩) nn cc) l S2 b (k+1) (.slice vx (m+1) vc) L4 S4 w3):=hp;clear hp r4 kk4 h4)|(at_builtin;refine qo rfl (.tmp 27) (.tmp 33) 170 rfl _ _ _ rfl rfl hC ?_))
     go_roundw
     case rel=>exact⟨k+1,_,L4,S4,rfl,by omega,by go_num,hF.out⟩
     case measure=>simp[intOf];omega
   ·obtain rfl:k=nn:=by omega
    go_wp2;go_ret;have:=HI.out;refine⟨L3,S3,nm,rfl,?_,?_,this.st⟩
    ·exact xM this.nmo (Ud _)
    ·exact this.kn
def uQ(U:List BA)(lo tb:Nat)(f:Nod->Option Value)(who:Nod->Nat)(L:TL)(S:TS)(w:World)(l:List Nod)(e:Ending)(w':World):Prop:=
 ∃L' S' o c,e=.returned (.slice o l.length c)/\yz w' (.slice o l.length c) (l.map (cxN S'))/\(l=[]->o=none/\c=0\/ ∃g,o=some ⟨g,0,none⟩)/\(∀y∈l,Kn S' y)/\RStep U lo tb f who L S w L' S' w'
def ag(U:List BA)(ts:List (Nod×Nod))(xs:List BA)(lo tb sb:Nat)(f:Nod->Option Value)(who:Nod->Nat)(t:WayT):Prop:=
 ∀(L:TL) (S:TS) (w:World) (x:Nod) (v:Value),TA U ts xs lo tb sb f who L S w->WayAt w (λ_=>True) t v->(∀r∈xH t,r∈U)->lvW t<=201->Kn S x->
  Calls prog 215 #[.pointer (some ⟨tb,0,none⟩),cxN S x,v] w (uQ U lo tb f who L S w (qY ts x t))
theorem Z9(h:TA U ts xs lo tb sb f who L S w)(kx:Kn S x)(a b:BA)(y:Option Addr)(n c:Nat):
  Calls prog 215 #[.pointer (some ⟨tb,0,none⟩),cxN S x,.agg #[.int .i64 0,.string a,.string b,.slice y n c]] w (uQ U lo tb f who L S w (qy ts x)):=by
 have h5:=λo=>qa (qG h.t.blk o) (j:=4) rfl;have h4:tb<w.heap.size:=qc h.t.blk;obtain⟨v,h3,h1,h0,h2⟩:=(h.below (w':=w.alloc (.cells #[.int .i64 0,.string a,.string b,.slice y n c] 106)) bl).subs kx;obtain⟨o,cc,rfl,hc⟩:=h1;rw[OM]at h3 h0;have HP:Hid (uQ U lo tb f who L S w (qy ts x) (.returned (.slice o (qy ts x).length cc)) (w.alloc (.cells #[.int .i64 0,.string a,.string b,.slice y n c] 106))):=by
  refine⟨L,S,o,cc,rfl,⟨o,cc,by rw[OM],hc⟩,λe=>?_,λz hz=>h.s.known hz,RStep.below h.t bl⟩
  rcases h0 e with e1|⟨g,c',e1⟩
  ·injection e1 with e1 _ e2;exact Or.inl ⟨e1,e2⟩
  ·injection e1 with e1;exact Or.inr ⟨g,e1⟩
 generalize uQ U lo tb f who L S w (qy ts x)=post at *;generalize (qy ts x).length=m at *;generalize cxN S x=cx at *;clear h h0 h2 hc kx;go_enter func215,ntmps215;go_wp2;exact HP.out
theorem Xa(h:TA U ts xs lo tb sb f who L S w)(kx:Kn S x)(a b:BA)(hb:b∈U)(y:Option Addr)(n c:Nat):
  Calls prog 215 #[.pointer (some ⟨tb,0,none⟩),cxN S x,.agg #[.int .i64 1,.string a,.string b,.slice y n c]] w (uQ U lo tb f who L S w [x.to b]):=by
 have h1:Hid (∀w1,Below w.heap.size w w1->Calls prog 228 #[.pointer (some ⟨tb,0,none⟩),cxN S x,.string b] w1 λe w2=> ∃p q,e=.returned (.complex .f64 p q)/\uQ U lo tb f who L S w [x.to b] (.returned (.slice (some ⟨w2.heap.size,0,none⟩) 1 1)) (w2.alloc (.cells #[.complex .f64 p q] 136))):=by
  intro w1 h0;refine(gN (h.below h0).t (x:=x) kx.1 hb (fb (xe S.rels x.r))).mono ?_;rintro e w2 ⟨L4,S4,he,k4,r4⟩;refine⟨_,_,he,L4,S4,_,1,rfl,⟨_,1,rfl,λj u hj=>⟨_,rfl,?_⟩⟩,(λe=>by cases e),(λz hz=>by simp at hz;rw[hz];exact k4),?_⟩
  ·have hn:=qn w2 [cxN S4 (x.to b)] 136
   exact qa hn (by simpa using hj)
  ·exact((RStep.below h.t h0).trans r4).trans (RStep.below r4.at' bl)
 generalize uQ U lo tb f who L S w [x.to b]=post at *;generalize cxN S x=cx at *;clear h kx;go_enter func215,ntmps215
 go_wp2_with(go_at_call 228;refine(h1.out _ bl).mono ?_;rintro e w2 ⟨p,q,rfl,hp⟩)
 exact hp
theorem nD(h:TA U ts xs lo tb sb f who L S w)(kx:Kn S x)(a b:BA)(ha:a∈U)(hb:b∈U)(y:Option Addr)(n c:Nat):
  Calls prog 215 #[.pointer (some ⟨tb,0,none⟩),cxN S x,.agg #[.int .i64 2,.string a,.string b,.slice y n c]] w (uQ U lo tb f who L S w (af ts x a b)):=by
 have h1:Hid (∀w1,Below w.heap.size w w1->Calls prog 229 #[.pointer (some ⟨tb,0,none⟩),cxN S x,.agg #[.int .i64 2,.string a,.string b,.slice y n c]] w1 λe w2=> ∃o m cc,e=.returned (.slice o m cc)/\uQ U lo tb f who L S w (af ts x a b) (.returned (.slice o m cc)) w2):=by
  intro w1 h0;refine(wV (h.below h0) kx ha hb 2 y n c).mono ?_;rintro e w2 ⟨L',S',rv,he,ho,hk,r⟩;obtain⟨o,cc,rfl⟩:=qz ho;refine⟨o,_,cc,he,L',S',o,cc,rfl,vw (by rw[OM];exact ho),λe=>?_,hk,(RStep.below h.t h0).trans r⟩
  rcases ho.2 with⟨e1,-⟩|⟨g,cap,cur,e1,-⟩
  ·injection e1 with e1 _ e2;exact Or.inl ⟨e1,e2⟩
  ·injection e1 with e1;exact Or.inr ⟨g,e1⟩
 generalize uQ U lo tb f who L S w (af ts x a b)=post at *;generalize cxN S x=cx at *;clear h kx;go_enter func215,ntmps215
 go_wp2_with(go_at_call 229;refine(h1.out _ bl).mono ?_;rintro e w2 ⟨o,m,cc,rfl,hp⟩)
 exact hp
theorem mn: ∀(l:List WayT) (k:Nat) (t:WayT),l[k]?=some t->qO ts x (l.take (k+1))=qO ts x (l.take k)++qY ts x t:=by
 intro l
 induction l with
 |nil=>intro k t h;simp at h
 |cons a l ih=>
  intro k t h;cases k with
  |zero=>simp at h;subst h;simp[qO]
  |succ k=>
   rw[List.take_succ_cons,List.take_succ_cons,qO,qO,ih k t (by simpa using h),Ov]
variable{l:List WayT}{t:WayT}
theorem aN(h:t∈l):lvW t<=lvL l:=by
 induction l with
 |nil=>cases h
 |cons a l ih=>
  rw[lvL];rcases OT.1 h with rfl|h
  ·omega
  ·have:=ih h;omega
theorem J9(l:List WayT)(k:Nat):lvL (l.take k)<=lvL l:=by
 induction l generalizing k with
 |nil=>simp
 |cons a l ih=>
  cases k with
  |zero=>simp[lvL]
  |succ k=>rw[List.take_succ_cons,lvL,lvL];have:=ih k;omega
theorem ah(h:t∈l){r:BA}(hr:r∈xH t):r∈yp l:=by
 induction l with
 |nil=>cases h
 |cons a l ih=>
  rw[yp];rcases OT.1 h with rfl|h
  ·exact List.mem_append_left _ hr
  ·exact List.mem_append_right _ (ih h)
variable{is:Int}
theorem WayAt.parts{In:Nat->Prop}{ts:List WayT}{v:Value}(h:WayAt w In (.mk is a b ts) v):
  ∃o c,v=.agg #[.int .i64 is,.string a,.string b,.slice o ts.length c]/\ ∀(k:Nat) (t:WayT),ts[k]?=some t-> ∃g pi pa pb po pn pc,o=some ⟨g,0,none⟩/\WayAt w In t (.agg #[.int .i64 pi,.string pa,.string pb,.slice po pn pc])/\
   w.cell? ⟨g,k * 4,none⟩=some (.int .i64 pi)/\w.cell? ⟨g,k * 4+1,none⟩=some (.string pa)/\w.cell? ⟨g,k * 4+2,none⟩=some (.string pb)/\w.cell? ⟨g,k * 4+3,none⟩=some (.slice po pn pc)/\ts.length<=1000:=by
 cases h with
 |leaf _ _ _=>exact⟨none,0,rfl,λk t h=>by simp at h⟩
 |node _ _ vs g cap cur h1 h2 h3 h4 h5 h6=>
  refine⟨_,cap,rfl,λk t hk=>?_⟩;have hd:=(OE.1 hk).1;obtain⟨v,hv⟩: ∃v,vs[k]?=some v:=⟨_,OC (by omega)⟩
  have hw:=h6 k t v hk hv;obtain⟨pi,pa,pb,po,pn,pc,rfl⟩:=hw.agg;have key: ∀(l:List Value) (k:Nat),(∀u∈l,(fl u).length=4)->l[k]?=some (.agg #[.int .i64 pi,.string pa,.string pb,.slice po pn pc])-> ∀j u,[Value.int .i64 pi,.string pa,.string pb,.slice po pn pc][j]?=some u->(l.flatMap fl)[k * 4+j]?=some u:=by
   intro l
   induction l with
   |nil=>intro k _ h;simp at h
   |cons z l ih=>
    intro k hl h j u hj;rw[List.flatMap_cons];cases k with
    |zero=>
     simp at h;subst h;have ha:=(OE.1 hj).1;rw[Oz (by simp[fl]at ha ⊢;omega),Nat.zero_mul,Ul]
     exact hj
    |succ k=>
     have hz:=hl z (by simp)
     rw[OA (by omega),hz,show(k+1) * 4+j-4=k * 4+j by omega]
     exact ih k (λu hu=>hl u (by simp[hu])) (by simpa using h) j u hj
  have h8: ∀u∈vs,(fl u).length=4:=by
   intro u hu;obtain⟨i,hi⟩:=OX.1 hu;have hc:=(OE.1 hi).1;obtain⟨t',h9⟩: ∃t',ts[i]?=some t':=⟨_,OC (by omega)⟩
   obtain⟨_,_,_,_,_,_,rfl⟩:=(h6 i t' u h9 hi).agg
   rfl
  have h0: ∀j u,[Value.int .i64 pi,.string pa,.string pb,.slice po pn pc][j]?=some u->w.cell? ⟨g,k * 4+j,none⟩=some u:=by
   intro j u hj;have h7:=key vs k h8 hv j u hj;rw[←h5]at h7;have hb:k * 4+j<ts.length * 4:=by
    have:=(OE.1 h7).1;rw[OQ]at this;omega
   rw[OJ hb]at h7;exact qa (cs:=cur.toList) (t:=106) (fz:=(0,0)) (by simpa using h2) h7
  exact⟨g,pi,pa,pb,po,pn,pc,rfl,hw,h0 0 _ rfl,h0 1 _ rfl,h0 2 _ rfl,h0 3 _ rfl,h4⟩
structure NmInv(U:List BA)(ts:List (Nod×Nod))(xs:List BA)(lo tb sb:Nat)(f:Nod->Option Value)(who:Nod->Nat)(L:TL)(S:TS)(w:World)(wt:WayT)(wv:Value)(x:Nod)(l:List WayT)(k:Nat)(nm:Value)(L3:TL)(S3:TS)(wr:World):Prop where
 ta:TA U ts xs lo tb sb f who L3 S3 wr
 st:RStep U lo tb f who L S w L3 S3 wr
 wy:WayAt wr (λ_=>True) wt wv
 nmo:wr.ownsRow w.heap.size 136 1 nm (qO ts x (l.take k)).length ((qO ts x (l.take k)).map (cxN S3))
 kn: ∀y∈qO ts x (l.take k),Kn S3 y
theorem NmInv.next{wt:WayT}{wv:Value}
  (h:NmInv U ts xs lo tb sb f who L S w wt wv x l k nm L3 S3 wr) (hk:lvL l<=201) (hm:sb<=w.heap.size)  (ht:l[k]?=some t) {w1:World} (hb:Below wr.heap.size wr w1) {e:Ending}  (hp:uQ U lo tb f who L3 S3 w1 (qY ts x t) e w2):
  ∃o c,e=.returned (.slice o (qY ts x t).length c)/\ ∃v' w3,(Builtin.append_ #[170,170] 170 #[nm,.slice o (qY ts x t).length c]).run prog w2=.ok v' w3/\(∃a m b,v'=.slice a m b)/\ ∃L4 S4,NmInv U ts xs lo tb sb f who L S w wt wv x l (k+1) v' L4 S4 w3:=by
 obtain⟨L4,S4,o,c,he,h5,h7,hi,r4⟩:=hp;have r:=(RStep.below h.ta.t hb).trans r4;have hn:wr.heap.size<=w2.heap.size:=r.fr.size;have hl:w.heap.size<=wr.heap.size:=h.st.fr.size;have h0:w2.ownsRow w.heap.size 136 1 nm (qO ts x (l.take k)).length ((qO ts x (l.take k)).map (cxN S4)):=by
  rw[tD r.le h.kn];refine qF h.nmo λg hg=>?_;obtain⟨-,-,cur,q⟩:=qf h.nmo g hg;exact r.kind h.ta.t q (by decide) (by decide)
 have hd:(qO ts x (l.take k)).length<=10251:=by
  have h1:=gW ts x (l.take k);have h2:=J9 l k;have h3:=h.ta.tn;have:lvL (l.take k) * (ts.length+1)<=201 * 51:=Nat.mul_le_mul (by omega) (by omega)
  omega
 have ha:(qY ts x t).length<=10251:=by
  have h1:=vD ts x t;have h2:=aN (OZ ht);have h3:=h.ta.tn;have:lvW t * (ts.length+1)<=201 * 51:=Nat.mul_le_mul (by omega) (by omega)
  omega
 have h4:w2.ownsRow w.heap.size 136 1 nm ((qO ts x (l.take k)).map (cxN S4)).length ((qO ts x (l.take k)).map (cxN S4)):=by rw[OM];exact h0
 obtain⟨v',w3,hr,o3,g3,n3⟩:=G2 w2 w.heap.size nm (.slice o (qY ts x t).length c) ((qO ts x (l.take k)).map (cxN S4)) ((qY ts x t).map (cxN S4)) h4 h5 (Gv _ _) (by omega) (by rw[OM,OM];omega) (λe=>by
  have e2:qY ts x t=[]:=by simpa using e
  rcases h7 e2 with⟨h1,h2⟩|⟨g,h1⟩
  ·left;rw[e2,h1,h2];rfl
  ·right;exact⟨g,c,by rw[e2,h1];rfl⟩)
 have hf:=h.ta.rstep r;have h8:Frm (λj=>nm.ownBlock=some j) w2 w3:=Frm.of_grown g3 (λj e=>e);have h6: ∀j,j<w2.heap.size->nm.ownBlock=some j->w.heap.size<=j/\ ∃cur,w2.heap[j]?=some (.cells cur 136 (0,0)):=λj _ e=>⟨(qf h0 j e).2.1,(qf h0 j e).2.2⟩;have h9:TA U ts xs lo tb sb f who L4 S4 w3:=hf.cxkeep h8 λj hj e=>⟨by have:=(h6 j hj e).1;omega,(h6 j hj e).2⟩
 refine⟨o,c,he,v',w3,hr,?_,L4,S4,h9,(h.st.trans r).after h9.t h8 (λj hj e=>by have:=(qf h0 j e).2.1;omega),?_,?_,?_⟩
 ·obtain⟨a,b,e⟩:=qz o3;exact⟨a,_,b,e⟩
 ·refine(h.wy.rstep h.ta.t r).move2 λg cur hg hc=>⟨hg,h8.block g (qc hc) λe=>?_⟩
  obtain⟨-,cur',hq⟩:=h6 g (qc hc) e;rw[hc]at hq;injection hq with hq;injection hq with _ hq;revert hq;decide
 ·rw[mn l k t ht,OK,OR]
  rw[OK,OM,OM]at o3;exact o3
 ·intro z hz
  rw[mn l k t ht]at hz;rcases OS.1 hz with hz|hz
  ·exact(h.kn z hz).le r.le
  ·exact hi z hz
theorem wW(h3:zV is=false)(HC:Hid (∀t∈l,ag U ts xs lo tb sb f who t)):ag U ts xs lo tb sb f who (.mk is a b l):=by
 intro L S w x v h hv hrel h6 kx;rw[xH,if_neg (by rw[h3];decide)]at hrel
 rw[lvW,if_neg (by rw[h3];decide)]at h6
 rw[qY,if_neg (by rw[h3];decide)]
 have h0:(is==0)=false:=by unfold zV at h3;simp at h3 ⊢;omega
 have h1:(is==1)=false:=by unfold zV at h3;simp at h3 ⊢;omega
 have h2:(is==2)=false:=by unfold zV at h3;simp at h3 ⊢;omega
 obtain⟨o,c,rfl,-⟩:=hv.parts;have h9:Hid (∀w1,Below w.heap.size w w1->NmInv U ts xs lo tb sb f who L S w (.mk is a b l) (.agg #[.int .i64 is,.string a,.string b,.slice o l.length c]) x l 0 (.slice none 0 0) L S w1):=by
  intro w1 h4;refine⟨h.below h4,RStep.below h.t h4,hv.move2 λg _ hg hc=>⟨hg,h4.block g (qc hc)⟩,?_,λy hy=>by simp[qO]at hy⟩
  have:qO ts x (l.take 0)=[]:=by simp[qO]
  rw[this];exact World.ownsRow_nil _ _ _ _
 have hs:Hid (sb<=w.heap.size):=h.sb;have hi:Hid (Kn S x):=kx;have HR:Hid (∀r∈yp l,r∈U):=hrel;have hn:Hid (lvL l<=201):=h6;have hB:l.length<=1000:=by
  rcases Nat.eq_zero_or_pos l.length with e|e
  ·omega
  ·obtain⟨o',c',e1,hp⟩:=hv.parts
   obtain⟨g,pi,pa,pb,po,pn,pc,-,-,-,-,-,-,hz⟩:=hp 0 l[0] (OC e);exact hz
 obtain⟨cx,h8⟩: ∃cx,cxN S x=cx:=⟨_,rfl⟩;have hC:Hid (cxN S x=cx):=h8;rw[h8];obtain⟨nn,h7⟩: ∃nn,l.length=nn:=⟨_,rfl⟩;have hd:Hid (l.length=nn):=h7;rw[h7]at h9 hB ⊢;clear h hv hrel h6 kx h8 h7 h3;go_enter func215,ntmps215;go_wp2
 go_loopw [7,37] (λnm i wr=> ∃(k:Nat) (nm':Value) (L3:TL) (S3:TS),nm'=nm/\k<=nn/\i=.int .i64 k/\NmInv U ts xs lo tb sb f who L S w (.mk is a b l) (.agg #[.int .i64 is,.string a,.string b,.slice o nn c]) x l k nm' L3 S3 wr) (λ_ i _=>nn-(intOf i).toNat)
 case atStart=>exact⟨0,_,L,S,rfl,Um _,rfl,h9.out _ bl⟩
 case round=>
  obtain⟨k,nm,L3,S3,rfl,hk,rfl,hI⟩:=hrel;have HI:Hid (NmInv U ts xs lo tb sb f who L S w (.mk is a b l) (.agg #[.int .i64 is,.string a,.string b,.slice o nn c]) x l k nm L3 S3 wr):=hI;clear hI h9;by_cases hlt:k<nn
  ·have hb:k<l.length:=by have:=hd.out;omega
   obtain⟨t,ht⟩: ∃t,l[k]?=some t:=⟨_,OC hb⟩;obtain⟨o',c',he,hp⟩:=HI.out.wy.parts;obtain⟨g,pi,pa,pb,po,pn,pc,ho,hf,p0,p1,p2,p3,-⟩:=hp k t ht;have hE:o=some ⟨g,0,none⟩:=by
    simp only[Value.agg.injEq,Array.mk.injEq,List.cons.injEq,Value.slice.injEq]at he;rw[he.2.2.2.1.1];exact ho
   subst hE;have hm:=OZ ht;have hj:Hid (∀w1,Below wr.heap.size wr w1->Calls prog 215 #[.pointer (some ⟨tb,0,none⟩),cx,.agg #[.int .i64 pi,.string pa,.string pb,.slice po pn pc]] w1 λe w2=> ∃o c,e=.returned (.slice o (qY ts x t).length c)/\ ∃v' w3,(Builtin.append_ #[170,170] 170 #[nm,.slice o (qY ts x t).length c]).run prog w2=.ok v' w3/\(∃a m b,v'=.slice a m b)/\ ∃L4 S4,NmInv U ts xs lo tb sb f who L S w (.mk is a b l) (.agg #[.int .i64 is,.string a,.string b,.slice (some ⟨g,0,none⟩) nn c']) x l (k+1) v' L4 S4 w3):=by
    intro w1 h4;have hu:=hi.out.le HI.out.st.le;have:=HC.out t hm L3 S3 w1 x _ (HI.out.ta.below h4) (hf.move2 λg _ hg hc=>⟨hg,h4.block g (qc hc)⟩) (λr hr=>HR.out r (ah hm hr)) (by have:=aN hm;have:=hn.out;omega) hu
    rw[yI HI.out.st.le hi.out,hC.out]at this;refine this.mono ?_;intro e w2 hD;have hl:=HI.out;have ec:c=c':=by
     simp only[Value.agg.injEq,Array.mk.injEq,List.cons.injEq,Value.slice.injEq]at he;exact he.2.2.2.1.2.2
    rw[ec]at hl;exact hl.next hn.out hs.out ht h4 hD
   have ec:c=c':=by
    simp only[Value.agg.injEq,Array.mk.injEq,List.cons.injEq,Value.slice.injEq]at he;exact he.2.2.2.1.2.2
   rw[←ec]at hj;obtain⟨nx,nc,hx⟩:=qz HI.out.nmo;generalize (qO ts x (l.take k)).length=mm at *;subst hx;generalize (qY ts x t).length=m at *;clear he hp ho hf hm ec ht hb
   go_wp2_with(first|(go_at_call 215;refine(hj.out _ bl).mono ?_;rintro e w2 ⟨o2,c2,rfl,v',w3,hA,⟨va,vm,vb,rfl⟩,L4,S4,hq⟩;have hF:Hid (NmInv U ts xs lo tb sb f who L S w (.mk is a b l) (.agg #[.int .i64 is,.string a,.string b,.slice (some ⟨g,0,none⟩) nn c]) x l (k+1) (.slice va vm vb) L4 S4 w3):=hq;clear hq)|(at_builtin;refine qo rfl (.tmp 41) (.tmp 45) 170 rfl _ _ _ rfl rfl hA ?_))
   go_roundw
   case rel=>exact⟨k+1,_,L4,S4,rfl,by omega,by go_num,hF.out⟩
   case measure=>simp[intOf];omega
  ·obtain rfl:k=nn:=by omega
   have hI:=HI.out;have e:l.take k=l:=O7 (by have:=hd.out;omega)
   have h5:=hI.nmo;have ha:=hI.kn;rw[e]at h5 ha;obtain⟨nx,nc,rfl⟩:=qz h5;have HP:Hid (uQ U lo tb f who L S w (qO ts x l) (.returned (.slice nx (qO ts x l).length nc)) wr):=by
    refine⟨L3,S3,nx,nc,rfl,vw (by rw[OM];exact h5),λ_=>?_,ha,hI.st⟩
    rcases h5.2 with⟨e1,-⟩|⟨g,cap,cur,e1,-⟩
    ·injection e1 with e1 _ e2;exact Or.inl ⟨e1,e2⟩
    ·injection e1 with e1;exact Or.inr ⟨g,e1⟩
   clear h5 ha hI e;go_wp2;go_ret;exact HP.out
theorem Xb(h0:zV is=true):ag U ts xs lo tb sb f who (.mk is a b l):=by
 intro L S w x v h hv hrel h1 kx;rw[xH,if_pos h0]at hrel;rw[qY,if_pos h0];obtain⟨o,c,rfl,-⟩:=hv.parts;unfold vr;have hc:is=0\/is=1\/is=2:=by unfold zV at h0;simp at h0;omega
 rcases hc with rfl|rfl|rfl
 ·rw[if_pos rfl];exact Z9 h kx a b o _ c
 ·rw[if_neg (by decide),if_pos rfl];exact Xa h kx a b (hrel b (by simp)) o _ c
 ·rw[if_neg (by decide),if_neg (by decide)];exact nD h kx a b (hrel a (by simp)) (hrel b (by simp)) o _ c
mutual
theorem ai{U:List BA}{ts:List (Nod×Nod)}{xs:List BA}{lo tb sb:Nat}{f:Nod->Option Value}{who:Nod->Nat}:(t:WayT)->ag U ts xs lo tb sb f who t
 | .mk is a b l=>by
  by_cases h:zV is=true
  ·exact Xb h
  ·exact wW (by simpa using h) (lT l)
theorem lT{U:List BA}{ts:List (Nod×Nod)}{xs:List BA}{lo tb sb:Nat}{f:Nod->Option Value}{who:Nod->Nat}:(l:List WayT)-> ∀t∈l,ag U ts xs lo tb sb f who t
 | [],_,h=>by cases h
 |a::l,t,h=>by
  rcases OT.1 h with e|h
  ·rw[e];exact ai a
  ·exact lT l t h
end
def xh:Prop:= ∀{U:List BA} {w:World} {lo tb:Nat} {L:TL} {S:TS} {f:Nod->Option Value} {who:Nod->Nat} {xs:List BA},TiesAt U w lo tb L S f who->zp w L.mb xs-> ∀{x:Nod},Kn S x->x.k.size<=maxLen->x.r.size<=maxLen->
  Calls prog 204 #[.pointer (some ⟨tb,0,none⟩),cxN S x] w λe w'=> ∃is a b y n c,e=.returned (.agg #[.int .i64 is,.string a,.string b,.slice y n c])/\WayAt w' (λ_=>True) (qi xs x) (.agg #[.int .i64 is,.string a,.string b,.slice y n c])/\Below w.heap.size w w'
variable{α:Type}
theorem YD(enc:α->Value): ∀(vs:List α) (n:Nat) (a:α),a∈vs-> ∃p∈vO enc n vs,p.1=enc a:=by
 intro vs
 induction vs with
 |nil=>intro n a h;cases h
 |cons b l ih=>
  intro n a h;rw[vO];rcases OT.1 h with rfl|h
  ·exact⟨(enc a,.int .i64 n),OV,rfl⟩
  ·obtain⟨p,hp,e⟩:=ih (n+1) a h
   exact⟨p,by simp[hp],e⟩
theorem TiesAt.okx(h:TiesAt U w lo tb L S f who)(kx:Kn S x):x.k.size<=maxLen/\x.r.size<=maxLen:=by
 refine⟨?_,h.ok.Us _ (h.ok.rU _ kx.2)⟩;obtain⟨es,c,h1,h2,h3,h4⟩:=h.th.map;obtain⟨p,hp,e⟩:=YD ndV S.ths 0 x.th kx.1;obtain⟨y,e2,o1,-⟩:=h3 p hp;rw[e]at e2;have:=Qy e2;rw[←this]at o1;exact o1
structure Cov(U xs:List BA):Prop where
 rel: ∀x,∀r∈xH (qi xs x),r∈U
 lv: ∀x,lvW (qi xs x)<=201
def yA(l:List Nod)(k:Nat):List Nod:=(l.take k).filter λy=> !y.isTh
theorem Ka{l:List Nod}(hy:l[k]?=some y)(ht:y.isTh=false):yA l (k+1)=yA l k++[y]:=by
 obtain⟨hk,e⟩:=OE.1 hy;unfold yA;rw[O8 hk,e,List.filter_append];simp[ht]
theorem Gw{l:List Nod}(hy:l[k]?=some y)(ht:y.isTh=true):yA l (k+1)=yA l k:=by
 obtain⟨hk,e⟩:=OE.1 hy;unfold yA;rw[O8 hk,e,List.filter_append];simp[ht]
theorem Kb(l:List Nod)(k:Nat):(yA l k).length<=l.length:=by
 unfold yA;have h1:=List.length_filter_le (λy:Nod=> !y.isTh) (l.take k);rw[OQ]at h1;omega
def lU(U:List BA)(lo tb:Nat)(f:Nod->Option Value)(who:Nod->Nat)(L:TL)(S:TS)(w:World)(l:List Nod)(e:Ending)(w':World):Prop:=
 ∃L' S' v,e=.returned v/\w'.ownsRow w.heap.size 136 1 v l.length (l.map (cxN S'))/\(∀y∈l,Kn S' y)/\RStep U lo tb f who L S w L' S' w'
theorem Kc{l:List Nod}(hl:l.length<=10251)(h0:wr.ownsRow w2.heap.size 136 1 nm (yA l k).length ((yA l k).map (cxN S2)))(hb:Below w2.heap.size w2 wr)(hy:l[k]?=some y)(ht:y.isTh=false)(h1:cxN S2 y=.complex .f64 p q):
  ∃v' w3,(Builtin.append_ #[170,170] 170 #[nm,.slice (some ⟨wr.heap.size,0,none⟩) 1 1]).run prog (wr.alloc (.cells #[.complex .f64 p q] 136))=.ok v' w3/\(∃x c,v'=.slice x ((yA l k).length+1) c)/\w3.ownsRow w2.heap.size 136 1 v' (yA l (k+1)).length ((yA l (k+1)).map (cxN S2))/\Below w2.heap.size w2 w3:=by
 have h2:=Kb l k;obtain⟨v',w3,hr,o3,g3,n3⟩:=pr underlying170 Tryz.infoCx rfl (by decide) (by decide) wr w2.heap.size nm (yA l k).length ((yA l k).map (cxN S2)) [.complex .f64 p q] rfl (by intro u hu;simp at hu;rw[hu];rfl) h0 hb.size (by omega)
 refine⟨v',w3,hr,qz o3,?_,hb.grown g3 hb.size (λj hj=>(qf h0 j hj).2.1)⟩;rw[Ka hy ht,OK,OR,List.map_cons,List.map_nil,h1];exact o3
theorem tF(HW:Hid xh)(cov:Cov U xs)(h:TA U ts xs lo tb sb f who L S w)(kx:Kn S x):
  Calls prog 182 #[.pointer (some ⟨tb,0,none⟩),cxN S x] w (lU U lo tb f who L S w (qI ts (qi xs) x)):=by
 have hC:Hid (Calls prog 204 #[.pointer (some ⟨tb,0,none⟩),cxN S x] w λe w'=> ∃is a b y n c,e=.returned (.agg #[.int .i64 is,.string a,.string b,.slice y n c])/\WayAt w' (λ_=>True) (qi xs x) (.agg #[.int .i64 is,.string a,.string b,.slice y n c])/\Below w.heap.size w w'):=HW.out h.t h.r kx (h.t.okx kx).1 (h.t.okx kx).2;obtain⟨l,hl⟩: ∃l,qY ts x (qi xs x)=l:=⟨_,rfl⟩;have hE:l.length<=10251:=by
  rw[←hl];have h1:=vD ts x (qi xs x);have h3:=h.tn;have:lvW (qi xs x) * (ts.length+1)<=201 * 51:=Nat.mul_le_mul (cov.lv x) (by omega)
  omega
 have hG:Hid (∀w1 v,Below w.heap.size w w1->WayAt w1 (λ_=>True) (qi xs x) v->Calls prog 215 #[.pointer (some ⟨tb,0,none⟩),cxN S x,v] w1 (uQ U lo tb f who L S w1 l)):=by
  intro w1 v h6 hv;rw[←hl];exact ai (qi xs x) L S w1 x v (h.below h6) hv (cov.rel x) (cov.lv x) kx
 have HF:Hid (qI ts (qi xs) x=yA l l.length):=by
  show _=_
  unfold qI yA;rw[hl,O7 (Uc _)]
 have HT:Hid (TA U ts xs lo tb sb f who L S w):=h;rw[HF.out];generalize cxN S x=cx at *;obtain⟨nn,hd⟩: ∃nn,l.length=nn:=⟨_,rfl⟩;have hi:Hid (l.length=nn):=hd;rw[hd]at hE ⊢;clear h kx hl HF hd;go_enter func182,ntmps182
 go_wp2_with(first|(go_at_call 204;refine hC.out.mono ?_;rintro e w1 ⟨is,a,b,y,n,c,rfl,hq,h6⟩;have hu:Hid (WayAt w1 (λ_=>True) (qi xs x) (.agg #[.int .i64 is,.string a,.string b,.slice y n c])):=hq;clear hq)|(go_at_call 215;refine(hG.out _ _ h6 hu.out).mono ?_;rintro e w2 ⟨L2,S2,o,cc,rfl,h4,hj,hs,ho⟩;clear hj;have h7:Hid (yz w2 (.slice o l.length cc) (l.map (cxN S2))):=h4;have hr:Hid (∀y∈l,Kn S2 y):=hs;have ha:Hid (RStep U lo tb f who L S w1 L2 S2 w2):=ho;clear h4 hs ho;rw[hi.out]at h7 ⊢))
 have hB:Hid (TS.Ok U S2):=ha.out.at'.ok
 go_loopw [5,15] (λnm i wr=> ∃(k:Nat) (nm':Value),nm'=nm/\k<=nn/\i=.int .i64 k/\wr.ownsRow w2.heap.size 136 1 nm' (yA l k).length ((yA l k).map (cxN S2))/\Below w2.heap.size w2 wr) (λ_ i _=>nn-(intOf i).toNat)
 case atStart=>
  refine⟨0,_,rfl,Um _,rfl,?_,Ou _ _⟩;have:yA l 0=[]:=by simp[yA]
  rw[this];exact World.ownsRow_nil _ _ _ _
 case round=>
  obtain⟨k,nm,rfl,hk,rfl,h0,hb⟩:=hrel;by_cases hlt:k<nn
  ·have hp:k<l.length:=by have:=hi.out;omega
   obtain⟨z,hz⟩: ∃z,l[k]?=some z:=⟨_,OC hp⟩;obtain⟨o',c',he,hc⟩:=h7.out.below hb;obtain⟨g,ht,h5⟩:=hc k (cxN S2 z) (by rw[OF,hz];rfl)
   have hI:o=some ⟨g,0,none⟩:=by injection he with he;rw[he];exact ht
   subst hI;have kz:Kn S2 z:=hr.out z (OZ hz);have h8:=λw1=>dS (S:=S2) (U:=U) hB.out kz w1;have hf:Hid (wr.ownsRow w2.heap.size 136 1 nm (yA l k).length ((yA l k).map (cxN S2))):=h0;have HZ:Hid (l[k]?=some z):=hz;clear he hc ht hz hp kz h0;cases hzt:z.isTh
   ·rw[hzt]at h8
    have hn:Hid (∀p q,cxN S2 z=.complex .f64 p q->_):=λp q h9=>Kc (by have:=hi.out;omega) hf.out hb HZ.out hzt (p:=p) (q:=q) h9
    obtain⟨nx,nc,hD⟩:=qz hf.out;generalize (yA l k).length=m at *;subst hD;obtain⟨p,q,h9⟩: ∃p q,cxN S2 z=.complex .f64 p q:=⟨_,_,rfl⟩;obtain⟨v',w3,hF,⟨vx,vc,rfl⟩,h2,hx⟩:=hn.out p q h9;have hg:Hid (w3.ownsRow w2.heap.size 136 1 (.slice vx (m+1) vc) (yA l (k+1)).length ((yA l (k+1)).map (cxN S2))):=h2;rw[h9]at h5 h8;clear hzt hn h2 h9
    go_wp2_with(first|(go_at_call 181;refine(h8 _).mono ?_;rintro e w1' ⟨rfl,hA⟩;subst w1')|(at_builtin;refine qo rfl (.tmp 22) (.tmp 24) 170 rfl _ _ _ rfl rfl hF ?_))
    go_roundw
    case rel=>exact⟨k+1,_,rfl,by omega,by go_num,hg.out,hx⟩
    case measure=>simp[intOf];omega
   ·rw[hzt]at h8
    have hg:Hid (wr.ownsRow w2.heap.size 136 1 nm (yA l (k+1)).length ((yA l (k+1)).map (cxN S2))):=by
     show World.ownsRow _ _ _ _ _ _ _
     rw[Gw HZ.out hzt];exact hf.out
    clear hzt;generalize cxN S2 z=cz at *
    go_wp2_with(go_at_call 181;refine(h8 _).mono ?_;rintro e w1' ⟨rfl,hA⟩;subst w1')
    go_roundw
    case rel=>exact⟨k+1,_,rfl,by omega,by go_num,hg.out,hb⟩
    case measure=>simp[intOf];omega
  ·obtain rfl:k=nn:=by omega
   have hm:Hid (lU U lo tb f who L S w (yA l k) (.returned nm) wr):=by
    have r:=(RStep.below HT.out.t h6).trans (ha.out.trans (RStep.below ha.out.at' hb));refine⟨L2,S2,nm,rfl,xM h0 (Ue h6.size ha.out.fr.size),λy hy=>?_,r⟩;have:=(OW.1 hy).1;exact hr.out y (List.mem_of_mem_take this)
   clear h0;go_wp2;go_ret;exact hm.out
def aO(U:List BA)(lo tb:Nat)(f:Nod->Option Value)(who:Nod->Nat)(L:TL)(S:TS)(w:World)(c:Nat)(e:Ending)(w':World):Prop:=
 e=.returned (.int .u64 c)/\ ∃L' S',RStep U lo tb f who L S w L' S' w'
def gO(U:List BA)(ts:List (Nod×Nod))(xs:List BA)(lo tb sb:Nat)(f:Nod->Option Value)(who:Nod->Nat)(t:WayT):Prop:=
 ∀(L:TL) (S:TS) (w:World) (x:Nod) (v:Value),TA U ts xs lo tb sb f who L S w->WayAt w (λ_=>True) t v->(∀r∈xH t,r∈U)->lvW t<=201->Kn S x->
  Calls prog 203 #[.pointer (some ⟨tb,0,none⟩),cxN S x,v] w (aO U lo tb f who L S w (crW ts who x t))
end Go.Proofs.YtalmoiogbdahcaaGreat
namespace Go.Proofs.YtalmoiogbdahcaaGreat
set_option maxRecDepth 100000
set_option maxHeartbeats 8000000
open Go.RowKit
variable{b a:BA}{k lo p q sb tb:Nat}{y x:Nod}{L L3:TL}{S S2 S3:TS}{U xs:List BA}{bx:List Value}{f:Nod->Option Value}{nm rv:Value}{ts:List (Nod×Nod)}{w w2 wr:World}{l:List WayT}{t:WayT}{is:Int}{α:Type}
theorem TA.who{who:Nod->Nat}(h:TA U ts xs lo tb sb f who L S w)(kx:Kn S x):
  (Instr.lookup 180 (.map (some L.mw)) (cxN S x) false).run prog w=.ok (.int .u64 (who x)) w:=by
 obtain⟨m,h1,h2⟩:=h.t.wh;have hl:=(uV da underlying180 h1 (h.t.ok.good kx) (zeroValue184 w)).2;rw[h2.2.1 x kx]at hl;exact hl
variable{who:Nod->Nat}
def orK(who:Nod->Nat)(l:List Nod)(k:Nat):Nat:=orW who (l.take k)
theorem Kd{l:List Nod}(hy:l[k]?=some y):orK who l (k+1)=orK who l k|||who y:=by
 obtain⟨hk,e⟩:=OE.1 hy;unfold orK orW;rw[O8 hk,e,List.foldl_append]
 rfl
theorem mT{n:Nat}(h:n<2 ^ 64):IntKind.u64.wrap (n:Int)=n:=by
 unfold IntKind.wrap;simp[IntKind.bits,IntKind.signed];omega
theorem tG{a b:Nat}(ha:a<2 ^ 64)(hb:b<2 ^ 64):bits .or .u64 (a:Int) (b:Int)=((a|||b:Nat):Int):=by
 unfold bits;have e1:BitVec.ofInt IntKind.u64.bits (a:Int)=BitVec.ofNat 64 a:=BitVec.ofInt_natCast _ _;have e2:BitVec.ofInt IntKind.u64.bits (b:Int)=BitVec.ofNat 64 b:=BitVec.ofInt_natCast _ _;have e3:(BitVec.ofNat 64 a|||BitVec.ofNat 64 b).toNat=a|||b:=by
  rw[BitVec.toNat_or,BitVec.toNat_ofNat,BitVec.toNat_ofNat,Nat.mod_eq_of_lt ha,Nat.mod_eq_of_lt hb]
 dsimp only;rw[e1,e2];show IntKind.u64.wrap ((BitVec.ofNat 64 a|||BitVec.ofNat 64 b).toNat:Int)=_
 rw[e3,mT (Nat.or_lt_two_pow ha hb)]
theorem lV{a b:Nat}(ha:a<2 ^ 64)(hb:b<2 ^ 64):bits .and .u64 (a:Int) (b:Int)=((a &&& b:Nat):Int):=by
 unfold bits;have e1:BitVec.ofInt IntKind.u64.bits (a:Int)=BitVec.ofNat 64 a:=BitVec.ofInt_natCast _ _;have e2:BitVec.ofInt IntKind.u64.bits (b:Int)=BitVec.ofNat 64 b:=BitVec.ofInt_natCast _ _;have e3:(BitVec.ofNat 64 a &&& BitVec.ofNat 64 b).toNat=a &&& b:=by
  rw[BitVec.toNat_and,BitVec.toNat_ofNat,BitVec.toNat_ofNat,Nat.mod_eq_of_lt ha,Nat.mod_eq_of_lt hb]
 dsimp only;rw[e1,e2];show IntKind.u64.wrap ((BitVec.ofNat 64 a &&& BitVec.ofNat 64 b).toNat:Int)=_
 rw[e3,mT (Nat.and_lt_two_pow _ hb)]
theorem Ke(ts:List (Nod×Nod))(who:Nod->Nat)(x:Nod)(l:List WayT)(t:WayT):crO ts who x (l++[t])=crO ts who x l|||crW ts who x t:=by
 induction l with
 |nil=>simp[crO]
 |cons a l ih=>rw[List.cons_append,crO,crO,ih,Nat.or_assoc]
theorem Kf(ts:List (Nod×Nod))(who:Nod->Nat)(x:Nod)(l:List WayT)(t:WayT):crA ts who x (l++[t])=crA ts who x l &&& crW ts who x t:=by
 induction l with
 |nil=>
  simp[crA,Nat.and_comm]
 |cons a l ih=>rw[List.cons_append,crA,crA,ih,Nat.and_assoc]
theorem js{l:List α}{t:α}(h:l[k]?=some t):l.take (k+1)=l.take k++[t]:=by
 obtain⟨hk,e⟩:=OE.1 h;rw[O8 hk,e]
structure CrInv(U:List BA)(ts:List (Nod×Nod))(xs:List BA)(lo tb sb:Nat)(f:Nod->Option Value)(who:Nod->Nat)(L:TL)(S:TS)(w:World)(wt:WayT)(wv:Value)(L3:TL)(S3:TS)(wr:World):Prop where
 ta:TA U ts xs lo tb sb f who L3 S3 wr
 st:RStep U lo tb f who L S w L3 S3 wr
 wy:WayAt wr (λ_=>True) wt wv
def lW(F:Nat)(g:List WayT->Nat)(U:List BA)(ts:List (Nod×Nod))(xs:List BA)(lo tb sb:Nat)(f:Nod->Option Value)(who:Nod->Nat)(x:Nod)(l:List WayT):Prop:=
 ∀(L:TL) (S:TS) (w:World) (is:Int) (a b:BA) (o:Option Addr) (c:Nat),TA U ts xs lo tb sb f who L S w->WayAt w (λ_=>True) (.mk is a b l) (.agg #[.int .i64 is,.string a,.string b,.slice o l.length c])->(∀r∈yp l,r∈U)->lvL l<=201->Kn S x->
  Calls prog F #[.pointer (some ⟨tb,0,none⟩),cxN S x,.slice o l.length c] w (aO U lo tb f who L S w (g l))
theorem YE(hs: ∀y,who y<2 ^ 64)(HC:Hid (∀t∈l,gO U ts xs lo tb sb f who t)):lW 221 (crO ts who x) U ts xs lo tb sb f who x l:=by
 intro L S w is a b o c h hv hrel h4 kx;have h3:Hid (CrInv U ts xs lo tb sb f who L S w (.mk is a b l) (.agg #[.int .i64 is,.string a,.string b,.slice o l.length c]) L S w):=⟨h,RStep.below h.t (Ou _ _),hv⟩;have ha:Hid (Kn S x):=kx;have HR:Hid (∀r∈yp l,r∈U):=hrel;have ho:Hid (lvL l<=201):=h4;have hq:l.length<=1000:=by
  rcases Nat.eq_zero_or_pos l.length with e|e
  ·omega
  ·obtain⟨o',c',e1,hp⟩:=hv.parts
   obtain⟨g,pi,pa,pb,po,pn,pc,-,-,-,-,-,-,hj⟩:=hp 0 l[0] (OC e);exact hj
 obtain⟨cx,h1⟩: ∃cx,cxN S x=cx:=⟨_,rfl⟩;have hu:Hid (cxN S x=cx):=h1;rw[h1];obtain⟨nn,h0⟩: ∃nn,l.length=nn:=⟨_,rfl⟩;have h8:Hid (l.length=nn):=h0;have h5:Hid (∀y,who y<2 ^ 64):=hs;rw[h0]at h3 hq ⊢;clear h hv hrel h4 kx h1 h0 hs;go_enter func221,ntmps221;go_wp2
 go_loopw [7,12] (λac i wr=> ∃(k:Nat) (L3:TL) (S3:TS),ac=.int .u64 (crO ts who x (l.take k):Nat)/\k<=nn/\i=.int .i64 k/\CrInv U ts xs lo tb sb f who L S w (.mk is a b l) (.agg #[.int .i64 is,.string a,.string b,.slice o nn c]) L3 S3 wr) (λ_ i _=>nn-(intOf i).toNat)
 case atStart=>exact⟨0,L,S,by simp[crO],Um _,rfl,h3.out⟩
 case round=>
  obtain⟨k,L3,S3,rfl,hk,rfl,hI⟩:=hrel;have HI:Hid (CrInv U ts xs lo tb sb f who L S w (.mk is a b l) (.agg #[.int .i64 is,.string a,.string b,.slice o nn c]) L3 S3 wr):=hI;clear hI h3;by_cases hlt:k<nn
  ·have h6:k<l.length:=by have:=h8.out;omega
   obtain⟨t,ht⟩: ∃t,l[k]?=some t:=⟨_,OC h6⟩;obtain⟨o',c',he,hp⟩:=HI.out.wy.parts;obtain⟨g,pi,pa,pb,po,pn,pc,hb,h9,p0,p1,p2,p3,-⟩:=hp k t ht;have hx:o=some ⟨g,0,none⟩:=by
    simp only[Value.agg.injEq,Array.mk.injEq,List.cons.injEq,Value.slice.injEq]at he;rw[he.2.2.2.1.1];exact hb
   subst hx;have hm:=OZ ht;have hl:Hid (∀w1,Below wr.heap.size wr w1->Calls prog 203 #[.pointer (some ⟨tb,0,none⟩),cx,.agg #[.int .i64 pi,.string pa,.string pb,.slice po pn pc]] w1 λe w2=>e=.returned (.int .u64 (crW ts who x t))/\ ∃L4 S4,CrInv U ts xs lo tb sb f who L S w (.mk is a b l) (.agg #[.int .i64 is,.string a,.string b,.slice (some ⟨g,0,none⟩) nn c]) L4 S4 w2):=by
    intro w1 h2;have hi:=ha.out.le HI.out.st.le;have:=HC.out t hm L3 S3 w1 x _ (HI.out.ta.below h2) (h9.move2 λg _ hg hc=>⟨hg,h2.block g (qc hc)⟩) (λr hr=>HR.out r (ah hm hr)) (by have:=aN hm;have:=ho.out;omega) hi
    rw[yI HI.out.st.le ha.out,hu.out]at this;refine this.mono ?_;rintro e w2 ⟨hf,L4,S4,r4⟩;have r:=(RStep.below HI.out.ta.t h2).trans r4;exact⟨hf,L4,S4,HI.out.ta.rstep r,HI.out.st.trans r,HI.out.wy.rstep HI.out.ta.t r⟩
   have hn:Hid (crO ts who x (l.take (k+1))=crO ts who x (l.take k)|||crW ts who x t):=by
    show _=_
    rw[js ht,Ke]
   have h7:Hid (crO ts who x (l.take k)<2 ^ 64/\crW ts who x t<2 ^ 64):=⟨fy h5.out _,cI h5.out _⟩;clear he hp hb h9 hm ht h6;generalize crO ts who x (l.take k)=ac at *;generalize crW ts who x t=cw at *
   go_wp2_with(go_at_call 203;refine(hl.out _ bl).mono ?_;rintro e w2 ⟨rfl,L4,S4,hd⟩;have hy:Hid (CrInv U ts xs lo tb sb f who L S w (.mk is a b l) (.agg #[.int .i64 is,.string a,.string b,.slice (some ⟨g,0,none⟩) nn c]) L4 S4 w2):=hd;clear hd)
   go_roundw
   case rel=>exact⟨k+1,L4,S4,by rw[hn.out,tG h7.out.1 h7.out.2],by omega,by go_num,hy.out⟩
   case measure=>simp[intOf];omega
  ·obtain rfl:k=nn:=by omega
   have e:l.take k=l:=O7 (by have:=h8.out;omega)
   rw[e];have HP:Hid (aO U lo tb f who L S w (crO ts who x l) (.returned (.int .u64 (crO ts who x l))) wr):=⟨rfl,L3,S3,HI.out.st⟩;clear e;go_wp2;go_ret;exact HP.out
theorem Xc(hs: ∀y,who y<2 ^ 64)(HC:Hid (∀t∈l,gO U ts xs lo tb sb f who t)):lW 222 (crA ts who x) U ts xs lo tb sb f who x l:=by
 intro L S w is a b o c h hv hrel h4 kx;have h3:Hid (CrInv U ts xs lo tb sb f who L S w (.mk is a b l) (.agg #[.int .i64 is,.string a,.string b,.slice o l.length c]) L S w):=⟨h,RStep.below h.t (Ou _ _),hv⟩;have ha:Hid (Kn S x):=kx;have HR:Hid (∀r∈yp l,r∈U):=hrel;have ho:Hid (lvL l<=201):=h4;have hq:l.length<=1000:=by
  rcases Nat.eq_zero_or_pos l.length with e|e
  ·omega
  ·obtain⟨o',c',e1,hp⟩:=hv.parts
   obtain⟨g,pi,pa,pb,po,pn,pc,-,-,-,-,-,-,hj⟩:=hp 0 l[0] (OC e);exact hj
 obtain⟨cx,h1⟩: ∃cx,cxN S x=cx:=⟨_,rfl⟩;have hu:Hid (cxN S x=cx):=h1;rw[h1];obtain⟨nn,h0⟩: ∃nn,l.length=nn:=⟨_,rfl⟩;have h8:Hid (l.length=nn):=h0;have h5:Hid (∀y,who y<2 ^ 64):=hs;rw[h0]at h3 hq ⊢;clear h hv hrel h4 kx h1 h0 hs;go_enter func222,ntmps222;go_wp2
 go_loopw [7,12] (λac i wr=> ∃(k:Nat) (L3:TL) (S3:TS),ac=.int .u64 (crA ts who x (l.take k):Nat)/\k<=nn/\i=.int .i64 k/\CrInv U ts xs lo tb sb f who L S w (.mk is a b l) (.agg #[.int .i64 is,.string a,.string b,.slice o nn c]) L3 S3 wr) (λ_ i _=>nn-(intOf i).toNat)
 case atStart=>exact⟨0,L,S,by simp[crA,ZX],Um _,rfl,h3.out⟩
 case round=>
  obtain⟨k,L3,S3,rfl,hk,rfl,hI⟩:=hrel;have HI:Hid (CrInv U ts xs lo tb sb f who L S w (.mk is a b l) (.agg #[.int .i64 is,.string a,.string b,.slice o nn c]) L3 S3 wr):=hI;clear hI h3;by_cases hlt:k<nn
  ·have h6:k<l.length:=by have:=h8.out;omega
   obtain⟨t,ht⟩: ∃t,l[k]?=some t:=⟨_,OC h6⟩;obtain⟨o',c',he,hp⟩:=HI.out.wy.parts;obtain⟨g,pi,pa,pb,po,pn,pc,hb,h9,p0,p1,p2,p3,-⟩:=hp k t ht;have hx:o=some ⟨g,0,none⟩:=by
    simp only[Value.agg.injEq,Array.mk.injEq,List.cons.injEq,Value.slice.injEq]at he;rw[he.2.2.2.1.1];exact hb
   subst hx;have hm:=OZ ht;have hl:Hid (∀w1,Below wr.heap.size wr w1->Calls prog 203 #[.pointer (some ⟨tb,0,none⟩),cx,.agg #[.int .i64 pi,.string pa,.string pb,.slice po pn pc]] w1 λe w2=>e=.returned (.int .u64 (crW ts who x t))/\ ∃L4 S4,CrInv U ts xs lo tb sb f who L S w (.mk is a b l) (.agg #[.int .i64 is,.string a,.string b,.slice (some ⟨g,0,none⟩) nn c]) L4 S4 w2):=by
    intro w1 h2;have hi:=ha.out.le HI.out.st.le;have:=HC.out t hm L3 S3 w1 x _ (HI.out.ta.below h2) (h9.move2 λg _ hg hc=>⟨hg,h2.block g (qc hc)⟩) (λr hr=>HR.out r (ah hm hr)) (by have:=aN hm;have:=ho.out;omega) hi
    rw[yI HI.out.st.le ha.out,hu.out]at this;refine this.mono ?_;rintro e w2 ⟨hf,L4,S4,r4⟩;have r:=(RStep.below HI.out.ta.t h2).trans r4;exact⟨hf,L4,S4,HI.out.ta.rstep r,HI.out.st.trans r,HI.out.wy.rstep HI.out.ta.t r⟩
   have hn:Hid (crA ts who x (l.take (k+1))=crA ts who x (l.take k) &&& crW ts who x t):=by
    show _=_
    rw[js ht,Kf]
   have h7:Hid (crA ts who x (l.take k)<2 ^ 64/\crW ts who x t<2 ^ 64):=⟨fA h5.out _,cI h5.out _⟩;clear he hp hb h9 hm ht h6;generalize crA ts who x (l.take k)=ac at *;generalize crW ts who x t=cw at *
   go_wp2_with(go_at_call 203;refine(hl.out _ bl).mono ?_;rintro e w2 ⟨rfl,L4,S4,hd⟩;have hy:Hid (CrInv U ts xs lo tb sb f who L S w (.mk is a b l) (.agg #[.int .i64 is,.string a,.string b,.slice (some ⟨g,0,none⟩) nn c]) L4 S4 w2):=hd;clear hd)
   go_roundw
   case rel=>exact⟨k+1,L4,S4,by rw[hn.out,lV h7.out.1 h7.out.2],by omega,by go_num,hy.out⟩
   case measure=>simp[intOf];omega
  ·obtain rfl:k=nn:=by omega
   have e:l.take k=l:=O7 (by have:=h8.out;omega)
   rw[e];have HP:Hid (aO U lo tb f who L S w (crA ts who x l) (.returned (.int .u64 (crA ts who x l))) wr):=⟨rfl,L3,S3,HI.out.st⟩;clear e;go_wp2;go_ret;exact HP.out
theorem YF(hs: ∀y,who y<2 ^ 64)(h3: ¬is=3)(h4: ¬is=4):gO U ts xs lo tb sb f who (.mk is a b l):=by
 intro L S w x v h hv hrel h6 kx;rw[crW,if_neg h3,if_neg h4];obtain⟨o,c,rfl,-⟩:=hv.parts;have t3:(is==3)=false:=by simpa using h3
 have t4:(is==4)=false:=by simpa using h4
 obtain⟨m,hm⟩: ∃m,qY ts x (.mk is a b l)=m:=⟨_,rfl⟩;have hn:m.length<=10251:=by
  rw[←hm];have h1:=vD ts x (.mk is a b l);have h3:=h.tn;have:lvW (.mk is a b l) * (ts.length+1)<=201 * 51:=Nat.mul_le_mul h6 (by omega)
  omega
 have hr:Hid (∀w1,Below w.heap.size w w1->Calls prog 215 #[.pointer (some ⟨tb,0,none⟩),cxN S x,.agg #[.int .i64 is,.string a,.string b,.slice o l.length c]] w1 (uQ U lo tb f who L S w1 m)):=by
  intro w1 hf;rw[←hm];exact ai _ L S w1 x _ (h.below hf) (hv.move2 λg _ hg hc=>⟨hg,hf.block g (qc hc)⟩) hrel h6 kx
 have HT:Hid (TA U ts xs lo tb sb f who L S w):=h;have hb:Hid (∀y,who y<2 ^ 64):=hs;rw[hm];generalize cxN S x=cx at *;obtain⟨nn,h7⟩: ∃nn,m.length=nn:=⟨_,rfl⟩;have h8:Hid (m.length=nn):=h7;rw[h7]at hn;generalize l.length=ll at *;clear h hv hrel h6 kx hm h7 h3 h4 hs;go_enter func203,ntmps203
 go_wp2_with(go_at_call 215;refine(hr.out _ bl).mono ?_;rintro e w2 ⟨L2,S2,o2,cc,rfl,h2,h9,hj,h0⟩;clear h9;have h5:Hid (yz w2 (.slice o2 m.length cc) (m.map (cxN S2))):=h2;have ho:Hid (∀y∈m,Kn S2 y):=hj;have hp:Hid (RStep U lo tb f who L S _ L2 S2 w2):=h0;have c5:w2.cell? ⟨tb,5,none⟩=some (.map (some L.mw)):=h0.at'.cellN (L:=L) h0.tie (j:=5) rfl;have hq:Hid (∀y,Kn S2 y->(Instr.lookup 180 (.map (some L.mw)) (cxN S2 y) false).run prog w2=.ok (.int .u64 (who y)) w2):=(λy ky=>(by have hz:=((HT.out.below bl).rstep h0).who ky;have e:L2.mw=L.mw:=(by rw[h0.loc]);rw[e]at hz;exact hz));clear h2 hj h0;rw[h8.out]at h5 ⊢)
 go_loop [7,31] (λac i=> ∃k:Nat,ac=.int .u64 (orK who m k:Nat)/\k<=nn/\i=.int .i64 k) (λ_ i=>nn-(intOf i).toNat)
 case atStart=>exact⟨0,by simp[orK,orW],Um _,rfl⟩
 case round=>
  obtain⟨k,rfl,hk,rfl⟩:=hrel;by_cases hlt:k<nn
  ·have hd:k<m.length:=by have:=h8.out;omega
   obtain⟨z,hz⟩: ∃z,m[k]?=some z:=⟨_,OC hd⟩;obtain⟨o',c',he,hc⟩:=h5.out;obtain⟨g,hl,ha⟩:=hc k (cxN S2 z) (by rw[OF,hz];rfl)
   have hu:o2=some ⟨g,0,none⟩:=by injection he with he;rw[he];exact hl
   subst hu;have hx:=hq.out z (ho.out z (OZ hz));have ht:Hid (orK who m (k+1)=orK who m k|||who z):=Kd hz;have hi:Hid (orK who m k<2 ^ 64/\who z<2 ^ 64):=⟨Yq hb.out _ _ (by decide),hb.out z⟩
   clear he hc hl hz hd;generalize orK who m k=ac at *;generalize who z=cw at *;generalize cxN S2 z=cz at *;go_wp2
   go_round
   case rel=>exact⟨k+1,by rw[ht.out,tG hi.out.1 hi.out.2],by omega,by go_num⟩
   case measure=>simp[intOf];omega
  ·obtain rfl:k=nn:=by omega
   have e:orK who m k=orW who m:=by unfold orK;rw[O7 (by have:=h8.out;omega)]
   rw[e];clear e;go_wp2;go_ret;exact⟨rfl,L2,S2,(RStep.below HT.out.t bl).trans hp.out⟩
theorem YG(HC:Hid (∀x,lW 221 (crO ts who x) U ts xs lo tb sb f who x l)):gO U ts xs lo tb sb f who (.mk 3 a b l):=by
 intro L S w x v h hv hrel h0 kx;rw[crW,if_pos rfl];rw[xH,if_neg (by decide)]at hrel
 rw[lvW,if_neg (by decide)]at h0
 obtain⟨o,c,rfl,-⟩:=hv.parts;have h2:Hid (∀w1,Below w.heap.size w w1->Calls prog 221 #[.pointer (some ⟨tb,0,none⟩),cxN S x,.slice o l.length c] w1 λe w2=>e=.returned (.int .u64 (crO ts who x l))/\aO U lo tb f who L S w (crO ts who x l) (.returned (.int .u64 (crO ts who x l))) w2):=by
  intro w1 h1;refine(HC.out x L S w1 3 a b o c (h.below h1) (hv.move2 λg _ hg hc=>⟨hg,h1.block g (qc hc)⟩) hrel h0 kx).mono ?_;rintro e w2 ⟨he,L2,S2,r⟩;exact⟨he,rfl,L2,S2,(RStep.below h.t h1).trans r⟩
 generalize cxN S x=cx at *;generalize crO ts who x l=cr at *;generalize l.length=ll at *;clear h hv hrel h0 kx HC;go_enter func203,ntmps203
 go_wp2_with(go_at_call 221;refine(h2.out _ bl).mono ?_;rintro e w2 ⟨rfl,hp⟩)
 go_ret;exact hp
theorem YH(HC:Hid (∀x,lW 222 (crA ts who x) U ts xs lo tb sb f who x l)):gO U ts xs lo tb sb f who (.mk 4 a b l):=by
 intro L S w x v h hv hrel h0 kx;rw[crW,if_neg (by decide),if_pos rfl]
 rw[xH,if_neg (by decide)]at hrel
 rw[lvW,if_neg (by decide)]at h0
 obtain⟨o,c,rfl,-⟩:=hv.parts;have h2:Hid (∀w1,Below w.heap.size w w1->Calls prog 222 #[.pointer (some ⟨tb,0,none⟩),cxN S x,.slice o l.length c] w1 λe w2=>e=.returned (.int .u64 (crA ts who x l))/\aO U lo tb f who L S w (crA ts who x l) (.returned (.int .u64 (crA ts who x l))) w2):=by
  intro w1 h1;refine(HC.out x L S w1 4 a b o c (h.below h1) (hv.move2 λg _ hg hc=>⟨hg,h1.block g (qc hc)⟩) hrel h0 kx).mono ?_;rintro e w2 ⟨he,L2,S2,r⟩;exact⟨he,rfl,L2,S2,(RStep.below h.t h1).trans r⟩
 generalize cxN S x=cx at *;generalize crA ts who x l=cr at *;generalize l.length=ll at *;clear h hv hrel h0 kx HC;go_enter func203,ntmps203
 go_wp2_with(go_at_call 222;refine(h2.out _ bl).mono ?_;rintro e w2 ⟨rfl,hp⟩)
 go_ret;exact hp
mutual
theorem fT{U:List BA}{ts:List (Nod×Nod)}{xs:List BA}{lo tb sb:Nat}{f:Nod->Option Value}{who:Nod->Nat}(hs: ∀y,who y<2 ^ 64):(t:WayT)->gO U ts xs lo tb sb f who t
 | .mk is a b l=>by
  by_cases h3:is=3
  ·rw[h3];exact YG (λx=>YE hs (aj hs l))
  ·by_cases h4:is=4
   ·rw[h4];exact YH (λx=>Xc hs (aj hs l))
   ·exact YF hs h3 h4
theorem aj{U:List BA}{ts:List (Nod×Nod)}{xs:List BA}{lo tb sb:Nat}{f:Nod->Option Value}{who:Nod->Nat}(hs: ∀y,who y<2 ^ 64):(l:List WayT)-> ∀t∈l,gO U ts xs lo tb sb f who t
 | [],_,h=>by cases h
 |a::l,t,h=>by
  rcases OT.1 h with e|h
  ·rw[e];exact fT hs a
  ·exact aj hs l t h
end
variable{Gd:Value->Prop}
theorem wX{P:Program}{t kt et:TypeId}(K:KeyOk P kt Gd)(ht:P.underlying t=some (.map kt et)){b:Nat}{m:List (Value×Value)}(h:zt w Gd b m){k:Value}(hk:Gd k)(v:Value):
  ∃w' m',(Instr.mapUpdate t (.map (some b)) k v).run P w=.ok () w'/\zt w' Gd b m'/\getM m' k=some v/\(∀x,x≠k->getM m' x=getM m x)/\(∀p∈m',p=(k,v)\/p∈m)/\w.grownBy w' (some b)/\w'.heap.size=w.heap.size:=by
 cases hg:getM m k with
 |none=>
  obtain⟨w',h1,h2,h3,h4⟩:=dN K ht h hk hg v;refine⟨w',_,h1,h2,?_,?_,?_,h3,h4⟩
  ·rw[vq hg];classical unfold getM;simp
  ·intro x hx
   cases hgx:getM m x with
   |none=>rw[vq hgx];classical unfold getM;simp[Ne.symm hx]
   |some y=>exact cD hgx _
  ·intro p hp
   rcases OS.1 hp with hp|hp
   ·exact Or.inr hp
   ·simp at hp;exact Or.inl hp
 |some u=>
  obtain⟨w',m',h1,h2,h3,h4,h5,h6⟩:=mi K ht h hk hg v;refine⟨w',m',h1,h2,h4,h3,?_,h5,h6⟩;intro p hp;obtain⟨es,c,q1,q2,q3,q4⟩:=h2;have h0:getM m' p.1=some p.2:=ia q4 hp
  classical
  by_cases e:p.1=k
  ·left
   rw[e,h4]at h0;injection h0 with h0;rw[←e,h0]
  ·right
   rw[h3 _ e]at h0;exact jX h0
theorem TA.put(h:TA U ts xs lo tb sb f who L S w)(kx:Kn S x)(c:Nat):
  ∃w',(Instr.mapUpdate 180 (.map (some L.mw)) (cxN S x) (.int .u64 c)).run prog w=.ok () w'/\TA U ts xs lo tb sb f (upd who x c) L S w'/\w.grownBy w' (some L.mw)/\w'.heap.size=w.heap.size:=by
 obtain⟨m,h1,h2,h3,h4,h5⟩:=h.t.wh;obtain⟨w',m',hr,m1,m2,m3,m4,hg,hz⟩:=wX da underlying180 h1 (h.t.ok.good kx) (.int .u64 c);obtain⟨⟨a1,a2,a3,a4,a5⟩,⟨b1,b2,b3,b4⟩,⟨c1,c2,c3⟩,⟨d1,d2⟩,e1⟩:=ij h.t.maps;have h0: ∃es cl,w.heap[L.mw]?=some (.map es cl):=by obtain⟨es,cl,q,-⟩:=h1;exact⟨es,cl,q⟩
 obtain⟨es,cl,h0⟩:=h0;have kC: ∀(k:Nat) (cur:Array Value) (t:TypeId),w.heap[k]?=some (.cells cur t (0,0))->w'.heap[k]?=w.heap[k]?:=by
  intro k cur t hk;refine hg.block k (qc hk) λe=>?_;have e2:L.mw=k:=by first|exact Option.some.inj e|exact(Option.some.inj e).symm
  rw[←e2,h0]at hk;injection hk with hk;cases hk
 have kM: ∀(k:Nat),k<w.heap.size->k≠L.mw->w'.heap[k]?=w.heap[k]?:=λk hk h6=>hg.block k hk λe=>h6 (by first|exact Option.some.inj e|exact(Option.some.inj e).symm)
 have kN: ∀{α:Type} {enc:α->Value} {cl:α->List Value} {Gd:Value->Prop} {tN tE:TypeId} {size nb mb:Nat} {sv:Value} {vs:List α},NumAt enc cl Gd tN tE size w lo nb mb sv vs->mb≠L.mw->NumAt enc cl Gd tN tE size w' lo nb mb sv vs:=by
  intro α enc cl Gd tN tE size nb mb sv vs hh h6;refine⟨(kC nb _ _ hh.blk).trans hh.blk,hh.map.move (kM mb hh.map.lt h6),qF hh.row λg hg=>?_,hh.nd,hh.lob,hh.lom⟩;obtain⟨-,-,cur,q⟩:=qf hh.row g hg;exact kC g cur _ q
 obtain⟨ms,h7,ha⟩:=h.t.sub;refine⟨w',hr,⟨⟨(kC tb _ _ h.t.blk).trans h.t.blk,kN h.t.th b4,kN h.t.rl c3,kN h.t.us d2,⟨ms,h7.move (kM _ h7.lt e1),ha⟩,⟨m',m1,?_,?_,?_,?_⟩,h.t.ok,h.t.maps,h.t.ntu,h.t.stu,h.t.lob,h.t.los,h.t.low⟩,?_,?_,by rw[hz];exact h.sb,h.tn⟩,hg,hz⟩
 ·intro p hp
  rcases m4 p hp with e|e
  ·rw[e];exact⟨x,kx,rfl⟩
  ·exact h2 p e
 ·intro y ky
  unfold upd;split
  ·rename_i e;rw[e,m2];rfl
  ·rename_i e
   rw[m3 _ (λe2=>e (h.t.ok.inj ky kx e2))];exact h3 y ky
 ·intro y ky
  unfold upd;rw[if_neg (λe=>ky (by rw[e];exact kx))];exact h4 y ky
 ·intro p hp
  rcases m4 p hp with e|e
  ·rw[e];exact⟨c,rfl⟩
  ·exact h5 p e
 ·have h9:Frm (λk=>k=L.mw) w w':=Frm.of_grown hg (λk e=>(Option.some.inj e).symm)
  refine h.s.keep h9 λk hk e cur hc=>?_;rw[e,h0]at hc;injection hc with hc;cases hc
 ·exact h.r.move (λGd m hm=>kM _ hm.lt a5) λg cur h8=>kC g cur _ h8
structure GStep(U:List BA)(ts:List (Nod×Nod))(xs:List BA)(lo tb sb:Nat)(f:Nod->Option Value)(who:Nod->Nat)(L:TL)(S:TS)(w:World)(who':Nod->Nat)(L':TL)(S':TS)(w':World):Prop where
 at':TA U ts xs lo tb sb f who' L' S' w'
 fr:Frm (λk=>mS L k\/k=L.mw) w w'
 own: ∀k,L'.sr.ownBlock=some k->L.sr.ownBlock=some k\/w.heap.size<=k
 loc:L'={L with sr:=L'.sr}
 ths:S'.ths=S.ths
 uss:S'.uss=S.uss
 pre:S.rels<+:S'.rels
 _dom:who=who
variable{L':TL}{S':TS}{w':World}{who':Nod->Nat}
theorem GStep.le(h:GStep U ts xs lo tb sb f who L S w who' L' S' w'):S.le S':=⟨by rw[h.ths];exact List.prefix_refl _,h.pre⟩
theorem GStep.of(h:TA U ts xs lo tb sb f who L S w)(r:RStep U lo tb f who L S w L' S' w'):GStep U ts xs lo tb sb f who L S w who L' S' w':=
 ⟨h.rstep r,r.fr.mono λ_ _ e=>Or.inl e,r.own,r.loc,r.ths,r.uss,r.pre,rfl⟩
theorem GStep.trans{who'':Nod->Nat}{L'':TL}{S'':TS}{w'':World}(h:GStep U ts xs lo tb sb f who L S w who' L' S' w')(k:GStep U ts xs lo tb sb f who' L' S' w' who'' L'' S'' w''):GStep U ts xs lo tb sb f who L S w who'' L'' S'' w'':=by
 refine⟨k.at',h.fr.trans k.fr ?_,?_,by rw[k.loc,h.loc],k.ths.trans h.ths,k.uss.trans h.uss,h.pre.trans k.pre,rfl⟩
 ·intro j hj hx
  rcases hx with(e|e|e)|e
  ·rw[h.loc]at e;exact Or.inl (Or.inl e)
  ·rw[h.loc]at e;exact Or.inl (Or.inr (Or.inl e))
  ·rcases h.own j e with e|e
   ·exact Or.inl (Or.inr (Or.inr e))
   ·omega
  ·rw[h.loc]at e;exact Or.inr e
 ·intro j hj
  rcases k.own j hj with e|e
  ·exact h.own j e
  ·exact Or.inr (Ue h.fr.size e)
theorem YI(HW:Hid xh)(cov:Cov U xs)(hs: ∀y,who y<2 ^ 64)(h:TA U ts xs lo tb sb f who L S w)(kx:Kn S x):
  Calls prog 177 #[.pointer (some ⟨tb,0,none⟩),cxN S x] w λe w'=>e=.returned (.bool (decide (crW ts who x (qi xs x)≠who x)))/\ ∃L' S',GStep U ts xs lo tb sb f who L S w (upd who x (crW ts who x (qi xs x))) L' S' w':=by
 have h6:Hid (∀w0,Below w.heap.size w w0->Calls prog 204 #[.pointer (some ⟨tb,0,none⟩),cxN S x] w0 λe w'=> ∃is a b y n c,e=.returned (.agg #[.int .i64 is,.string a,.string b,.slice y n c])/\WayAt w' (λ_=>True) (qi xs x) (.agg #[.int .i64 is,.string a,.string b,.slice y n c])/\Below w.heap.size w w'/\w'.cell? ⟨tb,5,none⟩=some (.map (some L.mw))):=by
  intro w0 h4;have h0:=h.below h4;refine(HW.out h0.t h0.r kx (h.t.okx kx).1 (h.t.okx kx).2).mono ?_;rintro e w1 ⟨is,a,b,y,n,c,he,hw,hb⟩;have h9:=h4.trans (hb.mono h4.size);exact⟨is,a,b,y,n,c,he,hw,h9,(h.below h9).t.cellN rfl (j:=5) rfl⟩
 have hc:Hid (∀w1 v,Below w.heap.size w w1->WayAt w1 (λ_=>True) (qi xs x) v->Calls prog 203 #[.pointer (some ⟨tb,0,none⟩),cxN S x,v] w1 λe w2=>e=.returned (.int .u64 (crW ts who x (qi xs x)))/\w2.cell? ⟨tb,5,none⟩=some (.map (some L.mw))/\ ∃w3,(Instr.mapUpdate 180 (.map (some L.mw)) (cxN S x) (.int .u64 (crW ts who x (qi xs x)))).run prog w2=.ok () w3/\w3.cell? ⟨tb,5,none⟩=some (.map (some L.mw))/\(Instr.lookup 180 (.map (some L.mw)) (cxN S x) false).run prog w3=.ok (.int .u64 (crW ts who x (qi xs x))) w3/\ ∃L' S',GStep U ts xs lo tb sb f who L S w (upd who x (crW ts who x (qi xs x))) L' S' w3):=by
  intro w1 v h2 hv;refine(fT hs (qi xs x) L S w1 x v (h.below h2) hv (cov.rel x) (cov.lv x) kx).mono ?_;rintro e w2 ⟨he,L2,S2,r2⟩;have r:=(RStep.below h.t h2).trans r2;have t2:=h.rstep r;have k2:=kx.le r.le;obtain⟨w3,ha,t3,g3,z3⟩:=t2.put k2 (crW ts who x (qi xs x));have h7:L2.mw=L.mw:=by rw[r.loc]
  have h3:=t3.who k2;have ew:upd who x (crW ts who x (qi xs x)) x=crW ts who x (qi xs x):=by unfold upd;rw[if_pos rfl]
  rw[ew]at h3;rw[h7,yI r.le kx]at ha h3;have hg:Frm (λk=>k=L.mw) w2 w3:=Frm.of_grown g3 (λk e=>by rw[←Option.some.inj e,h7])
  refine⟨he,t2.t.cellN (L:=L) r.tie (j:=5) rfl,w3,ha,t3.t.cellN (L:=L) r.tie (j:=5) rfl,h3,L2,S2,t3,(r.fr.mono λ_ _ e=>Or.inl e).trans hg (λj _ e=>Or.inr e),r.own,r.loc,r.ths,r.uss,r.pre,rfl⟩
 have c5:=qa h.t.blk (j:=5) rfl;have h5:=h.who kx;generalize cxN S x=cx at *;generalize crW ts who x (qi xs x)=cr at *;obtain⟨wx,hd⟩: ∃wx,who x=wx:=⟨_,rfl⟩;rw[hd]at h5 ⊢;clear h kx hd hs cov;go_enter func177,ntmps177;go_wp2
 go_cut []from 12 to 22 (λwx=>wx.cell? ⟨tb,5,none⟩=some (.map (some L.mw))/\(Instr.lookup 180 (.map (some L.mw)) cx false).run prog wx=.ok (.int .u64 cr) wx/\ ∃L' S',GStep U ts xs lo tb sb f who L S w (upd who x cr) L' S' wx)
 case first=>
  go_region_with(first|(go_at_call 204;refine(h6.out _ bl).mono ?_;rintro e w1 ⟨is,a,b,y,n,c,rfl,h8,h2,d5⟩;have hf:Hid (WayAt w1 (λ_=>True) (qi xs x) (.agg #[.int .i64 is,.string a,.string b,.slice y n c])):=h8;clear h8)|(go_at_call 203;refine(hc.out _ _ h2 hf.out).mono ?_;rintro e w2 ⟨rfl,e5,w3,hi,f5,h1,hG⟩;have HG:Hid (∃L' S',GStep U ts xs lo tb sb f who L S w (upd who x cr) L' S' w3):=hG;clear hG))
  all_goals (go_wp2_with fail;go_meet)
  all_goals exact⟨f5,h1,HG.out⟩
 case rest=>
  obtain⟨g5,h1,hG⟩:=hcut;have HG:Hid (∃L' S',GStep U ts xs lo tb sb f who L S w (upd who x cr) L' S' wc):=hG;clear hG hc h6;go_wp2;go_ret;refine⟨zo ?_,HG.out⟩;by_cases e:cr=wx
  ·rw[e];simp
  ·have e2: ¬(cr:Int)=(wx:Int):=by omega
   simp[e,e2]
def fU(L:TL)(sb:Nat)(w:World)(k:Nat):Prop:=
 (sb<=k/\ ∃cur,w.heap[k]?=some (.cells cur 136 (0,0)))\/(∃cur t,w.heap[k]?=some (.cells cur t (0,0))/\t∉[136,182,176,223,75,9,106])\/
   (∃es cl,w.heap[k]?=some (.map es cl)/\k∉[L.mb,L.mt,L.mr,L.mu,L.ms,L.mw])
variable{X:Nat->Prop}
theorem TA.keep(h:TA U ts xs lo tb sb f who L S w)(hf:Frm X w w')(hx: ∀k,k<w.heap.size->X k->fU L sb w k):TA U ts xs lo tb sb f who L S w':=by
 have kC: ∀(k:Nat) (cur:Array Value) (t:TypeId),w.heap[k]?=some (.cells cur t (0,0))->t∈[182,176,223,75,9,106]->w'.heap[k]?=w.heap[k]?:=by
  intro k cur t hk t1;refine hf.block k (qc hk) λh0=>?_;rcases hx k (qc hk) h0 with⟨-,cur',h'⟩|⟨cur',t',h',hn⟩|⟨es,cl,h',-⟩
  ·rw[hk]at h';injection h' with h';injection h' with _ h'
   rw[h']at t1;revert t1;decide
  ·rw[hk]at h';injection h' with h';injection h' with _ h'
   exact hn (by rw[←h'];exact OU _ t1)
  ·rw[hk]at h';injection h' with h';cases h'
 have kM: ∀(k:Nat) (Gd:Value->Prop) (m:List (Value×Value)),zt w Gd k m->k∈[L.mb,L.mt,L.mr,L.mu,L.ms,L.mw]->w'.heap[k]?=w.heap[k]?:=λk Gd m hk hm=>hf.block k hk.lt λh0=>by
  obtain⟨es0,c0,q,-⟩:=hk;rcases hx k (Array.getElem?_eq_some_iff.1 q).1 h0 with⟨-,cur',h'⟩|⟨cur',t',h',hn⟩|⟨es,cl,h',hn⟩
  ·rw[q]at h';injection h' with h';cases h'
  ·rw[q]at h';injection h' with h';cases h'
  ·exact hn hm
 have kN: ∀{α:Type} {enc:α->Value} {cl:α->List Value} {Gd:Value->Prop} {tN tE:TypeId} {size nb mb:Nat} {sv:Value} {vs:List α},NumAt enc cl Gd tN tE size w lo nb mb sv vs->tN∈[182,176,223,75,9,106]->tE∈[182,176,223,75,9,106]->mb∈[L.mb,L.mt,L.mr,L.mu,L.ms,L.mw]->NumAt enc cl Gd tN tE size w' lo nb mb sv vs:=by
  intro α enc cl Gd tN tE size nb mb sv vs hh h1 h2 h3;refine⟨(kC nb _ _ hh.blk h1).trans hh.blk,hh.map.move (kM mb _ _ hh.map h3),qF hh.row λg hg=>?_,hh.nd,hh.lob,hh.lom⟩;obtain⟨-,-,cur,q⟩:=qf hh.row g hg;exact kC g cur _ q h2
 obtain⟨ms,h5,h7⟩:=h.t.sub;obtain⟨mw,h4,h6⟩:=h.t.wh;refine⟨⟨(kC tb _ _ h.t.blk (by decide)).trans h.t.blk,kN h.t.th (by decide) (by decide) (by simp),kN h.t.rl (by decide) (by decide) (by simp),kN h.t.us (by decide) (by decide) (by simp),⟨ms,h5.move (kM _ _ _ h5.map (by simp)),h7⟩,⟨mw,h4.move (kM _ _ _ h4 (by simp)),h6⟩,h.t.ok,h.t.maps,h.t.ntu,h.t.stu,h.t.lob,h.t.los,h.t.low⟩,?_,?_,Ue h.sb hf.size,h.tn⟩
 ·refine h.s.keep hf λk hk e cur hc=>?_
  rcases hx k (Ug hk h.sb) e with⟨hb,-⟩|⟨cur',t',h',hn⟩|⟨es,cl,h',-⟩
  ·omega
  ·rw[hc]at h';injection h' with h';injection h' with _ h';exact hn (by rw[←h'];simp)
  ·rw[hc]at h';injection h' with h';cases h'
 ·exact h.r.move (λGd m hm=>kM _ Gd m hm (by simp)) λg cur hg=>kC g cur _ hg (by decide)
variable{mb nb:Nat}{sv:Value}
theorem NumAt.enc{enc enc':α->Value}{tN tE:TypeId}{size:Nat}{vs:List α}(h:NumAt enc (λa=>[enc a]) Gd tN tE size w lo nb mb sv vs)(he: ∀a∈vs,enc' a=enc a):NumAt enc' (λa=>[enc' a]) Gd tN tE size w lo nb mb sv vs:=by
 have e1: ∀(l:List α) (n:Nat),(∀a∈l,enc' a=enc a)->vO enc' n l=vO enc n l:=by
  intro l
  induction l with
  |nil=>intro n _;rfl
  |cons a l ih=>intro n hh;rw[vO,vO,hh a (by simp),ih (n+1) (λb hb=>hh b (by simp[hb]))]
 have e2: ∀(l:List α),(∀a∈l,enc' a=enc a)->l.flatMap (λa=>[enc' a])=l.flatMap (λa=>[enc a]):=by
  intro l
  induction l with
  |nil=>intro _;rfl
  |cons a l ih=>intro hh;rw[List.flatMap_cons,List.flatMap_cons,hh a (by simp),ih (λb hb=>hh b (by simp[hb]))]
 exact⟨h.blk,by unfold cG;rw[e1 vs 0 he];exact h.map,by rw[e2 vs he];exact h.row,h.nd,h.lob,h.lom⟩
theorem nN(enc:α->Value)(l:List α):l.flatMap (λa=>[enc a])=l.map enc:=by
 induction l with
 |nil=>rfl
 |cons a l ih=>rw[List.flatMap_cons,ih];rfl
structure MetAt(L:TL)(sb:Nat)(S:TS)(w:World)(lo nb mb:Nat)(sv:Value)(met:List Nod):Prop where
 num:lJ (cxN S) w lo nb mb sv met
 kn: ∀y∈met,Kn S y
 ms:mb∉[L.mb,L.mt,L.mr,L.mu,L.ms,L.mw]
 svb: ∀k,sv.ownBlock=some k->sb<=k
variable{met:List Nod}
theorem MetAt.not(h:MetAt L sb S w lo nb mb sv met)(hk:ur nb mb sv k):fU L sb w k:=by
 rcases hk with rfl|rfl|hk
 ·exact Or.inr (Or.inl ⟨_,_,h.num.blk,by decide⟩)
 ·obtain⟨es,c,q,-⟩:=h.num.map
  exact Or.inr (Or.inr ⟨es,c,q,h.ms⟩)
 ·exact Or.inl ⟨h.svb k hk,(qf h.num.row k hk).2.2⟩
theorem MetAt.keep(h:MetAt L sb S w lo nb mb sv met)(hf:Frm X w w')(hx: ∀k,ur nb mb sv k-> ¬X k):MetAt L sb S w' lo nb mb sv met:=⟨h.num.keep hf hx,h.kn,h.ms,h.svb⟩
variable{lo2:Nat}
theorem MetAt.gstep(h:MetAt L sb S w lo2 nb mb sv met)(h0:TA U ts xs lo tb sb f who L S w)(r:GStep U ts xs lo tb sb f who L S w who' L' S' w'):MetAt L' sb S' w' lo2 nb mb sv met:=by
 have hk: ∀k,ur nb mb sv k-> ¬(mS L k\/k=L.mw):=by
  intro k hk hx;rcases hx with hx|hx
  ·rcases h.not hk with⟨-,cur,hc⟩|⟨cur,t,hc,hn⟩|⟨es,cl,hc,hn⟩
   ·rcases h0.t.rl.kind hx hc with e|e<;>revert e<;>decide
   ·rcases h0.t.rl.kind hx hc with e|e
    ·exact hn (by rw[e];decide)
    ·exact hn (by rw[e];decide)
   ·rcases hx with e|e|e
    ·have:=h0.t.rl.blk;rw[←e,hc]at this;injection this with this;cases this
    ·exact hn (by rw[e];simp)
    ·obtain⟨-,-,cur,q⟩:=qf h0.t.rl.row k e;rw[q]at hc;injection hc with hc;cases hc
  ·rw[hx]at hk
   obtain⟨m,hm,-⟩:=h0.t.wh;have:=h.num.kindM hk hm;exact h.ms (by rw[←this];simp)
 have hm:=h.keep r.fr hk;refine⟨hm.num.enc λa ha=>yI r.le (h.kn a ha),λy hy=>(h.kn y hy).le r.le,?_,h.svb⟩;rw[r.loc];exact h.ms
theorem MetAt.below(h:MetAt L sb S w lo nb mb sv met)(hb:Below w.heap.size w w'):MetAt L sb S w' lo nb mb sv met:=h.keep (X:=λ_=>False) (Frm.of_below hb) λ_ _ e=>e
theorem lX(h0:TA U ts xs lo tb sb f who L S w)(h:MetAt L sb S w lo2 nb mb sv met)(h1:lo2<=w.heap.size)(hn:met.length<=100000000)(kx:Kn S x):
  Calls prog 135 #[.pointer (some ⟨nb,0,none⟩),cxN S x] w λe w'=>(∃i:Nat,e=.returned (.int .i64 i))/\ ∃sv',TA U ts xs lo tb sb f who L S w'/\MetAt L sb S w' lo2 nb mb sv' (zz met x)/\Frm (ur nb mb sv) w w'/\(∀k,sv'.ownBlock=some k->sv.ownBlock=some k\/w.heap.size<=k):=by
 refine(tj (cxN S) x _ _ rfl h.num (h0.t.ok.good kx) (λa ha e=>h0.t.ok.inj (h.kn a ha) kx e) h1 hn).mono ?_;rintro e w' ⟨he,sv',h2,hf,ho⟩;refine⟨⟨_,he⟩,sv',h0.keep hf λk _ e=>h.not e,⟨h2,λy hy=>?_,h.ms,λk hk=>?_⟩,hf,ho⟩
 ·rcases yJ.1 hy with hy|hy
  ·exact h.kn y hy
  ·rw[hy];exact kx
 ·rcases ho k hk with e|e
  ·exact h.svb k e
  ·exact Ue h0.sb e
